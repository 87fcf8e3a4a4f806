/-
  Lemmas.
-/
import Derived.Test.YtiecfcjlhldhdaaGreatKnaj
import Derived.Test.YtiecfcjlhldhdaaGreatKnaf
import Derived.Test.YtiecfcjlhldhdaaGreatKnag
import Derived.Test.YtiecfcjlhldhdaaGreatKnae
import Derived.Shelf.SortM.Plain
import Derived.Shelf.SortM.SortNone
import Derived.Shelf.SlicesE.Compact
import Derived.Test.YtiecfcjlhldhdaaGreatRows
namespace Go.Proofs.YtiecfcjlhldhdaaGreat
open Go.RowKit Go.Proofs.Tryz
set_option linter.unusedVariables false
set_option linter.unusedSimpArgs false
set_option maxRecDepth 100000
set_option maxHeartbeats 4000000
variable {w w0 w' W:World}{l:List Un}{s:Sl}{g i p k n off:Nat}{t:List Int}{u:Un}{v:Vw}{c:Value}{e:TypeId}{r:Rw}
open Go.ChangeShapes Go.WideShapes Go.ChangeAt Go.RowKit
section
variable {H : Type} {enc : TypeId × Value → H} {w : World} {base : Nat} {spare : Nat → Bool} {held : Bool}
theorem Zlr {c0 c1 c2 c3 c4 c5 c6 c7 c8 c9 c10 c11:Value}{y:DataW H × List MemPlace}(hf:DataW.trod enc prog w base spare held k 65 [c0,c1,c2,c3,c4,c5,c6,c7,c8,c9,c10,c11]=some y) :
    ∃x:Ux,[c0,c1,c2,c3,c4,c5,c6,c7,c8,c9,c10,c11]=x.cells∧Fs w x.a x.n x.c x.u.row.xs∧x.u.fits:=by
  (have hR:prog.cellsOf 39=6:=by kernel_rfl);(have h4:prog.cellsOf 3=1:=by kernel_rfl);obtain⟨xs,n,_,_,_,ac,aa⟩:=DataW.trod_struct underlying65 hf
  match xs,ac with
  | [y0,y1,y2,y3,y4,y5,y6],_ =>
   (have t0:DataW.trod enc prog w base spare held n 3 [c0]=some y0:=by simpa [Value.cells,h4] using aa 0 _ rfl);(have t1:DataW.trod enc prog w base spare held n 3 [c1]=some y1:=by simpa [Value.cells,h4] using aa 1 _ rfl);(have t2:DataW.trod enc prog w base spare held n 3 [c2]=some y2:=by simpa [Value.cells,h4] using aa 2 _ rfl);(have t3:DataW.trod enc prog w base spare held n 3 [c3]=some y3:=by simpa [Value.cells,h4] using aa 3 _ rfl);(have t4:DataW.trod enc prog w base spare held n 3 [c4]=some y4:=by simpa [Value.cells,h4] using aa 4 _ rfl);(have t5:DataW.trod enc prog w base spare held n 3 [c5]=some y5:=by simpa [Value.cells,h4] using aa 5 _ rfl);(have t6:DataW.trod enc prog w base spare held n 39 [c6,c7,c8,c9,c10,c11]=some y6:=by simpa [Value.cells,hR] using aa 6 _ rfl);obtain⟨k0,e0,_,w0⟩:=DataW.trod_int underlying3 t0;obtain⟨k1,e1,_,w1⟩:=DataW.trod_int underlying3 t1;obtain⟨k2,e2,_,w2⟩:=DataW.trod_int underlying3 t2;obtain⟨k3,e3,_,w3⟩:=DataW.trod_int underlying3 t3;obtain⟨k4,e4,_,w4⟩:=DataW.trod_int underlying3 t4;obtain⟨k5,e5,_,w5⟩:=DataW.trod_int underlying3 t5;obtain⟨R,a,len,cap,e6,ad,ab⟩:=ZmO t6;simp only [List.cons.injEq,and_true] at e0 e1 e2 e3 e4 e5 e6;obtain⟨rfl,rfl,rfl,rfl,rfl,rfl⟩:=e6;subst e0 e1 e2 e3 e4 e5;exact⟨⟨⟨k0,k1,k2,k3,k4,k5,R⟩,a,len,cap⟩,rfl,ad,⟨w0,w1,w2,w3,w4,w5,ab⟩⟩
theorem ZkP {a:Option Addr}{len cap:Nat}{y:DataW H × List MemPlace}(h:DataW.trod enc prog w base spare held n 25 [.slice a len cap]=some y) :
    ∃l,Us w a len l∧len≤9223372036854775807:=by
  (have hC:prog.cellsOf 65=12:=by kernel_rfl);rcases Go.Deep.open_slice underlying25 h with ⟨ad,_⟩ | ⟨x,l,c,m,k,D,Pl,ad,hb,hl,hm,ah,_,hx⟩
  · simp only [List.cons.injEq,Value.slice.injEq,and_true] at ad;obtain⟨rfl,rfl,rfl⟩:=ad;exact⟨[],⟨rfl,(fun j hj=>absurd hj (Nat.not_lt_zero _)),(fun x hx=>by cases hx),fun x hx=>by cases hx⟩,by omega⟩
  · simp only [List.cons.injEq,Value.slice.injEq,and_true] at ad;obtain⟨rfl,rfl,rfl⟩:=ad;(have aj:len≤m:=by rw [ah];split <;> omega);have ai:0<len→x.spot=none:=by
     intro h0;obtain⟨cs,h1,_⟩:=hx 0 (by omega);rw [hC] at h1;obtain⟨_,ac,hc⟩:=World.cells?_some h1
     match cs,ac with
     | [c0,c1,c2,c3,c4,c5,c6,c7,c8,c9,c10,c11],_ =>
      have e0:=hc 0 (by omega);have:=World.cell?_spot (by simpa using e0);simpa [Addr.add] using this
    have each:∀i,i<len→∃t:Ux,∃b off,x=⟨b,off,none⟩∧UnAt w b (off+i*12) t∧Fs w t.a t.n t.c t.u.row.xs∧t.u.fits:=by
     intro i hi;obtain⟨cs,g1,g2⟩:=hx i (by omega);rw [hC] at g1;obtain⟨_,ac,hc⟩:=World.cells?_some g1
     match cs,ac with
     | [c0,c1,c2,c3,c4,c5,c6,c7,c8,c9,c10,c11],_ =>
      obtain⟨t,ht,ae,ab⟩:=Zlr g2;have aa:x.spot=none:=ai (by omega);obtain⟨b,off,spot⟩:=x;simp only at aa;subst aa;refine⟨t,b,off,rfl,UnAt.of fun q hq=>?_,ae,ab⟩;have e:=hc q (by omega);simp only [Addr.add_lit] at e;rw [← ht];simpa using e
    obtain⟨f,hf⟩:=@Go.Deep.choose_lt Ux ⟨Ux.zero⟩ len _ each;(have af:∀j,j<len→((List.range len).map f).getD j Ux.zero=f j:=fun j hj=>by simp [List.getD,hj]);refine⟨(List.range len).map f,⟨by simp,fun j hj=>?_,fun t ht=>?_,fun t ht=>?_⟩,by unfold maxLen at hm;omega⟩
    · obtain⟨b,off,rfl,ag,_⟩:=hf j hj;refine⟨b,off,rfl,?_⟩;rw [af j hj];exact ag
    · obtain⟨j,hj,rfl⟩:=List.mem_map.1 ht;obtain⟨_,_,_,_,ae,_⟩:=hf j (by simpa using hj);exact ae
    · obtain⟨j,hj,rfl⟩:=List.mem_map.1 ht;obtain⟨_,_,_,_,_,ab⟩:=hf j (by simpa using hj);exact ab
end
theorem Own.setC {z:Nat}{vs:List Value}(h:Own e z w s vs)(ha:s.a=some ⟨g,off,none⟩)(j:Nat)(u:Value):Own e z (w.setCell ⟨g,off+j,none⟩ u) s (vs.set j u):=by
 refine⟨by rw [List.length_set];exact h.1,?_⟩;rcases h.2 with ⟨h0,_⟩ | ⟨g',off',cur,ha',hg,ac,ab,aa,ht⟩
 · rw [h0] at ha;cases ha
 · rw [ha] at ha';simp only [Option.some.injEq,Addr.mk.injEq,and_true] at ha';obtain⟨rfl,rfl⟩:=ha';refine .inr ⟨g,off,_,ha,heap_setCell_same w g (off+j) cur e u hg,by simpa using ac,ab,aa,?_⟩;rw [Array.toList_setIfInBounds,List.drop_set,if_neg (by omega),Nat.add_sub_cancel_left,List.take_set,ht]
def setAt (w:World) (g o:Nat) (x:Ux):World:=(((((((((((w.setCell ⟨g,o,none⟩ (.int .i64 x.u.tx)).setCell ⟨g,o+1,none⟩ (.int .i64 x.u.no)).setCell ⟨g,o+2,none⟩ (.int .i64 x.u.prev)).setCell ⟨g,o+3,none⟩ (.int .i64 x.u.kind)).setCell ⟨g,o+4,none⟩ (.int .i64 x.u.page)).setCell ⟨g,o+5,none⟩ (.int .i64 x.u.slot)).setCell ⟨g,o+6,none⟩ (.float .f64 x.u.row.key)).setCell ⟨g,o+7,none⟩ (.bool x.u.row.dead)).setCell ⟨g,o+8,none⟩ (.slice x.a x.n x.c)).setCell ⟨g,o+9,none⟩ (.int .i64 x.u.row.wr)).setCell ⟨g,o+10,none⟩ (.int .i64 x.u.row.cell)).setCell ⟨g,o+11,none⟩ (.int .i64 x.u.row.no)
theorem ZmX (w:World)(g o:Nat)(x:Ux):Frm (fun k=>k=g) w (setAt w g o x):=
 ((((((((((((Frm.refl (fun k=>k=g) w).setCell (p:=⟨g,o,none⟩) rfl _).setCell (p:=⟨g,o+1,none⟩) rfl _).setCell (p:=⟨g,o+2,none⟩) rfl _).setCell (p:=⟨g,o+3,none⟩) rfl _).setCell (p:=⟨g,o+4,none⟩) rfl _).setCell (p:=⟨g,o+5,none⟩) rfl _).setCell (p:=⟨g,o+6,none⟩) rfl _).setCell (p:=⟨g,o+7,none⟩) rfl _).setCell (p:=⟨g,o+8,none⟩) rfl _).setCell (p:=⟨g,o+9,none⟩) rfl _).setCell (p:=⟨g,o+10,none⟩) rfl _).setCell (p:=⟨g,o+11,none⟩) rfl _
def Zet (vs:List Value) (p:Nat) (x:Ux):List Value:=(((((((((((vs.set (p) (.int .i64 x.u.tx)).set (p+1) (.int .i64 x.u.no)).set (p+2) (.int .i64 x.u.prev)).set (p+3) (.int .i64 x.u.kind)).set (p+4) (.int .i64 x.u.page)).set (p+5) (.int .i64 x.u.slot)).set (p+6) (.float .f64 x.u.row.key)).set (p+7) (.bool x.u.row.dead)).set (p+8) (.slice x.a x.n x.c)).set (p+9) (.int .i64 x.u.row.wr)).set (p+10) (.int .i64 x.u.row.cell)).set (p+11) (.int .i64 x.u.row.no)
theorem ZbQ (x:Ux)(l:List Ux):Zat (x :: l)=x.cells ++ Zat l:=rfl
theorem ZfB:∀(l:List Ux)(i:Nat)(x:Ux),i<l.length→Zat (l.set i x)=Zet (Zat l) (i*12) x
 | [],i,x,hi=>by simp at hi
 | y :: l,0,x,_=>by
  rw [List.set_cons_zero,ZbQ,ZbQ]
  simp [Zet,Ux.cells]
 | y :: l,i+1,x,hi=>by
  rw [List.set_cons_succ,ZbQ,ZbQ,ZfB l i x (by simpa using hi)]
  have hy:y.cells.length=12:=rfl
  have e:∀(vs:List Value) (p:Nat) (u:Value),(y.cells ++ vs).set (12+p) u=y.cells ++ vs.set p u:=fun vs p u=>by
   rw [List.set_append_right _ _ (by omega),hy,Nat.add_sub_cancel_left]
  unfold Zet
  rw [show (i+1)*12=12+i*12 by omega]
  simp only [Nat.add_assoc,e]
theorem Own.frozenAt {z:Nat}{vs:List Value}(h:Own e z w s vs)(ha:s.a=some ⟨g,off,none⟩)(p:Nat):w.frozen? ⟨g,p,none⟩=false:=by
 rcases h.2 with ⟨h0,_⟩ | ⟨g',off',cur,ha',hg,_⟩
 · rw [h0] at ha;cases ha
 · rw [ha] at ha';simp only [Option.some.injEq,Addr.mk.injEq,and_true] at ha';obtain⟨rfl,rfl⟩:=ha';exact frozen_of_row w g _ _ e hg
theorem Ud.set {l:List Ux}(h:Ud w0 w s l)(ha:s.a=some ⟨g,off,none⟩)(i:Nat)(hi:i<l.length)(x:Ux)(hx:Col w0 w x)(hf:x.u.fits) :
    ∃W,(Instr.storeAt 65 (.pointer (some ⟨g,off+i*12,none⟩)) x.val).run prog w=.ok () W∧Ud w0 W s (l.set i x)∧Frm (fun k=>k=g) w W:=by
  have ah:∀(w:World) (a:Addr) (m:Mode) (x:Nat),(store a (.float .f64 x) m).run prog w=stored prog w a (.float .f64 x) m:=fun w a m x=>run_store prog w a _ m rfl;have aa:=h.own.unAt ha i hi;have c0:=aa.c0;have c1:=aa.c1;have c2:=aa.c2;have c3:=aa.c3;have c4:=aa.c4;have c5:=aa.c5;have c6:=aa.c6;have c7:=aa.c7;have c8:=aa.c8;have c9:=aa.c9;have c10:=aa.c10;have c11:=aa.c11;have f0:=h.own.frozenAt ha;(have hB:s.blk=some g:=by rw [Sl.blk,ha];rfl);have ae:=ZmX w g (off+i*12) x;have ad:∀y,Col w0 w y→Col w0 (setAt w g (off+i*12) x) y:=by
   intro y hy;have ab:∀b o',y.a=some ⟨b,o',none⟩→0<y.n→(setAt w g (off+i*12) x).heap[b]? = w.heap[b]?:=by
    intro b o' ha' hn;obtain⟨b',o'',ha'',hc,_,_⟩:=hy.fs.at 0 hn;rw [ha''] at ha';cases ha';refine ae.block b (World.block_lt_of_cell? _ _ hc) ?_;rintro rfl;rcases hy.home b o' ha'' hn with k | ⟨C,fr,k⟩
    · have:=h.new b hB;omega
    · obtain⟨cur,ac⟩:=h.own.kind hB;rw [k] at ac;simp only [Option.some.injEq,Obj.cells.injEq] at ac;exact absurd ac.2.1 (by decide)
   refine⟨hy.fs.sameU ab,fun b o' ha' hn=>?_⟩;rcases hy.home b o' ha' hn with k | ⟨C,fr,k⟩
   · exact .inl k
   · exact .inr ⟨C,fr,(ab b o' ha' hn).trans k⟩
  refine⟨setAt w g (off+i*12) x,by simp [go_sem,Instr.storeAt,ah,stored,c0,c1,c2,c3,c4,c5,c6,c7,c8,c9,c10,c11,f0,Ux.val,Un.val,setAt],⟨?_,h.new,h.below.trans (ae.below h.below.size (fun k hk=>by rw [hk];exact h.new g hB)),fun y hy=>?_,fun y hy=>?_⟩,ae⟩
  · rw [ZfB l i x hi];unfold Zet setAt;have h0:=h.own.setC ha (i*12) (.int .i64 x.u.tx);have h1:=h0.setC ha (i*12+1) (.int .i64 x.u.no);have h2:=h1.setC ha (i*12+2) (.int .i64 x.u.prev);have h3:=h2.setC ha (i*12+3) (.int .i64 x.u.kind);have h4:=h3.setC ha (i*12+4) (.int .i64 x.u.page);have h5:=h4.setC ha (i*12+5) (.int .i64 x.u.slot);have h6:=h5.setC ha (i*12+6) (.float .f64 x.u.row.key);have h7:=h6.setC ha (i*12+7) (.bool x.u.row.dead);have h8:=h7.setC ha (i*12+8) (.slice x.a x.n x.c);have h9:=h8.setC ha (i*12+9) (.int .i64 x.u.row.wr);have ag:=h9.setC ha (i*12+10) (.int .i64 x.u.row.cell);have af:=ag.setC ha (i*12+11) (.int .i64 x.u.row.no);simp only [← Nat.add_assoc] at af;exact af
  · rcases List.mem_or_eq_of_mem_set hy with hy | rfl
    · exact ad y (h.cols y hy)
    · exact ad y hx
  · rcases List.mem_or_eq_of_mem_set hy with hy | rfl
    · exact h.fits y hy
    · exact hf
def Un.emp (u:Un):Bool:=u.same zeroU
theorem Un.emp_iff (u:Un):u.emp=true↔u=zeroU:=Un.same_iff _ _
theorem Zft:zeroU.emp=true:=(Un.emp_iff _).2 rfl
def okU (u:Un):Bool:=u.emp || u.may
def nosU (l:List Un):List Int:=(l.filter (fun u=>!u.emp)).map Un.no
def lenU (n:Nat):Bool:=decide (6≤n) && decide (n≤378) && decide (n % 6=0)
def MayU (l:List Un):Bool:=lenU l.length && (l.all okU && decide (nosU l).Nodup)
theorem Zg2 (n:Nat):lenU n=true↔6≤n∧n≤378∧n % 6=0:=by
 simp [lenU];omega
theorem ZkH (l:List Un):(nosU l).Nodup↔∀i j,i<j→j<l.length→(l.getD i zeroU).emp=false→(l.getD j zeroU).emp=false→(l.getD i zeroU).no≠(l.getD j zeroU).no:=by
 unfold nosU List.Nodup;rw [List.pairwise_map,List.pairwise_filter,List.pairwise_iff_getElem];constructor
 · intro h i j aa hj h1 h2;(have hi:i<l.length:=by omega);(have e1:l.getD i zeroU=l[i]:=by simp [List.getD,hi]);(have e2:l.getD j zeroU=l[j]:=by simp [List.getD,hj]);rw [e1] at h1 ⊢;rw [e2] at h2 ⊢;exact h i j hi hj aa (by rw [h1];rfl) (by rw [h2];rfl)
 · intro h i j hi hj aa h1 h2;(have e1:l.getD i zeroU=l[i]:=by simp [List.getD,hi]);(have e2:l.getD j zeroU=l[j]:=by simp [List.getD,hj]);have:=h i j aa hj (by rw [e1];simpa using h1) (by rw [e2];simpa using h2);rwa [e1,e2] at this
theorem unget (hi:i<l.length):l.getD i zeroU=l[i]:=by simp [List.getD,hi]
structure MayP (l:List Un):Prop where
  lo:6≤l.length
  hi:l.length≤378
  six:l.length % 6=0
  ok:∀i,i<l.length→okU (l.getD i zeroU)=true
  one:∀i j,i<j→j<l.length→(l.getD i zeroU).emp=false→(l.getD j zeroU).emp=false→(l.getD i zeroU).no≠(l.getD j zeroU).no
theorem Zdo (l:List Un):MayU l=true↔MayP l:=by
 unfold MayU;simp only [Bool.and_eq_true,decide_eq_true_eq,Zg2,List.all_eq_true,ZkH];constructor
 · rintro ⟨⟨h1,h2,h3⟩,h4,h5⟩;exact⟨h1,h2,h3,fun i hi=>by rw [unget hi];exact h4 _ (List.getElem_mem hi),h5⟩
 · intro h;refine⟨⟨h.lo,h.hi,h.six⟩,fun u hu=>?_,h.one⟩;obtain⟨i,hi,rfl⟩:=List.getElem_of_mem hu;rw [← unget hi];exact h.ok i hi
theorem Un.may_no (h:u.may=true):1≤u.no:=(Un.parts h).no.1
def SeenU (l:List Un) (n:Nat):Prop:=∀i,i<n→(l.getD i zeroU).emp=true∨((l.getD i zeroU).may=true∧∀k,k<i→(l.getD k zeroU).no≠(l.getD i zeroU).no)
theorem ZqB (h:u.emp=true):u.no=0:=by rw [(Un.emp_iff u).1 h];rfl
theorem MayP.seen (h:MayP l):SeenU l l.length:=by
 intro i hi;cases he:(l.getD i zeroU).emp with
 | true=>exact .inl rfl
 | false =>
  have h1:=h.ok i hi;rw [okU,he,Bool.false_or] at h1;refine .inr ⟨h1,fun k hk=>?_⟩;cases hk':(l.getD k zeroU).emp with
  | true=>rw [ZqB hk'];have:=Un.may_no h1;omega
  | false=>exact h.one k i hk hi hk' he
theorem Zo0 (h:SeenU l l.length):MayU l=lenU l.length:=by
 cases hl:lenU l.length with
 | false=>unfold MayU;rw [hl];rfl
 | true =>
  rw [Zdo];obtain⟨h1,h2,h3⟩:=(Zg2 _).1 hl;refine⟨h1,h2,h3,fun i hi=>?_,fun i j aa hj he he'=>?_⟩
  · rcases h i hi with k | k
    · rw [okU,k];rfl
    · rw [okU,k.1];simp
  · rcases h j hj with k | k
    · rw [k] at he';cases he'
    · exact k.2 i aa
theorem Zia (hi:i<l.length)(he:(l.getD i zeroU).emp=false)(h:(l.getD i zeroU).may=false∨∃k,k<i∧(l.getD k zeroU).no=(l.getD i zeroU).no):MayU l=false:=by
 cases hm:MayU l with
 | false=>rfl
 | true =>
  rcases ((Zdo l).1 hm).seen i hi with k | k
  · rw [k] at he;cases he
  · rcases h with h | ⟨j,hj,h⟩
    · rw [k.1] at h;cases h
    · exact absurd h (k.2 j hj)
theorem ZqT (h:lenU l.length=false):MayU l=false:=by unfold MayU;rw [h];rfl
theorem Zrf (hi:i<l.length)(h:okU (l.getD i zeroU)=false):MayU l=false:=by
 cases hm:MayU l with
 | false=>rfl
 | true=>rw [((Zdo l).1 hm).ok i hi] at h;cases h
theorem ZpJ (hl:lenU l.length=true)(h:∀i,i<l.length→okU (l.getD i zeroU)=true):MayU l=decide (nosU l).Nodup:=by
 unfold MayU;rw [hl,Bool.true_and];have:l.all okU=true:=List.all_eq_true.2 (fun u hu=>by
  obtain⟨i,hi,rfl⟩:=List.getElem_of_mem hu;rw [← unget hi];exact h i hi)
 rw [this,Bool.true_and]
theorem Zmw (hk:k<l.length):nosU (l.take (k+1))=nosU (l.take k) ++ (if (l.getD k zeroU).emp then [] else [(l.getD k zeroU).no]):=by
 rw [List.take_succ_eq_append_getElem hk,unget hk];unfold nosU;rw [List.filter_append,List.map_append];congr 1;cases h:(l[k]).emp <;> simp [h]
theorem Zj9 (l:List Un):(nosU l).length≤l.length:=by
 unfold nosU;rw [List.length_map];exact List.length_filter_le _ _
def atU (l:List Un) (c:Int):Un:=if 1≤c∧c≤l.length then l.getD (c-1).toNat zeroU else zeroU
theorem Zl3 {c:Int}(h:1≤c∧c≤l.length):atU l c=l.getD (c-1).toNat zeroU:=if_pos h
theorem ZeC {c:Int}(h:¬(1≤c∧c≤l.length)):atU l c=zeroU:=if_neg h
theorem Zl2 (l:List Un)(hi:i<l.length):atU l ((i:Int)+1)=l.getD i zeroU:=by
 rw [Zl3 (by omega)];congr 1;omega
theorem Zgi {c:Int}(h:(atU l c).emp=false):1≤c∧c≤l.length:=by
 by_cases k:1≤c∧c≤l.length
 · exact k
 · rw [ZeC k,Zft] at h;cases h
def getU (l:List Un) (c n:Int):Un × Bool:=if (atU l c).emp=true∨(atU l c).no≠n then (zeroU,false) else (atU l c,true)
theorem Zp0 {p:Un→Bool}(hi:i<l.length)(h1:p (l.getD i zeroU)=true)(h2:∀j,j<i→p (l.getD j zeroU)=false):l.findIdx? p=some i:=by
 refine List.findIdx?_eq_some_iff_getElem.2 ⟨hi,by rw [unget hi] at h1;exact h1,fun j hj=>?_⟩;have:=h2 j hj;rw [unget (by omega)] at this;simpa using this
theorem Zp1 {p:Un→Bool}(h:∀j,j<l.length→p (l.getD j zeroU)=false):l.findIdx? p=none:=by
 refine List.findIdx?_eq_none_iff.2 (fun x hx=>?_);obtain⟨j,hj,rfl⟩:=List.getElem_of_mem hx;have:=h j hj;rw [unget hj] at this;exact this
structure Bse where
  t:Tbl
  u:List Un
  l:List Lf
structure MayBs (b:Bse):Prop where
  pg:∀i,i<b.u.length→(b.u.getD i zeroU).page<(b.l.length:Int)
  t:b.t.May
  u:MayU b.u=true
  l:MayH b.l
def nxB (u:List Un) (r:Rw):Option (Option Rw):=
  if (getU u r.cell r.no).2=true then (if (getU u r.cell r.no).1.kind=1 then some none else some (some (getU u r.cell r.no).1.row)) else none
def vnB (u:List Un) (v:Vw):Vn Rw:=⟨fun r=>seesV v r.wr,Rw.dead,Rw.wr,nxB u⟩
def readB (u:List Un) (l:List Lf) (v:Vw) (key:Nat):Option Rw × List Int × Int:=
  match findH l key with
  | none=>(none,[],0)
  | some h=>(vnB u v).look 400 h.r
def scanB (u:List Un) (l:List Lf) (v:Vw) (lo hi:Nat):List Rw × List Int × Int:=(vnB u v).scan (Zax lo hi (allH l))
theorem ZkV {u:List Un}{l:List Lf}{key:Nat}(h:findH l key=none):readB u l v key=(none,[],0):=by unfold readB;rw [h]
theorem ZfM {u:List Un}{l:List Lf}{key:Nat}{g:Hr}(h:findH l key=some g):readB u l v key=(vnB u v).look 400 g.r:=by unfold readB;rw [h]
theorem ZgB {u:List Un}(h:(getU u r.cell r.no).2=false):nxB u r=none:=by unfold nxB;rw [h];rfl
theorem Zi7 {u:List Un}(h:(getU u r.cell r.no).2=true)(h1:(getU u r.cell r.no).1.kind=1):nxB u r=some none:=by unfold nxB;rw [if_pos h,if_pos h1]
theorem ZjC {u:List Un}(h:(getU u r.cell r.no).2=true)(h1:¬(getU u r.cell r.no).1.kind=1):nxB u r=some (some (getU u r.cell r.no).1.row):=by unfold nxB;rw [if_pos h,if_neg h1]
def vwV (v:Vw) (s:Sl):Value:=.agg #[.int .i64 v.self,.int .i64 v.next,s.val]
def ZaG (w:World) (p:Nat) (v:Vw) (s:Sl):Prop:=w.heap[p]? = some (Obj.cells #[.int .i64 v.self,.int .i64 v.next,s.val] 31 (0,0))
theorem ZaG.c0 (k:ZaG w p v s):w.cell? ⟨p,0,none⟩=some (.int .i64 v.self):=by unfold ZaG at k;simp [World.cell?,k]
theorem ZaG.c1 (k:ZaG w p v s):w.cell? ⟨p,1,none⟩=some (.int .i64 v.next):=by unfold ZaG at k;simp [World.cell?,k]
theorem ZaG.c2 (k:ZaG w p v s):w.cell? ⟨p,2,none⟩=some s.val:=by unfold ZaG at k;simp [World.cell?,k]
theorem ZaG.lt (k:ZaG w p v s):p<w.heap.size:=(Array.getElem?_eq_some_iff.1 k).1
theorem ZbJ (w:World)(v:Vw)(s:Sl):ZaG (w.alloc (.cells #[.int .i64 v.self,.int .i64 v.next,s.val] 31)) w.heap.size v s:=heap_alloc_new w _
theorem ZaG.keep (k:ZaG w p v s)(hb:Bl w w'):ZaG w' p v s:=(hb.block p k.lt).trans k
theorem ZaG.frm {F:Nat→Prop}(k:ZaG w p v s)(hf:Frm F w w')(hn:¬F p):ZaG w' p v s:=(hf.block p k.lt hn).trans k
theorem Zh8 (h:i<t.length):t.getD i 0∈t:=by simp [List.getD,h]
theorem ZeH {x:Int}(h:∀j,j<t.length→t.getD j 0≠x):t.contains x=false:=by
 by_cases hx:x∈t
 · obtain⟨i,hi,e⟩:=List.mem_iff_getElem.1 hx;exact absurd (by simpa [List.getD,hi] using e) (h i hi)
 · simpa using hx
theorem ZdX {x:Int}(h:i<t.length)(e:t.getD i 0=x):t.contains x=true:=by
 rw [← e];simpa using Zh8 h
theorem Zqd {D:Nat→Prop}(w:World)(s:Sl)(t:List Int)(h:Gi D w s t)(x:Int) :
    Calls prog 119 #[s.val,.int .i64 x] w fun e w'=>e=.returned (.bool (t.contains x))∧Bl w w':=by
  obtain⟨a,len,cap⟩:=s;have H:=Zh h;have HL:Hi (t.length=len):=h.len;have ad:len≤1000000:=h.big;have H0:=Zh (Below.refl w.heap.size w);obtain⟨r,hr⟩:∃r,r=t.contains x:=⟨_,rfl⟩;rw [← hr];have HR:=Zh hr;clear h hr;unfold Sl.val;simp only;go_enter func119,ntmps119;go_wp2_with fail;go_loopw [5] (fun iv wr=>wr=w∧∃i:Nat,i≤len∧iv=.int .i64 (i:Nat)∧Hi (∀j,j<i→t.getD j 0≠x)) (fun iv _=>len-(intOf iv).toNat)
  case atStart=>exact ⟨rfl,0,Nat.zero_le _,rfl,fun j hj=>absurd hj (Nat.not_lt_zero _)⟩
  case round =>
   obtain⟨rfl,i,hi,rfl,aa⟩:=hrel;rcases Nat.lt_or_ge i len with ab | ae
   · (have i1:(i:Int)<(len:Int):=by omega);obtain⟨bb,oo,ha,c0⟩:=H.o.cell i ab;replace ha:a=some ⟨bb,oo,none⟩:=ha;subst ha;obtain⟨y,hy⟩:∃y,y=t.getD i 0:=⟨_,rfl⟩;rw [← hy] at c0;by_cases ac:y=x
     · have HE:Hi (r=true):=HR.o.trans (ZdX (i:=i) (by rw [HL.o];exact ab) (by rw [← hy,ac]));clear hy aa;go_wp2;go_ret;exact⟨by rw [HE.o];rfl,H0.o⟩
     · have HN:Hi (∀j,j<i+1→t.getD j 0≠x):=by
        intro j hj;by_cases e:j=i
        · rw [e,← hy];exact ac
        · exact aa.o j (by omega)
       clear hy aa;go_wp2;go_roundw;exact ⟨trivial,i+1,by omega,by go_num,HN⟩;simp only [intOf];omega
   · (have i1:¬(i:Int)<(len:Int):=by omega);have HE:Hi (r=false):=HR.o.trans (ZeH (fun j hj=>aa.o j (by rw [HL.o] at hj;omega)));clear aa;go_wp2;go_ret;exact⟨by rw [HE.o];rfl,H0.o⟩
theorem ZhJ {D:Nat→Prop}(w:World)(s:Sl)(v:Vw)(h:Gi D w s v.act) :
    Calls prog 12 #[vwV v s] w fun e w'=>e=.returned (.bool (decide (MayV v)))∧Bl w w':=by
  obtain⟨a,len,cap⟩:=s;obtain⟨vs,vn,t⟩:=v;have hA:=Zab w (.cells #[.int .i64 vs,.int .i64 vn,.slice a len cap] 31);have H:=Zh (h.below hA (Nat.le_refl _));have HL:Hi (t.length=len):=h.len;have ah:len≤1000000:=h.big;have HA:=Zh hA;obtain⟨r,hr⟩:∃r,r=decide (MayV ⟨vs,vn,t⟩):=⟨_,rfl⟩;rw [← hr];have HR:=Zh hr;clear h hA hr;unfold vwV Sl.val;simp only at H ⊢;go_enter func12,ntmps12;go_wp2_with fail;go_loopw [3] (fun iv wr=>wr=w.alloc (.cells #[.int .i64 vs,.int .i64 vn,.slice a len cap] 31)∧∃i:Nat,i≤len∧iv=.int .i64 (i:Nat)∧Hi (∀j,j<i→(1≤t.getD j 0∧t.getD j 0<vn∧t.getD j 0≠vs)∧(0<j→t.getD (j-1) 0<t.getD j 0))) (fun iv _=>len-(intOf iv).toNat)
  case atStart=>exact ⟨rfl,0,Nat.zero_le _,rfl,fun j hj=>absurd hj (Nat.not_lt_zero _)⟩
  case round =>
   obtain⟨rfl,i,hi,rfl,ab⟩:=hrel;rcases Nat.lt_or_ge i len with ae | ai
   · (have i1:(i:Int)<(len:Int):=by omega);obtain⟨bb,oo,ha,c0⟩:=H.o.cell i ae;replace ha:a=some ⟨bb,oo,none⟩:=ha;subst ha;obtain⟨y,hy⟩:∃y,y=t.getD i 0:=⟨_,rfl⟩;rw [← hy] at c0;have HY:=Zh hy;by_cases aa:y<1∨vn≤y∨y=vs
     · have ac:Hi (r=false):=HR.o.trans (decide_eq_false (fun m=>by
        have:=m.2.2.2.1 i (by show i<t.length;rw [HL.o];exact ae);simp only [← HY.o] at this;omega))
       clear hy ab;by_cases h1:y<1
       · clear aa;go_wp2;go_ret;exact⟨by rw [ac.o];rfl,HA.o⟩
       · by_cases h2:vn≤y
         · clear aa;go_wp2;go_ret;exact⟨by rw [ac.o];rfl,HA.o⟩
         · (have h3:y=vs:=by omega);have h2':¬y ≥ vn:=h2;clear aa;go_wp2;go_ret;exact⟨by rw [ac.o];rfl,HA.o⟩
     · have h1:¬y<1:=fun e=>aa (.inl e);have h2:¬y ≥ vn:=fun e=>aa (.inr (.inl e));have h3:¬y=vs:=fun e=>aa (.inr (.inr e));clear aa;by_cases h0:i=0
       · have HN:Hi (∀j,j<i+1→(1≤t.getD j 0∧t.getD j 0<vn∧t.getD j 0≠vs)∧(0<j→t.getD (j-1) 0<t.getD j 0)):=by
          intro j hj;(obtain rfl:j=i:=by omega);rw [← HY.o];exact⟨⟨by omega,by omega,h3⟩,fun e=>by omega⟩
         (have j0:¬(0:Int)<(i:Int):=by omega);clear hy ab h0;go_wp2;go_roundw;exact ⟨trivial,i+1,by omega,by go_num,HN⟩;simp only [intOf];omega
       · (have j0:(0:Int)<(i:Int):=by omega);obtain⟨m,rfl⟩:∃m,i=m+1:=⟨i-1,by omega⟩;obtain⟨b2,o2,ag,d0⟩:=H.o.cell m (by show m<len;omega);simp only [Option.some.injEq,Addr.mk.injEq,and_true] at ag;obtain⟨rfl,rfl⟩:=ag;obtain⟨z,hz⟩:∃z,z=t.getD m 0:=⟨_,rfl⟩;rw [← hz] at d0;have HZ:=Zh hz;(have em:((m+1:Nat):Int)-1=(m:Int):=by omega);by_cases ad:z<y
         · have HN:Hi (∀j,j<m+1+1→(1≤t.getD j 0∧t.getD j 0<vn∧t.getD j 0≠vs)∧(0<j→t.getD (j-1) 0<t.getD j 0)):=by
            intro j hj;by_cases e:j=m+1
            · subst e;rw [← HY.o];exact⟨⟨by omega,by omega,h3⟩,fun _=>by show t.getD (m+1-1) 0<y;rw [Nat.add_sub_cancel,← HZ.o];exact ad⟩
            · exact ab.o j (by omega)
           (have af:¬z ≥ y:=by omega);clear hy ab hz ad;go_wp2;go_roundw;exact ⟨trivial,m+1+1,by omega,by go_num,HN⟩;simp only [intOf];omega
         · have ac:Hi (r=false):=HR.o.trans (decide_eq_false (fun k=>by
            have:=k.2.2.2.2 (m+1) (by show m+1<t.length;rw [HL.o];exact ae) (by omega);simp only [Nat.add_sub_cancel,← HY.o,← HZ.o] at this;exact ad this))
           (have af:z ≥ y:=by omega);clear hy ab hz ad;go_wp2;go_ret;exact⟨by rw [ac.o];rfl,HA.o⟩
   · (have i1:¬(i:Int)<(len:Int):=by omega);have HE:Hi (r=(decide (0≤vs) && (decide (vs<2147483648) && (decide (0≤vn) && (decide (vn<2147483648) && decide ((len:Int)≤64)))))):=by
      show _=_;have hx:=ab.o;have hl:=HL.o;rw [HR.o,Bool.eq_iff_iff,decide_eq_true_iff];simp only [Bool.and_eq_true,decide_eq_true_eq];constructor
      · rintro ⟨⟨a1,a2⟩,⟨a3,a4⟩,a5,_⟩;simp only at a1 a2 a3 a4 a5;exact⟨a1,by omega,a3,by omega,by omega⟩
      · rintro ⟨a1,a2,a3,a4,a5⟩;show (0≤vs∧vs≤2147483647)∧(0≤vn∧vn≤2147483647)∧t.length≤64∧(∀i,i<t.length→1≤t.getD i 0∧t.getD i 0<vn∧t.getD i 0≠vs)∧∀i,i<t.length→0<i→t.getD (i-1) 0<t.getD i 0;exact⟨⟨a1,by omega⟩,⟨a3,by omega⟩,by omega,fun j hj=>(hx j (by omega)).1,fun j hj h0=>(hx j (by omega)).2 h0⟩
     clear ab;by_cases k1:0≤vs
     · by_cases k2:vs<2147483648
       · by_cases k3:0≤vn
         · by_cases k4:vn<2147483648
           · by_cases k5:(len:Int)≤64
             · (have HQ:Hi (r=true):=by show _=_;rw [HE.o];simp [k1,k2,k3,k4,k5]);clear HE;go_wp2;go_ret;exact⟨by rw [HQ.o];rfl,HA.o⟩
             · (have HQ:Hi (r=false):=by show _=_;rw [HE.o];simp [k5]);clear HE;go_wp2;go_ret;exact⟨by rw [HQ.o];rfl,HA.o⟩
           · (have HQ:Hi (r=false):=by show _=_;rw [HE.o];simp [k4]);clear HE;go_wp2;go_ret;exact⟨by rw [HQ.o];rfl,HA.o⟩
         · (have HQ:Hi (r=false):=by show _=_;rw [HE.o];simp [k3]);clear HE;go_wp2;go_ret;exact⟨by rw [HQ.o];rfl,HA.o⟩
       · (have HQ:Hi (r=false):=by show _=_;rw [HE.o];simp [k2]);clear HE;go_wp2;go_ret;exact⟨by rw [HQ.o];rfl,HA.o⟩
     · (have HQ:Hi (r=false):=by show _=_;rw [HE.o];simp [k1]);clear HE;go_wp2;go_ret;exact⟨by rw [HQ.o];rfl,HA.o⟩
theorem ZmT {D:Nat→Prop}(w:World)(s:Sl)(v:Vw)(h:Gi D w s v.act)(x:Int) :
    Calls prog 85 #[vwV v s,.int .i64 x] w fun e w'=>e=.returned (.bool (seesV v x))∧Bl w w':=by
  obtain⟨vs,vn,t⟩:=v;have hA:=Zab w (.cells #[.int .i64 vs,.int .i64 vn,s.val] 31);have HI:=Zh (Zqd _ s t (h.below hA (Nat.le_refl _)) x);have HA:=Zh hA;obtain⟨a,len,cap⟩:=s;obtain⟨r,hr⟩:∃r,r=seesV ⟨vs,vn,t⟩ x:=⟨_,rfl⟩;rw [← hr];have HR:=Zh hr;clear h hA hr;obtain⟨c,hc⟩:∃c,c=t.contains x:=⟨_,rfl⟩;rw [← hc] at HI;have HC:=Zh hc;clear hc;unfold vwV Sl.val at *;simp only at *;go_enter func85,ntmps85;by_cases h0:x=0
  · (have HQ:Hi (r=true):=by show _=_;rw [HR.o];unfold seesV;simp [h0]);subst h0;go_wp2;go_ret;exact⟨by rw [HQ.o];rfl,HA.o⟩
  · have b0:(x == 0)=false:=beq_eq_false_iff_ne.2 h0;by_cases h1:0<x
    · by_cases h2:x=vs
      · have HQ:Hi (r=true):=by
         show _=_;rw [HR.o];unfold seesV;rw [← h2,decide_eq_true h1];simp
        subst h2;clear HC HR;go_wp2;go_ret;exact⟨by rw [HQ.o];rfl,HA.o⟩
      · have b2:(x == vs)=false:=beq_eq_false_iff_ne.2 h2;by_cases h3:x<vn
        · have HQ:Hi (r = !c):=by
           show _=_;rw [HR.o,HC.o];unfold seesV;simp only [b0,b2,decide_eq_true h1,decide_eq_true h3,Bool.true_and,Bool.false_or,Bool.and_false]
          clear HC HR;go_wp2_with fail;refine HI.o.mono ?_;rintro e w2 ⟨rfl,hb⟩;have HB:=Zh (Zac HA.o hb);clear hb HI;cases c with
          | true =>
           go_wp2;go_ret;exact⟨by rw [HQ.o];rfl,HB.o⟩
          | false =>
           go_wp2;go_ret;exact⟨by rw [HQ.o];rfl,HB.o⟩
        · have HQ:Hi (r=false):=by
           show _=_;rw [HR.o];unfold seesV;simp only [b0,b2,decide_eq_true h1,decide_eq_false h3,Bool.false_or,Bool.and_false,Bool.false_and]
          clear HC HR;go_wp2;go_ret;exact⟨by rw [HQ.o];rfl,HA.o⟩
    · have HQ:Hi (r=false):=by
       show _=_;rw [HR.o];unfold seesV;simp only [b0,decide_eq_false h1,Bool.false_and,Bool.false_or]
      clear HC HR;go_wp2;go_ret;exact⟨by rw [HQ.o];rfl,HA.o⟩
theorem szIV (w:World):(sizeOf 3).run prog w=.ok 1 w:=by
 obtain⟨i0,hi,ab,aa,ac⟩:=info_parts ZeO;simp [sizeOf,typeInfo,hi,aa]
theorem ZoP:prog.elem 29=3:=by kernel_rfl
theorem ZhU (a:Option Addr)(len cap k:Nat)(hk:k≤len)(w:World):(Instr.sliceAt 29 (.slice a len cap) (some (.int .i64 (k:Nat))) none none).run prog w=.ok (.slice (fromA a cap k) (len-k) (cap-k)) w:=by
 (have aa:prog.underlying 29=some (.slice (prog.elem 29)):=by kernel_rfl);rw [run_sliceAt_slice w 29 _ _ _ _ aa,run_slice_l w 29 a len cap aa .i64 (k:Nat) (by omega) (by omega),ZoP,szIV];simp [Result.andThen,sliced,fromA]
theorem ZhV (a:Option Addr)(len cap k:Nat)(hk:k≤cap)(w:World):(Instr.sliceAt 29 (.slice a len cap) none (some (.int .i64 (k:Nat))) none).run prog w=.ok (.slice (fromA a cap 0) k cap) w:=by
 (have aa:prog.underlying 29=some (.slice (prog.elem 29)):=by kernel_rfl);rw [run_sliceAt_slice w 29 _ _ _ _ aa,run_slice_h w 29 a len cap aa .i64 (k:Nat) (by omega) (by omega),ZoP,szIV];simp [Result.andThen,sliced,fromA]
theorem ZfF {a:Option Addr}{cap:Nat}(h:fromA a cap k=none):a=none:=by
 unfold fromA at h;split at h
 · exact h
 · cases a with
   | none=>rfl
   | some q=>cases h
theorem Gi.from_ {D:Nat→Prop}{v:Sl}(h:Gi D w v t)(hk:k≤v.len):Gi (fun _=>True) w ⟨fromA v.a v.cap k,v.len-k,v.cap-k⟩ (t.drop k):=by
 have hl:=h.len;have aa:=h.le;have hb:=h.big;refine⟨by rw [List.length_drop,hl],fun e=>?_,Nat.sub_le_sub_right aa k,by show v.len-k≤_;omega,fun _ _ _=>trivial,fun i hi=>?_⟩
 · have:=h.nil (ZfF e);show v.cap-k=0;omega
 · have hi':i<v.len-k:=hi;obtain⟨b,off,ha,hc⟩:=h.cell (k+i) (by omega);refine⟨b,off+k,?_,?_⟩
   · show fromA v.a v.cap k=_;unfold fromA;rw [if_neg (by omega),ha];simp [Addr.add_lit]
   · rw [show off+k+i=off+(k+i) by omega,hc];simp only [List.getD,List.getElem?_drop]
theorem Gi.upto {D:Nat→Prop}{v:Sl}(h:Gi D w v t)(hk:k≤v.len):Gi (fun _=>True) w ⟨fromA v.a v.cap 0,k,v.cap⟩ (t.take k):=by
 have hl:=h.len;have aa:=h.le;have hb:=h.big;refine⟨by rw [List.length_take,hl];show min k v.len=k;omega,fun e=>h.nil (ZfF e),by show k≤v.cap;omega,by show k≤_;omega,fun _ _ _=>trivial,fun i hi=>?_⟩;have hi':i<k:=hi;obtain⟨b,off,ha,hc⟩:=h.cell i (by omega);refine⟨b,off,?_,?_⟩
 · show fromA v.a v.cap 0=_;unfold fromA;rw [if_neg (by omega),ha];simp [Addr.add_lit]
 · rw [hc];simp only [List.getD,List.getElem?_take,if_pos hi']
structure Nq (w0 w:World) (s:Sl) (t:List Int):Prop where
  own:OwnN w s t
  home:∀k,s.blk=some k→w0.heap.size≤k
  below:Bl w0 w
theorem Nq.keep (h:Nq w0 w s t)(hb:Bl w w'):Nq w0 w' s t:=
 ⟨Own.frame h.own (fun k hk=>hb.block k (Own.lt h.own hk)),h.home,Zac h.below hb⟩
theorem Nq.gi (h:Nq w0 w s t)(hm:s.len≤1000000):Gi (fun k=>w0.heap.size≤k) w s t:=h.own.gi (fun k hk=>h.home k hk) hm
theorem Nq.new0 (h:Bl w0 w):Nq w0 (w.alloc (.cells #[] 3)) ⟨some ⟨w.heap.size,0,none⟩,0,0⟩ []:=
 ⟨OwnN.new w,fun k hk=>by have e:some w.heap.size=some k:=hk;cases e;exact h.size,Zac h (Zab w _)⟩
theorem Nq.lit1 (h:Bl w0 w)(x:Int):Nq w0 (w.alloc (.cells #[.int .i64 x] 3)) ⟨some ⟨w.heap.size,0,none⟩,1,1⟩ [x]:=
 ⟨⟨rfl,.inr ⟨w.heap.size,0,_,rfl,heap_alloc_new w _,by simp,Nat.le_refl _,(by show 1≤maxLen;unfold maxLen;omega),rfl⟩⟩,fun k hk=>by have e:some w.heap.size=some k:=hk;cases e;exact h.size,Zac h (Zab w _)⟩
theorem Nq.app (h:Nq w0 w s t){x:Value}{u:List Int}(hs:Src prog 1 29 x n (Zan u) w)(hl:s.len+n≤1000000) :
    ∃s' w',(∀ty,(Builtin.append_ #[29,29] ty #[s.val,x]).run prog w=.ok s'.val w')∧Nq w0 w' s' (t ++ u)∧Frm (fun k=>s.blk=some k) w w'∧s'.len=s.len+n:=by
  obtain⟨s',w',ab,ho,aa,hf,ac⟩:=Zaz underlying29 ZeO rfl (by decide) w s (Zan t) h.own (Zd8 t) x n (Zan u) hs hl 0;refine⟨s',w',fun ty=>ab,⟨?_,fun k hk=>?_,h.below.trans (hf.below h.below.size (fun k hk=>h.home k hk))⟩,hf,aa⟩
  · show Own 3 1 w' s' (Zan (t ++ u));rw [show Zan (t ++ u)=Zan t ++ Zan u by simp [Zan]];exact ho
  · rcases ac with e | ⟨e,_⟩
    · rw [e] at hk;exact h.home k hk
    · rw [e] at hk;cases hk;exact h.below.size
theorem Nq.other {r:Sl}(h:Nq w0 w s t)(hf:Frm (fun k=>r.blk=some k) w w')(hb:Bl w0 w')(hn:∀k,s.blk=some k→¬r.blk=some k):Nq w0 w' s t:=
 ⟨Own.frame h.own (fun k hk=>hf.block k (Own.lt h.own hk) (hn k hk)),h.home,hb⟩
theorem Zfy (w:World):(Instr.buildSlice 29 0 #[]).run prog w=.ok (.slice (some ⟨w.heap.size,0,none⟩) 0 0) (w.alloc (.cells #[] 3)):=by
 (have aa:prog.underlying 29=some (.slice (prog.elem 29)):=by kernel_rfl);simp [go_sem,Instr.buildSlice,run_underlying aa]
theorem Zd4 (x:Int)(w:World):(Instr.buildSlice 29 1 #[(0,.int .i64 x)]).run prog w=.ok (.slice (some ⟨w.heap.size,0,none⟩) 1 1) (w.alloc (.cells #[.int .i64 x] 3)):=by
 (have aa:prog.underlying 29=some (.slice (prog.elem 29)):=by kernel_rfl);simp [go_sem,Instr.buildSlice,run_underlying aa]
theorem ZoT (w:World)(x:Int):Gi (fun _=>True) (w.alloc (.cells #[.int .i64 x] 3)) ⟨some ⟨w.heap.size,0,none⟩,1,1⟩ [x]:=
 ((Nq.lit1 (w0:=w) (Below.refl _ w) x).gi (by show 1≤1000000;omega)).wide (fun _ _=>trivial)
noncomputable def mayB (t:Tbl):Bool:=@decide t.May (Classical.propDecidable _)
theorem Zg6 {t:Tbl}(h:t.May):mayB t=true:=@decide_eq_true _ (Classical.propDecidable _) h
theorem ZbW {t:Tbl}(h:¬t.May):mayB t=false:=@decide_eq_false _ (Classical.propDecidable _) h
theorem Zey {t:Tbl}:mayB t=true↔t.May:=⟨fun h=>@of_decide_eq_true _ (Classical.propDecidable _) h,Zg6⟩
theorem ZmK (t:Tbl)(v:Sl)(w:World)(h:Es w v t.es) :
    Calls prog 37 #[t.val v] w fun e w'=>e=.returned (.bool (mayB t))∧Bl w w':=by
  have hb:=ZgO w t v;have HW:=Zh hb;have HT:=Zh (ZaN.new w t v);have HE:=Zh (h.keep hb (Nat.le_refl _));have hl:t.es.length=v.len:=h.len;have ay:=h.big;clear h hb;obtain⟨va,vl,vc⟩:=v;simp only at hl ay;have HL:=Zh hl;unfold Tbl.val;by_cases z0:t.nx<1
  · have HR:Hi (mayB t=false):=ZbW (fun k=>by have:=k.nx;omega);clear hl HT HE HL;go_enter func37,ntmps37;go_wp2;go_ret;exact⟨by rw [HR.o];rfl,HW.o⟩
  by_cases z1:2147483647<t.nx
  · have HR:Hi (mayB t=false):=ZbW (fun k=>by have:=k.nx;omega);clear hl HT HE HL;go_enter func37,ntmps37;go_wp2;go_ret;exact⟨by rw [HR.o];rfl,HW.o⟩
  by_cases z2:t.no<1
  · have HR:Hi (mayB t=false):=ZbW (fun k=>by have:=k.no;omega);clear hl HT HE HL;go_enter func37,ntmps37;go_wp2;go_ret;exact⟨by rw [HR.o];rfl,HW.o⟩
  by_cases z3:2147483647<t.no
  · have HR:Hi (mayB t=false):=ZbW (fun k=>by have:=k.no;omega);clear hl HT HE HL;go_enter func37,ntmps37;go_wp2;go_ret;exact⟨by rw [HR.o];rfl,HW.o⟩
  by_cases z4:t.cm<0
  · have HR:Hi (mayB t=false):=ZbW (fun k=>by have:=k.cm;omega);clear hl HT HE HL;go_enter func37,ntmps37;go_wp2;go_ret;exact⟨by rw [HR.o];rfl,HW.o⟩
  by_cases z5:2147483647<t.cm
  · have HR:Hi (mayB t=false):=ZbW (fun k=>by have:=k.cm;omega);clear hl HT HE HL;go_enter func37,ntmps37;go_wp2;go_ret;exact⟨by rw [HR.o];rfl,HW.o⟩
  by_cases z6:vl=12
  case neg =>
   have HR:Hi (mayB t=false):=ZbW (fun k=>z6 (by rw [← hl];exact k.len));(have q6:((vl:Int) != 12)=true:=by simp;omega);(have q7:¬(vl:Int)=12:=by omega);clear hl HT HE HL z6;go_enter func37,ntmps37;go_wp2;go_ret;exact⟨by rw [HR.o];rfl,HW.o⟩
  subst z6;have aw:Hi ((1≤t.nx∧t.nx≤2147483647)∧(1≤t.no∧t.no≤2147483647)∧(0≤t.cm∧t.cm≤2147483647)):=⟨⟨by omega,by omega⟩,⟨by omega,by omega⟩,⟨by omega,by omega⟩⟩;go_enter func37,ntmps37;go_wp2_with fail;generalize w.alloc (.cells #[.int .i64 t.nx,.int .i64 t.no,.int .i64 t.cm,.slice va 12 vc] 24)=W at *;clear hl;have H0:=Zh (Below.refl W.heap.size W);go_loopw [3] (fun iv wr=>∃i:Nat,i≤12∧iv=.int .i64 (i:Nat)∧Hi (∀j,j<i→EntOk t j)∧Hi (Bl W wr)) (fun iv _=>12-(intOf iv).toNat)
  case atStart=>exact ⟨0,Nat.zero_le _,rfl,fun j hj=>absurd hj (Nat.not_lt_zero _),H0⟩
  case round =>
   obtain⟨i,hi,rfl,ad,ar⟩:=hrel;rename World=>wo;have az:=HT.o.keep ar.o;have d3:=az.c3;rcases Nat.lt_or_ge i 12 with bd | bg
   · (have i1:(i:Int)<12:=by omega);have ax:=HE.o.keep ar.o (Nat.le_refl _);obtain⟨b,off,ha,bc⟩:=ax.at' i bd;replace ha:va=some ⟨b,off,none⟩:=ha;subst ha;obtain⟨x,hx⟩:∃x,x=t.en i:=⟨_,rfl⟩;(have ah:EnAt wo b (off+i*4) x:=by rw [hx];exact bc);have HX:=Zh hx;have c0:=ah.c0;have c1:=ah.c1;have c2:=ah.c2;have c3:=ah.c3;have aq:=Zab wo (.cells #[.int .i64 x.tx,.int .i64 x.st,.int .i64 x.last,.int .i64 x.com] 127);have ac:=Zh (Zac ar.o aq);have ap:=Zh (az.keep aq);have an:=Zh (Zc7.new wo x);have ba:=Zh (ax.keep aq (Nat.le_refl _));(have bb:Hi ((wo.alloc (.cells #[.int .i64 x.tx,.int .i64 x.st,.int .i64 x.last,.int .i64 x.com] 127)).heap.size=wo.heap.size+1):=by show _=_;simp);clear az ax bc ah hx aq;generalize aj:wo.alloc (.cells #[.int .i64 x.tx,.int .i64 x.st,.int .i64 x.last,.int .i64 x.com] 127)=W4 at *;have g0:W4.cell? ⟨wo.heap.size,0,none⟩=some (.int .i64 x.tx):=an.o.at.c0;have g1:W4.cell? ⟨wo.heap.size,1,none⟩=some (.int .i64 x.st):=an.o.at.c1;have g2:W4.cell? ⟨wo.heap.size,2,none⟩=some (.int .i64 x.last):=an.o.at.c2;have g3:W4.cell? ⟨wo.heap.size,3,none⟩=some (.int .i64 x.com):=an.o.at.c3;have m0:=ap.o.c0;have m2:=ap.o.c2;have m3:=ap.o.c3;have aa:¬EntOk t i→mayB t=false:=fun k=>ZbW (fun m=>k (m.ok i bd));by_cases y0:x.st<0
     · have HR:Hi (mayB t=false):=aa (fun k=>by have:=k.st;rw [← HX.o] at this;omega);clear aa;go_wp2;go_ret;exact⟨by rw [HR.o];rfl,Zac HW.o ac.o⟩
     by_cases y1:2<x.st
     · have HR:Hi (mayB t=false):=aa (fun k=>by have:=k.st;rw [← HX.o] at this;omega);clear aa;go_wp2;go_ret;exact⟨by rw [HR.o];rfl,Zac HW.o ac.o⟩
     by_cases y2:x.st=0
     · obtain⟨xt,xs,xl,xc⟩:=x;replace y2:xs=0:=y2;subst y2;simp only at g0 g1 g2 g3 aj c0 c1 c2 c3 y0 y1;have ab:∀h:¬((⟨xt,0,xl,xc⟩:En)=En.zero),Hi (mayB t=false):=fun h=>aa (fun k=>h (by have:=k.free;rw [← HX.o] at this;exact this rfl));by_cases y3:xt=0
       case neg =>
        have HR:=ab (fun e=>y3 (congrArg En.tx e));clear aa ad ab;go_wp2;go_ret;exact⟨by rw [HR.o];rfl,Zac HW.o ac.o⟩
       by_cases y4:xl=0
       case neg =>
        have HR:=ab (fun e=>y4 (congrArg En.last e));clear aa ad ab;go_wp2;go_ret;rw [y3] at aj;rw [aj];exact⟨by rw [HR.o];rfl,Zac HW.o ac.o⟩
       by_cases y5:xc=0
       case neg =>
        have HR:=ab (fun e=>y5 (congrArg En.com e));clear aa ad ab;go_wp2;go_ret;rw [y3,y4] at aj;rw [aj];exact⟨by rw [HR.o];rfl,Zac HW.o ac.o⟩
       have HN:Hi (∀j,j<i+1→EntOk t j):=by
        intro j hj;by_cases e:j=i
        · subst e;(have ex:t.en j=En.zero:=by rw [← HX.o,y3,y4,y5];rfl);have z0:En.zero.st=0:=rfl;constructor <;> rw [ex]
          · decide
          · exact fun _=>rfl
          · exact fun h=>absurd z0 h
          · exact fun h=>absurd z0 h
          · exact fun _=>rfl
          · exact fun h=>by cases h
          · exact fun h=>absurd z0 h
        · exact ad.o j (by omega)
       clear aa ad ab;go_wp2;go_roundw
       case rel =>
        rw [y3,y4,y5] at aj;rw [aj];exact⟨i+1,by omega,by go_num,HN,ac⟩
       case measure=>simp only [intOf];omega
     obtain⟨xt,xs,xl,xc⟩:=x;simp only at g0 g1 g2 g3 aj c0 c1 c2 c3 y0 y1 y2;by_cases v0:xt<1
     · have HR:Hi (mayB t=false):=aa (fun k=>by have:=k.tx (by rw [← HX.o];exact y2);rw [← HX.o] at this;simp only at this;omega);clear aa ad;go_wp2;go_ret;exact⟨by rw [HR.o];rfl,Zac HW.o ac.o⟩
     by_cases v1:t.nx≤xt
     · have HR:Hi (mayB t=false):=aa (fun k=>by have:=k.tx (by rw [← HX.o];exact y2);rw [← HX.o] at this;simp only at this;omega);clear aa ad;go_wp2;go_ret;exact⟨by rw [HR.o];rfl,Zac HW.o ac.o⟩
     by_cases v2:xl<0
     · have HR:Hi (mayB t=false):=aa (fun k=>by have:=k.last (by rw [← HX.o];exact y2);rw [← HX.o] at this;simp only at this;omega);clear aa ad;go_wp2;go_ret;exact⟨by rw [HR.o];rfl,Zac HW.o ac.o⟩
     by_cases v3:65535<xl
     · have HR:Hi (mayB t=false):=aa (fun k=>by have:=k.last (by rw [← HX.o];exact y2);rw [← HX.o] at this;simp only at this;omega);clear aa ad;go_wp2;go_ret;exact⟨by rw [HR.o];rfl,Zac HW.o ac.o⟩
     by_cases y3:xs=1
     · subst y3;by_cases v4:¬xc=0
       · have HR:Hi (mayB t=false):=aa (fun k=>by have:=k.act (by rw [← HX.o]);rw [← HX.o] at this;simp only at this;omega);clear aa ad;go_wp2;go_ret;exact⟨by rw [HR.o];rfl,Zac HW.o ac.o⟩
       (have q4:(xc != 0)=false:=by simp at v4 ⊢;exact v4);(have q5:(xc == 0)=true:=by simp at v4 ⊢;exact v4);(have V4:Hi (xc=0):=by show _=_;omega);clear v4;have ai:Hi ((∀j,j<i→(t.en j).tx≠xt∧(0<(xc:Int)→(t.en j).com≠xc))→∀j,j<i+1→EntOk t j):=by
        intro hk j hj;by_cases e:j=i
        · subst e;constructor <;> rw [← HX.o] <;> simp only
          · omega
          · exact fun h=>absurd h (by decide)
          · intro _;omega
          · intro _;omega
          · exact fun _=>V4.o
          · intro h;exact absurd h (by decide)
          · exact fun _=>hk
        · exact ad.o j (by omega)
       have am:Hi (∀k,k<i→¬((t.en k).tx≠xt∧(0<(xc:Int)→(t.en k).com≠xc))→mayB t=false):=by
        intro k hk hn;refine aa (fun m=>hn ?_);have:=m.one (by rw [← HX.o];simp) k hk;rw [← HX.o] at this;exact this
       clear aa ad;go_wp2_with fail;have av:=Zh (Below.refl W4.heap.size W4);go_loopw [5] (fun kv wr=>∃k:Nat,k≤i∧kv=.int .i64 (k:Nat)∧Hi (∀j,j<k→(t.en j).tx≠xt∧(0<(xc:Int)→(t.en j).com≠xc))∧Hi (Bl W4 wr)) (fun kv _=>i-(intOf kv).toNat)
       case atStart=>exact ⟨0,Nat.zero_le _,rfl,fun j hj=>absurd hj (Nat.not_lt_zero _),av⟩
       case round =>
        obtain⟨k,hk,rfl,ak,af⟩:=hrel;rename World=>wk;rcases Nat.lt_or_ge k i with au | bf
        · (have k1:(k:Int)<(i:Int):=by omega);have al:=Zh (ap.o.keep af.o);have ao:=Zh (an.o.keep af.o);obtain⟨b',off',ha',hy⟩:=(ba.o.keep af.o (Nat.le_refl _)).at' k (by show k<12;omega);simp only [Option.some.injEq,Addr.mk.injEq,and_true] at ha';obtain⟨rfl,rfl⟩:=ha';have HY:=Zh hy;clear hy;(have be:Hi (wo.heap.size≤W4.heap.size):=by show _≤_;rw [bb.o];omega);by_cases u1:(t.en k).tx=xt
          case pos =>
           have HR:Hi (mayB t=false):=am.o k au (fun m=>m.1 u1);clear ai;go_wp2_with fail;refine Pl.q9 (ops:=Pl.fd 17 f37) ?_;refine ZjH _ b off 12 vc k w.heap.size wo.heap.size t _ ⟨xt,1,xl,xc⟩ (by omega) al.o ao.o HY.o u1 (by rfl) rfl (by rfl) (by rfl) (by rfl) ?_;intro u1 w1 ae;simp only [Pl.pu,List.foldl,Act.put,List.setIfInBounds_toArray,List.set];have ag:=Zh (Zac af.o ae);clear ae;go_wp2;go_ret;exact⟨by rw [HR.o];rfl,Zac HW.o (Zac ac.o ag.o)⟩
          have HN:Hi (∀j,j<k+1→(t.en j).tx≠xt∧(0<(xc:Int)→(t.en j).com≠xc)):=by
           intro j hj;by_cases e:j=k
           · subst e;exact⟨u1,fun h=>absurd h (by have:=V4.o;omega)⟩
           · exact ak.o j (by omega)
          skip;go_wp2_with fail;refine Pl.q9 (ops:=Pl.fd 17 f37) ?_;refine Zow _ b off 12 vc k w.heap.size wo.heap.size t _ ⟨xt,1,xl,xc⟩ (by omega) al.o ao.o HY.o u1 (by have:=V4.o;show ¬0<xc;omega) (by rfl) rfl (by rfl) (by rfl) (by rfl) ?_;intro u1 w1 ae;simp only [Pl.pu,List.foldl,Act.put,List.setIfInBounds_toArray,List.set];have ag:=Zh (Zac af.o ae);clear ae;go_wp2;go_roundw;exact ⟨k+1,by omega,by go_num,HN,ag⟩;simp only [intOf];omega
        · (have k1:¬(k:Int)<(i:Int):=by omega);have HN:Hi (∀j,j<i+1→EntOk t j):=ai.o (fun j hj=>ak.o j (by omega));have ag:Hi (Bl W wk):=Zac ac.o af.o;clear ai am ak;go_wp2;go_roundw;exact ⟨i+1,by omega,by go_num,HN,ag⟩;simp only [intOf];omega
     (have y4:xs=2:=by omega);subst y4;clear y3;by_cases v4:xc<1
     · have HR:Hi (mayB t=false):=aa (fun k=>by have:=k.done (by rw [← HX.o]);rw [← HX.o] at this;simp only at this;omega);clear aa ad;go_wp2;go_ret;exact⟨by rw [HR.o];rfl,Zac HW.o ac.o⟩
     by_cases v5:t.cm<xc
     · have HR:Hi (mayB t=false):=aa (fun k=>by have:=k.done (by rw [← HX.o]);rw [← HX.o] at this;simp only at this;omega);clear aa ad;go_wp2;go_ret;exact⟨by rw [HR.o];rfl,Zac HW.o ac.o⟩
     have ai:Hi ((∀j,j<i→(t.en j).tx≠xt∧(0<(xc:Int)→(t.en j).com≠xc))→∀j,j<i+1→EntOk t j):=by
      intro hk j hj;by_cases e:j=i
      · subst e;constructor <;> rw [← HX.o] <;> simp only
        · omega
        · exact fun h=>absurd h (by decide)
        · intro _;omega
        · intro _;omega
        · intro h;exact absurd h (by decide)
        · intro _;omega
        · exact fun _=>hk
      · exact ad.o j (by omega)
     have am:Hi (∀k,k<i→¬((t.en k).tx≠xt∧(0<(xc:Int)→(t.en k).com≠xc))→mayB t=false):=by
      intro k hk hn;refine aa (fun m=>hn ?_);have:=m.one (by rw [← HX.o];simp) k hk;rw [← HX.o] at this;exact this
     clear aa ad;go_wp2_with fail;have av:=Zh (Below.refl W4.heap.size W4);go_loopw [5] (fun kv wr=>∃k:Nat,k≤i∧kv=.int .i64 (k:Nat)∧Hi (∀j,j<k→(t.en j).tx≠xt∧(0<(xc:Int)→(t.en j).com≠xc))∧Hi (Bl W4 wr)) (fun kv _=>i-(intOf kv).toNat)
     case atStart=>exact ⟨0,Nat.zero_le _,rfl,fun j hj=>absurd hj (Nat.not_lt_zero _),av⟩
     case round =>
      obtain⟨k,hk,rfl,ak,af⟩:=hrel;rename World=>wk;rcases Nat.lt_or_ge k i with au | bf
      · (have k1:(k:Int)<(i:Int):=by omega);have al:=Zh (ap.o.keep af.o);have ao:=Zh (an.o.keep af.o);obtain⟨b',off',ha',hy⟩:=(ba.o.keep af.o (Nat.le_refl _)).at' k (by show k<12;omega);simp only [Option.some.injEq,Addr.mk.injEq,and_true] at ha';obtain⟨rfl,rfl⟩:=ha';have HY:=Zh hy;clear hy;(have be:Hi (wo.heap.size≤W4.heap.size):=by show _≤_;rw [bb.o];omega);by_cases u1:(t.en k).tx=xt
        case pos =>
         have HR:Hi (mayB t=false):=am.o k au (fun m=>m.1 u1);clear ai;go_wp2_with fail;refine Pl.q9 (ops:=Pl.fd 17 f37) ?_;refine ZjH _ b off 12 vc k w.heap.size wo.heap.size t _ ⟨xt,2,xl,xc⟩ (by omega) al.o ao.o HY.o u1 (by rfl) rfl (by rfl) (by rfl) (by rfl) ?_;intro u1 w1 ae;simp only [Pl.pu,List.foldl,Act.put,List.setIfInBounds_toArray,List.set];have ag:=Zh (Zac af.o ae);clear ae;go_wp2;go_ret;exact⟨by rw [HR.o];rfl,Zac HW.o (Zac ac.o ag.o)⟩
        (have u2:0<xc:=by omega);by_cases u3:(t.en k).com=xc
        case pos =>
         have HR:Hi (mayB t=false):=am.o k au (fun m=>m.2 u2 u3);clear ai;go_wp2_with fail;refine Pl.q9 (ops:=Pl.fd 17 f37) ?_;refine Zox _ b off 12 vc k w.heap.size wo.heap.size t _ ⟨xt,2,xl,xc⟩ (by omega) al.o ao.o HY.o u1 u2 u3 (by rfl) rfl (by rfl) (by rfl) (by rfl) ?_;intro u1 w1 ae;simp only [Pl.pu,List.foldl,Act.put,List.setIfInBounds_toArray,List.set];have ag:=Zh (Zac af.o ae);clear ae;go_wp2;go_ret;exact⟨by rw [HR.o];rfl,Zac HW.o (Zac ac.o ag.o)⟩
        have HN:Hi (∀j,j<k+1→(t.en j).tx≠xt∧(0<(xc:Int)→(t.en j).com≠xc)):=by
         intro j hj;by_cases e:j=k
         · subst e;exact⟨u1,fun _=>u3⟩
         · exact ak.o j (by omega)
        skip;go_wp2_with fail;refine Pl.q9 (ops:=Pl.fd 17 f37) ?_;refine Zoy _ b off 12 vc k w.heap.size wo.heap.size t _ ⟨xt,2,xl,xc⟩ (by omega) al.o ao.o HY.o u1 u2 u3 (by rfl) rfl (by rfl) (by rfl) (by rfl) ?_;intro u1 w1 ae;simp only [Pl.pu,List.foldl,Act.put,List.setIfInBounds_toArray,List.set];have ag:=Zh (Zac af.o ae);clear ae;go_wp2;go_roundw;exact ⟨k+1,by omega,by go_num,HN,ag⟩;simp only [intOf];omega
      · (have k1:¬(k:Int)<(i:Int):=by omega);have HN:Hi (∀j,j<i+1→EntOk t j):=ai.o (fun j hj=>ak.o j (by omega));have ag:Hi (Bl W wk):=Zac ac.o af.o;clear ai am ak;go_wp2;go_roundw;exact ⟨i+1,by omega,by go_num,HN,ag⟩;simp only [intOf];omega
   · (have i1:¬(i:Int)<12:=by omega);have HR:Hi (mayB t=true):=Zg6 ⟨aw.o.1,aw.o.2.1,aw.o.2.2,HL.o,fun j hj=>ad.o j (by omega)⟩;clear ad;go_wp2;go_ret;exact⟨by rw [HR.o];rfl,Zac HW.o ar.o⟩
section
variable {ops : Array Oper} {rest : List Oper} {o : Oper} {a : Act} {Q : Exit → Act → World → Prop}
theorem Zje (w:World)(hw:Region.wanted o (yielded ops a.tmps)=true)(v:Value)(w':World)(aa:(execOp a.eval o).run prog w=.ok (.value v) w')(hK:wpList prog ops Q rest (a.put o.dst v) w'):wpList prog ops Q (o :: rest) a w:=by
 refine BigFrame.wpList_want hw fun K hK'=>?_;unfold Oper.wp;rw [aa];exact hK' _ _ hK
theorem Zib (w:World)(hw:Region.wanted o (yielded ops a.tmps)=true)(t:TypeId)(x:Operand)(ho:o.op=.load t x)(p v:Value)(hp:a.eval x=p)(aa:(Instr.loadAt t p).run prog w=.ok v w)(hK:wpList prog ops Q rest (a.put o.dst v) w):wpList prog ops Q (o :: rest) a w:=by
 refine Zje w hw v w ?_ hK;have e:execOp a.eval o=(do pure (.value (← Instr.loadAt t (a.eval x)))):=by
  unfold execOp;rw [ho]
 rw [e,hp];simp [aa]
end
theorem ZeQ (u:Un)(a:Option Addr)(len cap:Nat)(w:World)(h:Fs w a len cap u.row.xs) :
    Calls prog 76 #[u.val (.slice a len cap)] w fun e w'=>e=.returned (.bool u.emp)∧Bl w w':=by
  have HS:Hi (∀w',Bl w w'→Calls prog 115 #[u.val (.slice a len cap),.agg #[.int .i64 0,.int .i64 0,.int .i64 0,.int .i64 0,.int .i64 0,.int .i64 0,.float .f64 0,.bool false,.slice none 0 0,.int .i64 0,.int .i64 0,.int .i64 0]] w' fun e w''=>e=.returned (.bool u.emp)∧Bl w' w''):=fun w' hb=>Zlq u zeroU a len cap none 0 0 w' (h.keep hb (Nat.le_refl _)) (Zc9 w');have HX:=Zh (Zbn w u (.slice a len cap));have HW:Hi (∀o,Bl w (w.alloc o)):=Zab w;clear h;generalize u.emp=m at *;unfold Un.val at HS ⊢;go_enter func76,ntmps76;go_wp2_with fail;refine(HS.o _ (HW.o _)).mono ?_;rintro e w1 ⟨rfl,aa⟩;have ab:=Zh (Zac (HW.o _) aa);clear aa;go_wp2;go_ret;exact⟨rfl,ab.o⟩
def ixU:Option Nat→Int
  | none=>-1
  | some i=>i
theorem Zp8 (p:Un→Bool)(l:List Un):decide (0≤ixU (l.findIdx? p))=(l.findIdx? p).isSome:=by
 cases h:l.findIdx? p with
 | none=>rfl
 | some i=>exact decide_eq_true (Int.natCast_nonneg _)
theorem Zk1 (w:World)(va:Option Addr)(vl vc:Nat)(l:List Ux)(h:Us w va vl l)(ag:vl≤1000000)(c:Int) :
    Calls prog 112 #[.slice va vl vc,.int .i64 c] w fun e w'=>e=.returned (.bool (!(atU (uns l) c).emp))∧Bl w w':=by
  (have hl:(uns l).length=vl:=by rw [Zcd,h.len]);have H0:=Zh (Below.refl w.heap.size w);by_cases h1:c<1
  · (have HR:Hi ((!(atU (uns l) c).emp)=false):=by show _=_;rw [ZeC (by omega),Zft];rfl);clear h hl;go_enter func112,ntmps112;go_wp2;go_ret;exact⟨by rw [HR.o];rfl,H0.o⟩
  by_cases h2:(vl:Int)<c
  · (have HR:Hi ((!(atU (uns l) c).emp)=false):=by show _=_;rw [ZeC (by rw [hl];omega),Zft];rfl);clear h hl;go_enter func112,ntmps112;go_wp2;go_ret;exact⟨by rw [HR.o];rfl,H0.o⟩
  obtain⟨k,rfl⟩:∃k:Nat,c=(k:Int)+1:=⟨(c-1).toNat,by omega⟩;(have hk:k<vl:=by omega);rw [Zl2 _ (by omega),Zbz];obtain⟨b1,off,rfl,ab⟩:=h.at' k hk;have aa:=h.cols _ (h.mem hk);generalize l.getD k Ux.zero=y at *;have af:=Zh (Zbm b1 (off+k*12) y w ab);have ae:Hi (Calls prog 76 #[y.val] w fun e w'=>e=.returned (.bool y.u.emp)∧Bl w w'):=ZeQ y.u y.a y.n y.c w aa;clear ab aa h hl;generalize y.u.emp=m at *;(have i1:(k:Int)<(vl:Int):=by omega);(have i2:(1:Int)≤(k:Int)+1:=by omega);(have i3:(k:Int)+1≤(vl:Int):=by omega);clear h1 h2;go_enter func112,ntmps112;go_wp2_with (refine Zib _ (by rfl) 65 (.tmp 17) rfl (.pointer (some ⟨b1,off+k*12,none⟩)) y.val rfl af.o ?_);refine ae.o.mono ?_;rintro e w1 ⟨rfl,ac⟩;have ad:=Zh ac;clear ac;go_wp2;go_ret;exact⟨rfl,ad.o⟩
theorem Zjb {fn:Func}{x:Nat}(hr:fn.results=#[.cell x 65])(h:UnBlk W g u c)(tmps:Array Value)(ht:tmps.getD x undef=.pointer (some ⟨g,0,none⟩))(hc:∃a len cap,c=.slice a len cap):(results fn tmps).run prog W=.ok (u.val c) W:=by
 have c0:=h.c0;have c1:=h.c1;have c2:=h.c2;have c3:=h.c3;have c4:=h.c4;have c5:=h.c5;have c6:=h.c6;have c7:=h.c7;have c8:=h.c8;have c9:=h.c9;have c10:=h.c10;have c11:=h.c11;obtain⟨a,len,cap,rfl⟩:=hc;(have aa:tmps[x]?.getD undef=.pointer (some ⟨g,0,none⟩):=by simpa using ht);simp [results,hr,aa,go_sem,c0,c1,c2,c3,c4,c5,c6,c7,c8,c9,c10,c11,Un.val]
theorem Zja {fn:Func}{x:Nat}(aa:fn.results=#[.cell x 65]){u0:Un}{c0:Value}(h:UnBlk W g u0 c0)(u:Un)(c:Value)(hc:∃a len cap,c=.slice a len cap){A:Act}{R:Ending→World→Prop}(t2:A.tmps.getD x undef=.pointer (some ⟨g,0,none⟩))(hd:A.defers=[])
    (hR:R (.returned (u.val c)) (setUn W g u c)):bodyPost prog fn R Exit.ret A (setUn W g u c):=by
  have hr:=Zfh h u c;generalize setUn W g u c=W' at *;exact bodyPost_ret (Zjb aa hr _ t2 hc) hd hR
theorem ZmY (h:UnBlk w g u c)(c':Value):UnBlk (w.setCell ⟨g,8,none⟩ c') g u c':=by
 unfold UnBlk at h ⊢;rw [heap_setCell_same w g 8 _ 65 c' h];rfl
theorem Zo1 (w:World)(g o:Nat)(u:Value):Frm (fun k=>k=g) w (w.setCell ⟨g,o,none⟩ u):=Frm.setCell (F:=fun k=>k=g) (Frm.refl _ w) (p:=⟨g,o,none⟩) rfl _
theorem Zfi (w:World)(g:Nat)(u:Un)(c:Value):Frm (fun k=>k=g) w (setUn w g u c):=by
 have hb:Below 0 w (setUn w g u c):=Zas (Below.refl 0 w) (Nat.zero_le _) u c;exact⟨hb.os,hb.tape,hb.output,hb.size,fun k _ hk=>Zfj w g u c k hk⟩
theorem UnBlk.stay (h:UnBlk w g u c)(hs:Zlw e w w')(he:65≠e):UnBlk w' g u c:=(hs _ _ _ _ h he).trans h
theorem UnBlk.frm {F:Nat→Prop}(h:UnBlk w g u c)(hf:Frm F w w')(hn:¬F g):UnBlk w' g u c:=(hf.block g h.lt hn).trans h
theorem Ze4 (h:UnBlk w g u c)(hf:Frm (fun k=>k=g) w w'):Zlw 65 w w':=fun p C t fr hp ht=>hf.block p (Array.getElem?_eq_some_iff.1 hp).1 (fun e=>by
 subst e
 unfold UnBlk at h
 rw [h] at hp
 simp only [Option.some.injEq,Obj.cells.injEq] at hp
 exact ht hp.2.1.symm)
theorem Za1 {u0:Un}{c0:Value}(h:UnBlk W g u0 c0)(u:Un)(a:Option Addr)(n c:Nat):(Instr.storeAt 65 (.pointer (some ⟨g,0,none⟩)) (u.val (.slice a n c))).run prog W=.ok () (setUn W g u (.slice a n c)):=by
 have aa:∀(w:World) (a:Addr) (m:Mode) (x:Nat),(store a (.float .f64 x) m).run prog w=stored prog w a (.float .f64 x) m:=fun w a m x=>run_store prog w a _ m rfl;have c0:=h.c0;have c1:=h.c1;have c2:=h.c2;have c3:=h.c3;have c4:=h.c4;have c5:=h.c5;have c6:=h.c6;have c7:=h.c7;have c8:=h.c8;have c9:=h.c9;have c10:=h.c10;have c11:=h.c11;have f0:=h.fz;simp [go_sem,Instr.storeAt,aa,stored,c0,c1,c2,c3,c4,c5,c6,c7,c8,c9,c10,c11,f0,Un.val,setUn]
theorem ZdV (w:World)(x:Ux):∃W,(Instr.storeAt 65 (.pointer (some ⟨w.heap.size,0,none⟩)) x.val).run prog (w.alloc (.cells #[.int .i64 0,.int .i64 0,.int .i64 0,.int .i64 0,.int .i64 0,.int .i64 0,.float .f64 0,.bool false,.slice none 0 0,.int .i64 0,.int .i64 0,.int .i64 0] 65))=.ok () W∧UnBlk W w.heap.size x.u (.slice x.a x.n x.c)∧Bl w W:=by
 have hz:UnBlk (w.alloc (.cells #[.int .i64 0,.int .i64 0,.int .i64 0,.int .i64 0,.int .i64 0,.int .i64 0,.float .f64 0,.bool false,.slice none 0 0,.int .i64 0,.int .i64 0,.int .i64 0] 65)) w.heap.size zeroU (.slice none 0 0):=Zbn w zeroU _;exact⟨_,Za1 hz x.u x.a x.n x.c,Zfh hz _ _,Zas (Zab w _) (Nat.le_refl _) _ _⟩
theorem Zoo (x:Ux)(w:World)(h:Fs w x.a x.n x.c x.u.row.xs)(hn:x.n≤1000) :
    Calls prog 113 #[x.val] w fun e w'=>∃a c,e=.returned (x.u.val (.slice a x.n c))∧OwnsV 32 w' w.heap.size (.slice a x.n c) (fVals x.u.row.xs)∧Fs w' a x.n c x.u.row.xs∧Bl w w':=by
  have HU:=Zh (Zbn w x.u (.slice x.a x.n x.c));have HB:Hi (∀A Z,Bl w ((w.alloc A).alloc Z)):=ZaA w;have ai:Hi (∀Z,UnBlk ((w.alloc (.cells #[.int .i64 x.u.tx,.int .i64 x.u.no,.int .i64 x.u.prev,.int .i64 x.u.kind,.int .i64 x.u.page,.int .i64 x.u.slot,.float .f64 x.u.row.key,.bool x.u.row.dead,.slice x.a x.n x.c,.int .i64 x.u.row.wr,.int .i64 x.u.row.cell,.int .i64 x.u.row.no] 65)).alloc Z) w.heap.size x.u (.slice x.a x.n x.c)):=fun Z=>HU.o.keep (Zab _ Z);have HZ:Hi (∀A,UnBlk ((w.alloc A).alloc (.cells #[.int .i64 0,.int .i64 0,.int .i64 0,.int .i64 0,.int .i64 0,.int .i64 0,.float .f64 0,.bool false,.slice none 0 0,.int .i64 0,.int .i64 0,.int .i64 0] 65)) (w.heap.size+1) zeroU (.slice none 0 0)):=fun A=>by
   have:=Zbn (w.alloc A) zeroU (.slice none 0 0);rwa [show (w.alloc A).heap.size=w.heap.size+1 by simp] at this
  have HV:Hi (∀A Z,Vs ((w.alloc A).alloc Z) x.a x.n (fVals x.u.row.xs)):=fun A Z=>(h.keep (HB.o A Z) (Nat.le_refl _)).vs;have ad:Hi (x.a=none→x.c=0):=h.nil;have ab:Hi (∀y∈x.u.row.xs,y<18446744073709551616):=h.fit;have aj:=Zh h.len;(have ac:Hi (([]:List Value).length+x.n≤1000000):=by show _≤_;simp;omega);clear h HU;unfold Ux.val Un.val;go_enter func113,ntmps113;go_wp2_with (at_builtin;refine ZaJ Zm0 _ rfl (.const (.slice none 0 0)) (.tmp 5) rfl w.heap.size (.slice none 0 0) [] rfl (OwnsV.nil _ _ _) _ _ _ (fVals x.u.row.xs) rfl (HV.o _ _) ad.o ac.o (HB.o _ _).size ?_);intro v1 w2 ag ak ah;have aa:=aj.o;obtain⟨a1,c1,rfl,ao⟩:=OwnsV.fs (xs:=x.u.row.xs) (n:=x.n) (by simpa using ag) ab.o aa (by omega);have hu:=(ai.o _).stay ah (by decide);have hz:=(HZ.o _).stay ah (by decide);have af:=Zh ((HB.o _ _).trans ak);have h8:=hu.c8;have ap:=hu.fz 8;have hu':=ZmY hu (.slice a1 x.n c1);have ae:=Zo1 w2 w.heap.size 8 (.slice a1 x.n c1);have hz':=hz.frm ae (by omega);have am:=Zh (ZbV w.heap.size x.u (.slice a1 x.n c1) ⟨_,_,_,rfl⟩ _ hu');have an:=Zh (Za1 hz' x.u a1 x.n c1);have HZ':=Zh hz';have HO:Hi (OwnsV 32 (setUn (w2.setCell ⟨w.heap.size,8,none⟩ (.slice a1 x.n c1)) (w.heap.size+1) x.u (.slice a1 x.n c1)) w.heap.size (.slice a1 x.n c1) (fVals x.u.row.xs)):=by
   (have h1:OwnsV 32 w2 w.heap.size (.slice a1 x.n c1) (fVals x.u.row.xs):=by simpa using ag);exact(h1.stay (Ze4 hu ae) (by decide)).stay (Ze4 hz' (Zfi _ _ _ _)) (by decide)
  have al:Hi (Bl w (setUn (w2.setCell ⟨w.heap.size,8,none⟩ (.slice a1 x.n c1)) (w.heap.size+1) x.u (.slice a1 x.n c1))):=Zas (af.o.trans (ae.below af.o.size (fun k hk=>by rw [hk];exact Nat.le_refl _))) (Nat.le_succ _) _ _;clear ag ak ah ao hu hz hu' hz' ae ai HZ HV ad ac HB af aa;go_wp2_with (first | refine Zah _ rfl 65 (.tmp 1) rfl (.pointer (some ⟨w.heap.size,0,none⟩)) (x.u.val (.slice a1 x.n c1)) rfl am.o ?_ | refine Zad _ rfl rfl 65 (.tmp 2) (.tmp 9) rfl (.pointer (some ⟨w.heap.size+1,0,none⟩)) (x.u.val (.slice a1 x.n c1)) rfl rfl _ an.o ?_);refine Zja rfl HZ'.o x.u (.slice a1 x.n c1) ⟨_,_,_,rfl⟩ (by rfl) (by rfl) ?_;exact⟨a1,c1,rfl,HO.o,HO.o.fsAt ab.o (by rw [aj.o];omega),al.o⟩
section
variable {ops : Array Oper} {rest : List Oper} {o : Oper} {a : Act} {Q : Exit → Act → World → Prop}
theorem Zbu (w:World)(ab:o.guard=none)(S:TypeId)(s x:Operand)(ho:o.op=.call { callee:=.builtin .append,args:=#[s,x],argTypes:=#[S,S] })(vs vx:Value)(hs:a.eval s=vs)(hx:a.eval x=vx)(v':Value)(w':World)(aa:∀ty,(Builtin.append_ #[S,S] ty #[vs,vx]).run prog w=.ok v' w')(hK:wpList prog ops Q rest (a.put o.dst v') w'):wpList prog ops Q (o :: rest) a w:=by
 refine wpList_plain ab fun K' hK'=>?_;unfold Oper.wp;simp [execOp,ho,resolve,invoke,builtin,hs,hx,aa,Result.andThen];exact hK' _ _ hK
end
open Go.Shelf
def Znc:Go.Shelf.Ren:=⟨fun | 5=>44 | 8=>92 | 7=>91 | 19=>132 | 20=>133 | 10=>123 | 11=>124 | 12=>125 | 13=>126 | 14=>127 | 15=>128 | 16=>129 | 17=>130 | 18=>131 | 30=>156 | 31=>157 | 32=>158 | 33=>159 | 34=>160 | 35=>161 | 40=>182 | n=>n,fun | 23=>29 | 25=>3 | 3=>3 | 32=>142 | 22=>29 | 0=>0 | 44=>178 | 46=>88 | 4=>4 | 36=>170 | 35=>169 | 41=>175 | 5=>5 | 9=>9 | 53=>200 | 57=>204 | 63=>222 | 64=>223 | n=>n,fun | n=>n⟩
theorem Zo2:Go.Proofs.SlLaysM.n5 prog Znc:={
 mixed:=by kernel_rfl
 f5:=⟨f44.name,by decide,func44.trans (congrArg some (by kernel_rfl))⟩
 f7:=⟨f91.name,by decide,func91.trans (congrArg some (by kernel_rfl))⟩
 f8:=func92.trans (congrArg some (by kernel_rfl))
 f10:=⟨f123.name,by decide,func123.trans (congrArg some (by kernel_rfl))⟩
 f11:=⟨f124.name,by decide,func124.trans (congrArg some (by kernel_rfl))⟩
 f12:=⟨f125.name,by decide,func125.trans (congrArg some (by kernel_rfl))⟩
 f13:=⟨f126.name,by decide,func126.trans (congrArg some (by kernel_rfl))⟩
 f14:=⟨f127.name,by decide,func127.trans (congrArg some (by kernel_rfl))⟩
 f15:=⟨f128.name,by decide,func128.trans (congrArg some (by kernel_rfl))⟩
 f16:=⟨f129.name,by decide,func129.trans (congrArg some (by kernel_rfl))⟩
 f17:=⟨f130.name,by decide,func130.trans (congrArg some (by kernel_rfl))⟩
 f18:=⟨f131.name,by decide,func131.trans (congrArg some (by kernel_rfl))⟩
 f19:=func132.trans (congrArg some (by kernel_rfl))
 f20:=func133.trans (congrArg some (by kernel_rfl))
 f30:=⟨f156.name,by decide,func156.trans (congrArg some (by kernel_rfl))⟩
 f31:=func157.trans (congrArg some (by kernel_rfl))
 f32:=func158.trans (congrArg some (by kernel_rfl))
 f33:=⟨f159.name,by decide,func159.trans (congrArg some (by kernel_rfl))⟩
 f34:=⟨f160.name,by decide,func160.trans (congrArg some (by kernel_rfl))⟩
 f35:=⟨f161.name,by decide,func161.trans (congrArg some (by kernel_rfl))⟩
 f40:=⟨f182.name,by decide,func182.trans (congrArg some (by kernel_rfl))⟩
 t0:=underlying0
 a0:=isAgg0
 z0:=sizeOf0
 v0:=zeroValue0
 t3:=underlying3
 a3:=isAgg3
 z3:=sizeOf3
 v3:=zeroValue3
 t4:=underlying4
 a4:=isAgg4
 z4:=sizeOf4
 v4:=zeroValue4
 t5:=underlying5
 a5:=isAgg5
 z5:=sizeOf5
 v5:=zeroValue5
 t9:=underlying9
 a9:=isAgg9
 z9:=sizeOf9
 v9:=zeroValue9
 t22:=underlying29
 a22:=isAgg29
 z22:=sizeOf29
 v22:=zeroValue29
 t23:=underlying29
 a23:=isAgg29
 z23:=sizeOf29
 v23:=zeroValue29
 t25:=underlying3
 a25:=isAgg3
 z25:=sizeOf3
 v25:=zeroValue3
 t32:=underlying142
 a32:=isAgg142
 z32:=sizeOf142
 v32:=zeroValue142
 t35:=underlying169
 a35:=isAgg169
 z35:=sizeOf169
 v35:=zeroValue169
 t36:=underlying170
 a36:=isAgg170
 z36:=sizeOf170
 v36:=zeroValue170
 t41:=underlying175
 a41:=isAgg175
 z41:=sizeOf175
 v41:=zeroValue175
 t44:=underlying178
 a44:=isAgg178
 z44:=sizeOf178
 v44:=zeroValue178
 t46:=underlying88
 a46:=isAgg88
 z46:=sizeOf88
 v46:=zeroValue88
 t53:=underlying200
 a53:=isAgg200
 z53:=sizeOf200
 v53:=zeroValue200
 t57:=underlying204
 a57:=isAgg204
 z57:=sizeOf204
 v57:=zeroValue204
 t63:=underlying222
 a63:=isAgg222
 z63:=sizeOf222
 v63:=zeroValue222
 t64:=underlying223
 a64:=isAgg223
 z64:=sizeOf223
 v64:=zeroValue223 }
def ZgX:Go.Shelf.Ren:=⟨fun | 43=>45 | n=>n,fun | 22=>29 | 23=>3 | 0=>0 | 3=>3 | 4=>4 | n=>n,fun | n=>n⟩
theorem Zjq:Go.Proofs.SlLaysE.n43 prog ZgX:={
 mixed:=by kernel_rfl
 f43:=⟨f45.name,by decide,func45.trans (congrArg some (by kernel_rfl))⟩
 t0:=underlying0
 a0:=isAgg0
 z0:=sizeOf0
 v0:=zeroValue0
 t3:=underlying3
 a3:=isAgg3
 z3:=sizeOf3
 v3:=zeroValue3
 t4:=underlying4
 a4:=isAgg4
 z4:=sizeOf4
 v4:=zeroValue4
 t22:=underlying29
 a22:=isAgg29
 z22:=sizeOf29
 v22:=zeroValue29
 a23:=isAgg3
 z23:=sizeOf3 }
open Go.RowKit Go.Sort Go.Lib
def srt (ks:List Int):List Int:=ks.mergeSort fun x y=>decide (x≤y)
theorem ZgJ (ks:List Int):(srt ks).Perm ks:=List.mergeSort_perm _ _
theorem ZdP (ks:List Int):(srt ks).length=ks.length:=(ZgJ ks).length_eq
theorem Zpf (ks:List Int){j:Nat}(aa:i<j)(hj:j<(srt ks).length):(srt ks)[i]'(by omega)≤(srt ks)[j]:=by
 have h:(srt ks).Pairwise (fun a b=>decide (a≤b)=true):=List.pairwise_mergeSort (fun a b c h1 h2=>by simp only [decide_eq_true_eq] at *;exact Int.le_trans h1 h2) (fun a b=>by simp only [Bool.or_eq_true,decide_eq_true_eq];exact Int.le_total a b) ks;have:=List.pairwise_iff_getElem.1 h i j (by omega) hj aa;simpa using this
theorem ZfG (d:List Int)(j:Nat)(h0:0<j)(hj:j<d.length):keeps d.toArray j=true↔d[j]≠d[j-1]'(by omega):=by
 unfold keeps;rw [decide_eq_true_eq,getElem!_pos d.toArray j (by simpa using hj),getElem!_pos d.toArray (j-1) (by simp;omega)];simp only [List.getElem_toArray];constructor
 · rintro (h | h)
   · omega
   · exact h
 · exact .inr
theorem ZeF (ks:List Int):decide ((compactUpTo (srt ks).toArray (srt ks).toArray.size).length<ks.length) = !decide ks.Nodup:=by
 (have ab:(srt ks).toArray.size=ks.length:=by simp [ZdP]);rw [ab];by_cases aa:∀j,j<ks.length→keeps (srt ks).toArray j=true
 · have hn:ks.Nodup:=by
    rw [← (ZgJ ks).nodup_iff];refine List.pairwise_iff_getElem.2 fun i j hi hj ac=>?_;have hk:=(ZfG (srt ks) j (by omega) hj).1 (aa j (by rw [← ZdP];exact hj));have h2:=Zpf ks (i:=j-1) (j:=j) (by omega) hj;by_cases e:i=j-1
    · subst e;exact fun h=>hk h.symm
    · have h1:=Zpf ks (i:=i) (j:=j-1) (by omega) (by omega);intro h;omega
   rw [compactUpTo_all _ _ aa];simp [hn]
 · have hn:¬ks.Nodup:=by
    intro hn;apply aa;intro j hj;rcases Nat.eq_zero_or_pos j with rfl | h0
    · exact keeps_lt_one _ 0 (by omega)
    · rw [ZfG (srt ks) j h0 (by rw [ZdP];exact hj)];have:=List.pairwise_iff_getElem.1 ((ZgJ ks).nodup_iff.2 hn) (j-1) j (by rw [ZdP];omega) (by rw [ZdP];exact hj) (by omega);exact fun h=>this h.symm
   have hl:(compactUpTo (srt ks).toArray ks.length).length<ks.length:=by
    unfold compactUpTo;rw [List.length_map];have:((List.range ks.length).filter (keeps (srt ks).toArray)).length<(List.range ks.length).length:=by
     rw [List.length_filter_lt_length_iff_exists];have:∃j,¬(j<ks.length→keeps (srt ks).toArray j=true):=Classical.not_forall.1 aa;obtain⟨j,hj⟩:=this;rw [Classical.not_imp] at hj;exact⟨j,List.mem_range.2 hj.1,hj.2⟩
    simpa using this
   rw [decide_eq_true hl,decide_eq_false hn];rfl
theorem ZdO {B:Nat}{os:Array Obj}(d:Array Int)(hg:B≤g)(hB:B≤w.heap.size):Below B w (grow (putRow (Value.int .i64) (Sort.ahead w n) g 0 d) os):=by
 refine⟨rfl,rfl,rfl,by simp,fun k hk=>?_⟩;rw [heap_grow_old _ _ (by simp;omega)];(have:g≠k:=by omega);simp [putRow,mapBlock,Sort.ahead,Array.getElem?_modify,this]
theorem Zky {cur:Array Value}{ks:List Int}(hg:w.heap[g]? = some (.cells cur e (0,0)))(ht:cur.toList.take ks.length=kVals ks):Holds (Value.int .i64) w g 0 ks.toArray:=by
 intro j hj;(have hj':j<ks.length:=by simpa using hj);refine⟨?_,frozen_of_row w g _ _ e hg⟩;rw [Nat.zero_add,cell_of_row _ _ _ _ _ _ hg,← Array.getElem?_toList];have:(cur.toList.take ks.length)[j]? = cur.toList[j]?:=List.getElem?_take_of_lt hj';rw [← this,ht,getElem!_pos ks.toArray j hj];simp [kVals,hj']
theorem Zho (v:Value)(ks:List Int)(w:World)(base:Nat)(hb:base≤w.heap.size)(h:OwnsV 3 w base v (kVals ks))(hl:ks.length≤1000) :
    Calls prog 78 #[v] w fun e w'=>e=.returned (.bool (!decide ks.Nodup))∧Below base w w':=by
  (have ae:(kVals ks).length=ks.length:=by simp [kVals]);rcases h.2 with ⟨rfl,h0⟩ | ⟨g,cap,cur,rfl,hg,hh,aj,ao,ap,ht⟩
  · rw [ae] at h0;have:ks=[]:=List.eq_nil_of_length_eq_zero h0;subst this;have HS:=Zh (Go.Proofs.AnyM.slices_Sort_int_none Zo2 none 0 w);have HW:=Zh (Below.refl base w);have HC:Hi (Calls prog 45 #[.slice none 0 0] w fun e w'=>e=.returned (.slice none 0 0)∧w'=w):=by
     clear h hb hl ae h0 HS HW;go_enter func45,ntmps45;go_wp2;go_ret;exact⟨rfl,rfl⟩
    change Hi (Calls prog 44 _ _ _) at HS;rw [show (!decide ([]:List Int).Nodup)=false by decide];clear h hb hl ae h0;go_enter func78,ntmps78;go_wp2_with fail;refine HS.o.mono ?_;rintro e w' ⟨rfl,hw⟩;obtain rfl:=hw.symm;go_wp2_with fail;refine HC.o.mono ?_;rintro e w' ⟨rfl,hw⟩;obtain rfl:=hw.symm;go_wp2;go_ret;exact⟨rfl,HW.o⟩
  · rw [ae] at aj ht ⊢;rw [Nat.mul_one] at ht;have hH:=Zky hh ht;have ai:g<w.heap.size:=(Array.getElem?_eq_some_iff.1 hh).1;have HS:=Zh (Go.Proofs.AnyM.slices_Sort_int Zo2 g 0 cap ks w hH ai (by omega));change Hi (Calls prog 44 _ _ _) at HS;have HC:Hi (∀W,Holds (Value.int .i64) W g 0 (srt ks).toArray→base≤W.heap.size→Calls prog 45 #[.slice (some ⟨g,0,none⟩) ks.length cap] W fun e w'=>e=.returned (.slice (some ⟨g,0,none⟩) (compactUpTo (srt ks).toArray (srt ks).toArray.size).length cap)∧Below base W w'):=by
     intro W hW an;(have ak:(srt ks).toArray.size=ks.length:=by simp [ZdP]);have hc:=Go.Proofs.AnyE.slices_Compact Zjq (Value.int .i64) (fun _=>rfl) (EqlAt.intD _ _ .i64) (NeqAt.intD _ _ .i64) 0 zeroValue3 g 0 cap (srt ks).toArray W hW (by rw [ak];omega) (by rw [ak];exact aj);change Calls prog 45 _ _ _ at hc;rw [ak] at hc ⊢;refine hc.mono ?_;rintro e w' ⟨rfl,q,rfl⟩;refine⟨rfl,?_⟩;have:=ZdO (n:=q) (os:=#[]) (compactUpTo (srt ks).toArray ks.length ++ List.replicate (ks.length-(compactUpTo (srt ks).toArray ks.length).length) 0).toArray hg an;rwa [grow_empty] at this
    have HH:=Zh hH;have HG:=Zh hg;have al:=Zh ai;have HB:=Zh hb;have am:=Zh (ZeF ks);rw [← ZeF ks];generalize (compactUpTo (srt ks).toArray (srt ks).toArray.size).length=m at *;clear h ae hg hh aj ao ap ht hH ai hb am;by_cases hm:m<ks.length
    · rw [decide_eq_true hm];go_enter func78,ntmps78;go_wp2_with fail;refine HS.o.mono ?_;rintro e w1 ⟨rfl,n,os,ab⟩;(have aa:Below base w w1:=by rw [ab];exact ZdO _ HG.o HB.o);have ac:Holds (Value.int .i64) w1 g 0 (srt ks).toArray:=by
       rw [ab];exact holds_grow _ _ _ _ _ _ (by simpa using al.o) (holds_putRow _ _ _ _ ks.toArray _ (holds_ahead _ _ _ _ _ _ HH.o) (by simp))
      have af:=Zh (HC.o w1 ac (Nat.le_trans HB.o aa.size));have ag:=Zh aa;clear ab aa ac HS HC;go_wp2_with fail;refine af.o.mono ?_;rintro e w2 ⟨rfl,ad⟩;have ah:=Zh (ag.o.trans ad);clear ad;go_wp2;go_ret;exact⟨rfl,ah.o⟩
    · rw [decide_eq_false hm];go_enter func78,ntmps78;go_wp2_with fail;refine HS.o.mono ?_;rintro e w1 ⟨rfl,n,os,ab⟩;(have aa:Below base w w1:=by rw [ab];exact ZdO _ HG.o HB.o);have ac:Holds (Value.int .i64) w1 g 0 (srt ks).toArray:=by
       rw [ab];exact holds_grow _ _ _ _ _ _ (by simpa using al.o) (holds_putRow _ _ _ _ ks.toArray _ (holds_ahead _ _ _ _ _ _ HH.o) (by simp))
      have af:=Zh (HC.o w1 ac (Nat.le_trans HB.o aa.size));have ag:=Zh aa;clear ab aa ac HS HC;go_wp2_with fail;refine af.o.mono ?_;rintro e w2 ⟨rfl,ad⟩;have ah:=Zh (ag.o.trans ad);clear ad;go_wp2;go_ret;exact⟨rfl,ah.o⟩
theorem Zhu (a b:List Int):kVals (a ++ b)=kVals a ++ kVals b:=by simp [kVals]
theorem Zml (a:List Int):(kVals a).length=a.length:=by simp [kVals]
theorem ZkI (l:List Un)(k:Nat):(nosU (l.take k)).length≤k:=Nat.le_trans (Zj9 _) (by rw [List.length_take];omega)
theorem ZfC (a:Option Addr)(n cap:Nat)(l:List Ux)(w:World)(h:Us w a n l)(ci:n≤1000000) :
    Calls prog 34 #[.slice a n cap] w fun e w'=>e=.returned (.int .i64 (chk (MayU (uns l))))∧Bl w w':=by
  (have aw:(uns l).length=n:=by rw [Zcd,h.len]);have H0:=Zh (Below.refl w.heap.size w);have aa:=ZqT (l:=uns l);rw [aw] at aa;by_cases h6:n<6
  · (have h6':(n:Int)<6:=by omega);rw [aa (by unfold lenU;simp;omega)];clear h aw aa h6;go_enter func34,ntmps34;go_wp2;go_ret;exact⟨rfl,H0.o⟩
  by_cases aj:378<n
  · (have h6':¬(n:Int)<6:=by omega);(have bb:(378:Int)<(n:Int):=by omega);rw [aa (by unfold lenU;simp;omega)];clear h aw aa h6 aj;go_enter func34,ntmps34;go_wp2;go_ret;exact⟨rfl,H0.o⟩
  (have h6':¬(n:Int)<6:=by omega);(have bb:¬(378:Int)<(n:Int):=by omega);(have ck:(n:Int).tmod 6=((n % 6:Nat):Int):=by rw [Int.ofNat_tmod];rfl);by_cases hm:n % 6=0;rotate_left
  · have hm':((((n % 6:Nat):Int)) == 0)=false:=beq_eq_false_iff_ne.2 (by omega);rw [aa (by unfold lenU;simp;omega)];clear h aw aa h6 aj;go_enter func34,ntmps34;go_wp2;go_ret;exact⟨rfl,H0.o⟩
  rw [hm] at ck;have ce:Hi (lenU (uns l).length=true):=(Zg2 _).2 (by omega);have ay:=Zh aw;have HE:=Zh h;have cl:=Zh h.len;(have bu:n≤378:=by omega);have cf:Hi (OwnsV 3 w w.heap.size (.slice none 0 0) (kVals (nosU ((uns l).take 0)))):=OwnsV.nil _ _ _;clear h aw aa h6 aj hm;go_enter func34,ntmps34;go_wp2_with fail;go_loopw [3,23] (fun v iv wr=>∃i:Nat,i≤n∧iv=.int .i64 (i:Nat)∧Hi (OwnsV 3 wr w.heap.size v (kVals (nosU ((uns l).take i))))∧Hi (∀j,j<i→okU ((uns l).getD j zeroU)=true)∧Hi (Bl w wr)) (fun _ iv _=>n-(intOf iv).toNat)
  case atStart=>exact ⟨0,Nat.zero_le _,rfl,cf,(fun j hj=>absurd hj (Nat.not_lt_zero _)),H0⟩
  case round =>
   obtain⟨i,hi,rfl,bj,av,ar⟩:=hrel;rcases Nat.lt_or_ge i n with bi | cm
   · (have i1:(i:Int)<(n:Int):=by omega);have hr:=HE.o.keep ar.o (Nat.le_refl _);obtain⟨b1,off,rfl,bs⟩:=hr.at' i bi;have an:=hr.mem bi;have am:=hr.cols _ an;have bc:=hr.fits _ an;have bz:(uns l).getD i zeroU=(l.getD i Ux.zero).u:=Zbz l i;generalize l.getD i Ux.zero=y at *;have bl:=Zh (Zbm b1 (off+i*12) y _ bs);obtain⟨W2,bw,al,ac⟩:=ZdV _ y;have bq:=Zh bw;have be:=Zh (ZbV _ y.u (.slice y.a y.n y.c) ⟨_,_,_,rfl⟩ W2 al);have aq:=Zh (ZeQ y.u y.a y.n y.c W2 (am.keep ac (Nat.le_refl _)));have br:=Zh al;have ax:=Zh (am.keep ac (Nat.le_refl _));have cc:=Zh bc;have ah:=Zh (bj.o.keep ac (Nat.le_refl _));have ai:=Zh (Zac ar.o ac);have bg:=Zh (Zmw (l:=uns l) (k:=i) (by rw [ay.o];exact bi));have ba:=Zh bz;have ad:y.u.val (.slice y.a y.n y.c)=y.val:=rfl;rw [ad] at aq be;clear bs an am bc bw al ac hr bj ar bz ad;cases he:y.u.emp with
     | true =>
      rw [he] at aq;have bn:Hi (∀j,j<i+1→okU ((uns l).getD j zeroU)=true):=fun j hj=>by
       by_cases e:j=i
       · rw [e,ba.o,okU,he];rfl
       · exact av.o j (by omega)
      have ag:Hi (nosU ((uns l).take (i+1))=nosU ((uns l).take i)):=by
       show _=_;rw [bg.o,ba.o,he];simp
      clear he av bg;go_wp2_with (first | refine Zah _ rfl 65 (.tmp 25) rfl (.pointer (some ⟨b1,off+i*12,none⟩)) y.val rfl bl.o ?_ | refine Zad _ rfl rfl 65 (.tmp 5) (.tmp 26) rfl (.pointer (some ⟨_,0,none⟩)) y.val rfl rfl W2 bq.o ?_ | refine Zah _ rfl 65 (.tmp 5) rfl (.pointer (some ⟨_,0,none⟩)) y.val rfl be.o ?_);refine aq.o.mono ?_;rintro e w3 ⟨rfl,ae⟩;have bh:=Zh (Zac ai.o ae);have ab:=ah.o.keep ae (Nat.le_refl _);rw [← ag.o] at ab;replace ab:=Zh ab;clear ae;go_wp2;go_roundw;exact ⟨i+1,by omega,by go_num,ab,bn,bh⟩;simp only [intOf];omega
     | false =>
      rw [he] at aq;have ag:Hi (nosU ((uns l).take (i+1))=nosU ((uns l).take i) ++ [y.u.no]):=by
       show _=_;rw [bg.o,ba.o,he];simp
      have cb:=Zh he;clear he bg;go_wp2_with (first | refine Zah _ rfl 65 (.tmp 25) rfl (.pointer (some ⟨b1,off+i*12,none⟩)) y.val rfl bl.o ?_ | refine Zad _ rfl rfl 65 (.tmp 5) (.tmp 26) rfl (.pointer (some ⟨_,0,none⟩)) y.val rfl rfl W2 bq.o ?_ | refine Zah _ rfl 65 (.tmp 5) rfl (.pointer (some ⟨_,0,none⟩)) y.val rfl be.o ?_);refine aq.o.mono ?_;rintro e w3 ⟨rfl,ae⟩;have bh:=Zh (Zac ai.o ae);have ab:=Zh (ah.o.keep ae (Nat.le_refl _));have af:=Zh (br.o.keep ae);have bf:=Zh (ZbV _ y.u (.slice y.a y.n y.c) ⟨_,_,_,rfl⟩ w3 af.o);have ap:=Zh (Zkc y.u y.a y.n y.c w3 (ax.o.keep ae (Nat.le_refl _)) cc.o.row);have ad:y.u.val (.slice y.a y.n y.c)=y.val:=rfl;rw [ad] at bf ap;clear ae ad be bl bq aq ah br ax ai;cases hmy:y.u.may with
      | false =>
       rw [hmy] at ap;have HN:Hi (MayU (uns l)=false):=Zrf (i:=i) (by rw [ay.o];exact bi) (by rw [ba.o,okU,cb.o,hmy];rfl);clear hmy;go_wp2_with (refine Zah _ rfl 65 (.tmp 5) rfl (.pointer (some ⟨_,0,none⟩)) y.val rfl bf.o ?_);refine ap.o.mono ?_;rintro e w4 ⟨rfl,ak⟩;have az:=Zh (Zac bh.o ak);clear ak;simp only [chk];go_wp2;go_ret;exact⟨by rw [HN.o];rfl,az.o⟩
      | true =>
       rw [hmy] at ap;have bn:Hi (∀j,j<i+1→okU ((uns l).getD j zeroU)=true):=fun j hj=>by
        by_cases e:j=i
        · rw [e,ba.o,okU,hmy];simp
        · exact av.o j (by omega)
       clear hmy av;go_wp2_with (refine Zah _ rfl 65 (.tmp 5) rfl (.pointer (some ⟨_,0,none⟩)) y.val rfl bf.o ?_);refine ap.o.mono ?_;rintro e w4 ⟨rfl,ak⟩;have az:=Zh (Zac bh.o ak);have x1:=(af.o.keep ak).c1;have bk:=Zh (Zab w4 (.cells #[.int .i64 y.u.no] 3));have bo:=Zh ((ab.o.keep ak (Nat.le_refl _)).keep bk.o (Nat.le_refl _));have cg:=Zh (ZjQ 3 w4 (.int .i64 y.u.no) rfl);(have cd:Hi ((kVals (nosU ((uns l).take i))).length+1≤1000000):=by show _≤_;rw [Zml];have:=ZkI (uns l) i;omega);have ca:Hi (w.heap.size≤(w4.alloc (.cells #[.int .i64 y.u.no] 3)).heap.size):=Nat.le_trans az.o.size bk.o.size;clear ak ab af ap bf;simp only [chk];go_wp2_with (at_builtin;refine ZaJ ZjD _ rfl (.tmp 34) (.tmp 37) rfl w.heap.size _ (kVals (nosU ((uns l).take i))) rfl bo.o _ _ _ [.int .i64 y.u.no] rfl cg.o (fun h=>by cases h) cd.o ca.o ?_);intro v5 w5 bv bt _;have bp:Hi (OwnsV 3 w5 w.heap.size v5 (kVals (nosU ((uns l).take (i+1))))):=by
        show OwnsV _ _ _ _ _;rw [ag.o,Zhu];exact bv
       have ch:=Zh ((az.o.trans (bk.o.mono az.o.size)).trans bt);clear bv bt;go_wp2;go_roundw;exact ⟨i+1,by omega,by go_num,bp,bn,ch⟩;simp only [intOf];omega
   · (have i1:¬(i:Int)<(n:Int):=by omega);(have cj:i=n:=by omega);have bx:(uns l).take i=uns l:=List.take_of_length_le (by rw [ay.o];omega);have ao:=bj.o;rw [bx] at ao;have bd:=Zh (Zho _ (nosU (uns l)) _ w.heap.size ar.o.size ao (by have:=Zj9 (uns l);rw [ay.o] at this;omega));have au:=ZpJ ce.o (fun j hj=>av.o j (by rw [ay.o] at hj;omega));clear bj ao bx av cj;cases hnd:decide (nosU (uns l)).Nodup with
     | true =>
      rw [hnd] at au bd;have bm:=Zh au;clear au hnd;go_wp2_with fail;refine bd.o.mono ?_;rintro e w2 ⟨rfl,ac⟩;have ai:=Zh (ar.o.trans ac);clear ac;go_wp2;go_ret;exact⟨by rw [bm.o];rfl,ai.o⟩
     | false =>
      rw [hnd] at au bd;have bm:=Zh au;clear au hnd;go_wp2_with fail;refine bd.o.mono ?_;rintro e w2 ⟨rfl,ac⟩;have ai:=Zh (ar.o.trans ac);clear ac;go_wp2;go_ret;exact⟨by rw [bm.o];rfl,ai.o⟩
theorem Un.may_cols (h:u.may=true):u.row.xs.length≤4:=by
 have hu:undoB u.kind u.row=true:=by
  unfold Un.may at h;simp only [Bool.and_eq_true] at h;exact h.2
 unfold undoB at hu;split at hu
 · rw [Rw.same_eq hu];decide
 · split at hu
   · unfold Rw.may haveB at hu;simp only [Bool.and_eq_true,decide_eq_true_eq] at hu;exact hu.1.1.2.1.1
   · cases hu
theorem MayP.cols (h:MayP l):∀u∈l,u.row.xs.length≤1000:=by
 intro u hu;obtain⟨i,hi,rfl⟩:=List.getElem_of_mem hu;have:=h.ok i hi;rw [unget hi,okU,Bool.or_eq_true] at this;rcases this with e | e
 · rw [(Un.emp_iff _).1 e];decide
 · have:=Un.may_cols e;omega
theorem ZnO (a:Option Addr)(n cap:Nat)(l:List Ux)(w:World)(h:Us w a n l)(au:n≤1000000)(c m:Int) :
    Calls prog 70 #[.slice a n cap,.agg #[.int .i64 c,.int .i64 m]] w fun e w'=>∃x:Ux,e=.returned (.tuple #[x.val,.bool (if MayU (uns l)=true then getU (uns l) c m else (zeroU,false)).2])∧x.u=(if MayU (uns l)=true then getU (uns l) c m else (zeroU,false)).1∧(∀w0,Col w0 w' x)∧Bl w w':=by
  have HA:=Zh (ZaA w (.cells #[.int .i64 c,.int .i64 m] 37) (.cells #[.int .i64 0,.int .i64 0,.int .i64 0,.int .i64 0,.int .i64 0,.int .i64 0,.float .f64 0,.bool false,.slice none 0 0,.int .i64 0,.int .i64 0,.int .i64 0] 65));have bj:=Zbn (w.alloc (.cells #[.int .i64 c,.int .i64 m] 37)) zeroU (.slice none 0 0);rw [show (w.alloc (.cells #[.int .i64 c,.int .i64 m] 37)).heap.size=w.heap.size+1 by simp] at bj;have ay:Hi (UnBlk ((w.alloc (.cells #[.int .i64 c,.int .i64 m] 37)).alloc (.cells #[.int .i64 0,.int .i64 0,.int .i64 0,.int .i64 0,.int .i64 0,.int .i64 0,.float .f64 0,.bool false,.slice none 0 0,.int .i64 0,.int .i64 0,.int .i64 0] 65)) (w.heap.size+1) zeroU (.slice none 0 0)):=bj;have ak:Hi (((w.alloc (.cells #[.int .i64 c,.int .i64 m] 37)).alloc (.cells #[.int .i64 0,.int .i64 0,.int .i64 0,.int .i64 0,.int .i64 0,.int .i64 0,.float .f64 0,.bool false,.slice none 0 0,.int .i64 0,.int .i64 0,.int .i64 0] 65)).heap[w.heap.size]? = some (.cells #[.int .i64 c,.int .i64 m] 37)):=by
   show _=_;have h1:=heap_alloc_new w (.cells #[.int .i64 c,.int .i64 m] 37);have h2:=(Zab (w.alloc (.cells #[.int .i64 c,.int .i64 m] 37)) (.cells #[.int .i64 0,.int .i64 0,.int .i64 0,.int .i64 0,.int .i64 0,.int .i64 0,.float .f64 0,.bool false,.slice none 0 0,.int .i64 0,.int .i64 0,.int .i64 0] 65)).block w.heap.size (by simp);exact h2.trans h1
  have ap:Hi (∀w',Bl w w'→Calls prog 34 #[.slice a n cap] w' fun e w''=>e=.returned (.int .i64 (chk (MayU (uns l))))∧Bl w' w''):=fun w' hb=>ZfC a n cap l w' (h.keep hb (Nat.le_refl _)) au;have aq:Hi (∀w',Bl w w'→Calls prog 112 #[.slice a n cap,.int .i64 c] w' fun e w''=>e=.returned (.bool (!(atU (uns l) c).emp))∧Bl w' w''):=fun w' hb=>Zk1 w' a n cap l (h.keep hb (Nat.le_refl _)) au c;(have bo:Hi ((uns l).length=n):=by show _=_;rw [Zcd,h.len]);have HE:=Zh h;clear h bj;cases hm:MayU (uns l) with
  | false =>
   rw [hm] at ap;rw [if_neg (by decide)];simp only;clear hm aq;go_enter func70,ntmps70;go_wp2_with fail;refine(ap.o _ HA.o).mono ?_;rintro e w1 ⟨rfl,ab⟩;have aj:=Zh (Zac HA.o ab);have ae:=Zh (ay.o.keep ab);have aw:=Zh (Za1 ae.o zeroU none 0 0);have ad:=(ab.block w.heap.size (Array.getElem?_eq_some_iff.1 ak.o).1).trans ak.o;(have r0:w1.cell? ⟨w.heap.size,0,none⟩=some (.int .i64 c):=by rw [cell_of_row _ _ _ _ _ _ ad];rfl);(have r1:w1.cell? ⟨w.heap.size,1,none⟩=some (.int .i64 m):=by rw [cell_of_row _ _ _ _ _ _ ad];rfl);clear ab ad;simp only [chk];go_wp2_with (refine Zad _ rfl rfl 65 (.tmp 4) (.tmp 17) rfl (.pointer (some ⟨w.heap.size+1,0,none⟩)) (zeroU.val (.slice none 0 0)) rfl rfl _ aw.o ?_);refine ZcQ rfl ae.o zeroU (.slice none 0 0) (.bool false) ⟨_,_,_,rfl⟩ (by rfl) (by rfl) (by rfl) ?_;exact⟨Ux.zero,rfl,rfl,(fun _=>Col.zero _ _),Zas aj.o (Nat.le_succ _) _ _⟩
  | true =>
   have hP:=(Zdo _).1 hm;rw [hm] at ap;rw [if_pos rfl];clear hm;cases hem:(atU (uns l) c).emp with
   | true =>
    (have hg:getU (uns l) c m=(zeroU,false):=by unfold getU;rw [if_pos (.inl hem)]);rw [hg];simp only;rw [hem] at aq;clear hg hem hP;go_enter func70,ntmps70;go_wp2_with fail;refine(ap.o _ HA.o).mono ?_;rintro e w1 ⟨rfl,ab⟩;have aj:=Zh (Zac HA.o ab);have ae:=Zh (ay.o.keep ab);have aw:=Zh (Za1 ae.o zeroU none 0 0);have ad:=(ab.block w.heap.size (Array.getElem?_eq_some_iff.1 ak.o).1).trans ak.o;(have r0:w1.cell? ⟨w.heap.size,0,none⟩=some (.int .i64 c):=by rw [cell_of_row _ _ _ _ _ _ ad];rfl);(have r1:w1.cell? ⟨w.heap.size,1,none⟩=some (.int .i64 m):=by rw [cell_of_row _ _ _ _ _ _ ad];rfl);clear ab ad;simp only [chk];go_wp2_with fail;refine(aq.o _ aj.o).mono ?_;rintro e w2 ⟨rfl,ac⟩;have ao:=Zh (Zac aj.o ac);have al:=Zh (ae.o.keep ac);have an:=Zh (Za1 al.o zeroU none 0 0);have s0:=(ac.cell (p:=⟨w.heap.size,0,none⟩) (World.block_lt_of_cell? _ _ r0)).trans r0;have s1:=(ac.cell (p:=⟨w.heap.size,1,none⟩) (World.block_lt_of_cell? _ _ r1)).trans r1;clear ac r0 r1;go_wp2_with (refine Zad _ rfl rfl 65 (.tmp 4) (.tmp 17) rfl (.pointer (some ⟨w.heap.size+1,0,none⟩)) (zeroU.val (.slice none 0 0)) rfl rfl _ an.o ?_);refine ZcQ rfl al.o zeroU (.slice none 0 0) (.bool false) ⟨_,_,_,rfl⟩ (by rfl) (by rfl) (by rfl) ?_;exact⟨Ux.zero,rfl,rfl,(fun _=>Col.zero _ _),Zas ao.o (Nat.le_succ _) _ _⟩
   | false =>
    have hc:=Zgi hem;rw [bo.o] at hc;rw [hem] at aq;have bm:=Zh hem;have br:=Zh hP.cols;clear hP hem;obtain⟨k,rfl⟩:∃k:Nat,c=(k:Int)+1:=⟨(c-1).toNat,by omega⟩;(have hk:k<n:=by omega);(have bf:atU (uns l) ((k:Int)+1)=(l.getD k Ux.zero).u:=by rw [Zl2 _ (by rw [bo.o];exact hk),Zbz]);rw [bf] at bm;have bp:getU (uns l) ((k:Int)+1) m=if (l.getD k Ux.zero).u.no≠m then (zeroU,false) else ((l.getD k Ux.zero).u,true):=by
     unfold getU;rw [bf,bm.o];simp
    rw [bp];have am:=Zh (HE.o.mem hk);have bk:=Zh (HE.o.at' k hk);(have bw:(k:Int)<(n:Int):=by omega);clear bf bp hc;generalize l.getD k Ux.zero=y at *;have bl:Hi (y.n≤1000):=by
     have h1:=br.o y.u (List.mem_map.2 ⟨y,am.o,rfl⟩);have h2:=(HE.o.cols _ am.o).len;show _≤_;omega
    by_cases ar:y.u.no=m
    · rw [if_neg (by simpa using ar)];simp only;go_enter func70,ntmps70;go_wp2_with fail;refine(ap.o _ HA.o).mono ?_;rintro e w1 ⟨rfl,ab⟩;have aj:=Zh (Zac HA.o ab);have ae:=Zh (ay.o.keep ab);have aw:=Zh (Za1 ae.o zeroU none 0 0);have ad:=(ab.block w.heap.size (Array.getElem?_eq_some_iff.1 ak.o).1).trans ak.o;(have r0:w1.cell? ⟨w.heap.size,0,none⟩=some (.int .i64 ((k:Int)+1)):=by rw [cell_of_row _ _ _ _ _ _ ad];rfl);(have r1:w1.cell? ⟨w.heap.size,1,none⟩=some (.int .i64 m):=by rw [cell_of_row _ _ _ _ _ _ ad];rfl);clear ab ad;simp only [chk];go_wp2_with fail;refine(aq.o _ aj.o).mono ?_;rintro e w2 ⟨rfl,ac⟩;have ao:=Zh (Zac aj.o ac);have al:=Zh (ae.o.keep ac);have an:=Zh (Za1 al.o zeroU none 0 0);have s0:=(ac.cell (p:=⟨w.heap.size,0,none⟩) (World.block_lt_of_cell? _ _ r0)).trans r0;have s1:=(ac.cell (p:=⟨w.heap.size,1,none⟩) (World.block_lt_of_cell? _ _ r1)).trans r1;clear ac r0 r1;obtain⟨b1,off,rfl,af⟩:=bk.o;have bb:=Zh (Zbm b1 (off+k*12) y w2 (af.keep ao.o (Nat.le_refl _)));obtain⟨W3,ah,aa,ag⟩:=ZdV w2 y;have bc:=Zh ah;have ax:=Zh (Zac ao.o ag);have az:=Zh (al.o.keep ag);have av:=Zh (ZbV _ y.u (.slice y.a y.n y.c) ⟨_,_,_,rfl⟩ W3 aa);have y1:=aa.c1;have u0:=(ag.cell (p:=⟨w.heap.size,0,none⟩) (World.block_lt_of_cell? _ _ s0)).trans s0;have u1:=(ag.cell (p:=⟨w.heap.size,1,none⟩) (World.block_lt_of_cell? _ _ s1)).trans s1;have ai:y.u.val (.slice y.a y.n y.c)=y.val:=rfl;rw [ai] at av;clear af ah aa ag ai;(have bi:(y.u.no == m)=true:=by simp [ar]);clear ar;have bu:=Zh (Zoo y W3 ((HE.o.cols _ am.o).keep ax.o (Nat.le_refl _)) bl.o);go_wp2_with (first | refine Zah _ rfl 65 (.tmp 22) rfl (.pointer (some ⟨b1,off+k*12,none⟩)) y.val rfl bb.o ?_ | refine Zad _ rfl rfl 65 (.tmp 6) (.tmp 23) rfl (.pointer (some ⟨w2.heap.size,0,none⟩)) y.val rfl rfl W3 bc.o ?_ | refine Zah _ rfl 65 (.tmp 6) rfl (.pointer (some ⟨w2.heap.size,0,none⟩)) y.val rfl av.o ?_);refine bu.o.mono ?_;rintro e w4 ⟨a4,c4,rfl,bq,bh,bg⟩;have ba:=Zh (az.o.keep bg);have bd:=Zh (Za1 ba.o y.u a4 y.n c4);have bn:=Zh bq;have bt:=Zh bh.fit;have bs:=Zh bh.len;have bv:=Zh (Zac ax.o bg);clear bq bh bg;go_wp2_with (refine Zad _ rfl rfl 65 (.tmp 4) (.tmp 31) rfl (.pointer (some ⟨w.heap.size+1,0,none⟩)) (y.u.val (.slice a4 y.n c4)) rfl rfl _ bd.o ?_);refine ZcQ rfl ba.o y.u (.slice a4 y.n c4) (.bool true) ⟨_,_,_,rfl⟩ (by rfl) (by rfl) (by rfl) ?_;refine⟨⟨y.u,a4,y.n,c4⟩,rfl,rfl,?_,Zas bv.o (Nat.le_succ _) _ _⟩;exact fun _=>Col.owns (bn.o.stay (Ze4 ba.o (Zfi _ _ _ _)) (by decide)) ((bn.o.stay (Ze4 ba.o (Zfi _ _ _ _)) (by decide)).fsAt bt.o (by rw [bs.o];have:=bl.o;omega))
    · rw [if_pos (by simpa using ar)];simp only;go_enter func70,ntmps70;go_wp2_with fail;refine(ap.o _ HA.o).mono ?_;rintro e w1 ⟨rfl,ab⟩;have aj:=Zh (Zac HA.o ab);have ae:=Zh (ay.o.keep ab);have aw:=Zh (Za1 ae.o zeroU none 0 0);have ad:=(ab.block w.heap.size (Array.getElem?_eq_some_iff.1 ak.o).1).trans ak.o;(have r0:w1.cell? ⟨w.heap.size,0,none⟩=some (.int .i64 ((k:Int)+1)):=by rw [cell_of_row _ _ _ _ _ _ ad];rfl);(have r1:w1.cell? ⟨w.heap.size,1,none⟩=some (.int .i64 m):=by rw [cell_of_row _ _ _ _ _ _ ad];rfl);clear ab ad;simp only [chk];go_wp2_with fail;refine(aq.o _ aj.o).mono ?_;rintro e w2 ⟨rfl,ac⟩;have ao:=Zh (Zac aj.o ac);have al:=Zh (ae.o.keep ac);have an:=Zh (Za1 al.o zeroU none 0 0);have s0:=(ac.cell (p:=⟨w.heap.size,0,none⟩) (World.block_lt_of_cell? _ _ r0)).trans r0;have s1:=(ac.cell (p:=⟨w.heap.size,1,none⟩) (World.block_lt_of_cell? _ _ r1)).trans r1;clear ac r0 r1;obtain⟨b1,off,rfl,af⟩:=bk.o;have bb:=Zh (Zbm b1 (off+k*12) y w2 (af.keep ao.o (Nat.le_refl _)));obtain⟨W3,ah,aa,ag⟩:=ZdV w2 y;have bc:=Zh ah;have ax:=Zh (Zac ao.o ag);have az:=Zh (al.o.keep ag);have av:=Zh (ZbV _ y.u (.slice y.a y.n y.c) ⟨_,_,_,rfl⟩ W3 aa);have y1:=aa.c1;have u0:=(ag.cell (p:=⟨w.heap.size,0,none⟩) (World.block_lt_of_cell? _ _ s0)).trans s0;have u1:=(ag.cell (p:=⟨w.heap.size,1,none⟩) (World.block_lt_of_cell? _ _ s1)).trans s1;have ai:y.u.val (.slice y.a y.n y.c)=y.val:=rfl;rw [ai] at av;clear af ah aa ag ai;have bi:(y.u.no == m)=false:=beq_eq_false_iff_ne.2 ar;have be:=Zh (Za1 az.o zeroU none 0 0);clear ar;go_wp2_with (first | refine Zah _ rfl 65 (.tmp 22) rfl (.pointer (some ⟨b1,off+k*12,none⟩)) y.val rfl bb.o ?_ | refine Zad _ rfl rfl 65 (.tmp 6) (.tmp 23) rfl (.pointer (some ⟨w2.heap.size,0,none⟩)) y.val rfl rfl W3 bc.o ?_ | refine Zad _ rfl rfl 65 (.tmp 4) (.tmp 29) rfl (.pointer (some ⟨w.heap.size+1,0,none⟩)) (zeroU.val (.slice none 0 0)) rfl rfl _ be.o ?_);refine ZcQ rfl az.o zeroU (.slice none 0 0) (.bool false) ⟨_,_,_,rfl⟩ (by rfl) (by rfl) (by rfl) ?_;exact⟨Ux.zero,rfl,rfl,(fun _=>Col.zero _ _),Zas ax.o (Nat.le_succ _) _ _⟩
end Go.Proofs.YtiecfcjlhldhdaaGreat
