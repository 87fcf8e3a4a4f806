/-
  Lemmas.
-/
import Derived.Test.YtiecfcjlhldhdaaGreatKoaj
import Derived.Test.YtiecfcjlhldhdaaGreatKoaf
import Derived.Test.YtiecfcjlhldhdaaGreatKoag
import Derived.Test.YtiecfcjlhldhdaaGreatKoae
import Derived.Shelf.SortM.Plain
import Derived.Shelf.SortM.SortNone
import Derived.Shelf.SlicesE.Compact
import Derived.Test.YtiecfcjlhldhdaaGreatRows
namespace Go.Proofs.YtiecfcjlhldhdaaGreat
open Go.RowKit Go.Proofs.Tryz
set_option linter.unusedVariables false
set_option linter.unusedSimpArgs false
set_option maxRecDepth 100000
set_option maxHeartbeats 4000000
variable {l:List Un}{w w' w0 W:World}{s:Sl}{u:Un}{i g p n cap off:Nat}{v:Vw}{t:List Int}{c:Value}{e:TypeId}{a:Option Addr}{r:Rw}
open Go.ChangeShapes Go.WideShapes Go.ChangeAt Go.RowKit
section
variable {H : Type} {enc : TypeId × Value → H} {w : World} {base : Nat} {spare : Nat → Bool} {held : Bool}
theorem Zlf {k:Nat}{c0 c1 c2 c3 c4 c5 c6 c7 c8 c9 c10 c11:Value}{y:DataW H × List MemPlace}(hf:DataW.trod enc prog w base spare held k 65 [c0,c1,c2,c3,c4,c5,c6,c7,c8,c9,c10,c11]=some y) :
    ∃x:Ux,[c0,c1,c2,c3,c4,c5,c6,c7,c8,c9,c10,c11]=x.cells∧Fs w x.a x.n x.c x.u.row.xs∧x.u.fits:=by
  (have hR:prog.cellsOf 39=6:=by kernel_rfl);(have h4:prog.cellsOf 3=1:=by kernel_rfl);obtain⟨xs,n,_,_,_,ac,aa⟩:=DataW.trod_struct underlying65 hf
  match xs,ac with
  | [y0,y1,y2,y3,y4,y5,y6],_ =>
   (have t0:DataW.trod enc prog w base spare held n 3 [c0]=some y0:=by simpa [Value.cells,h4] using aa 0 _ rfl);(have t1:DataW.trod enc prog w base spare held n 3 [c1]=some y1:=by simpa [Value.cells,h4] using aa 1 _ rfl);(have t2:DataW.trod enc prog w base spare held n 3 [c2]=some y2:=by simpa [Value.cells,h4] using aa 2 _ rfl);(have t3:DataW.trod enc prog w base spare held n 3 [c3]=some y3:=by simpa [Value.cells,h4] using aa 3 _ rfl);(have t4:DataW.trod enc prog w base spare held n 3 [c4]=some y4:=by simpa [Value.cells,h4] using aa 4 _ rfl);(have t5:DataW.trod enc prog w base spare held n 3 [c5]=some y5:=by simpa [Value.cells,h4] using aa 5 _ rfl);(have t6:DataW.trod enc prog w base spare held n 39 [c6,c7,c8,c9,c10,c11]=some y6:=by simpa [Value.cells,hR] using aa 6 _ rfl);obtain⟨k0,e0,_,w0⟩:=DataW.trod_int underlying3 t0;obtain⟨k1,e1,_,w1⟩:=DataW.trod_int underlying3 t1;obtain⟨k2,e2,_,w2⟩:=DataW.trod_int underlying3 t2;obtain⟨k3,e3,_,w3⟩:=DataW.trod_int underlying3 t3;obtain⟨k4,e4,_,w4⟩:=DataW.trod_int underlying3 t4;obtain⟨k5,e5,_,w5⟩:=DataW.trod_int underlying3 t5;obtain⟨R,a,len,cap,e6,ad,ab⟩:=Zm8 t6;simp only [List.cons.injEq,and_true] at e0 e1 e2 e3 e4 e5 e6;obtain⟨rfl,rfl,rfl,rfl,rfl,rfl⟩:=e6;subst e0 e1 e2 e3 e4 e5;exact⟨⟨⟨k0,k1,k2,k3,k4,k5,R⟩,a,len,cap⟩,rfl,ad,⟨w0,w1,w2,w3,w4,w5,ab⟩⟩
theorem ZkI {len:Nat}{y:DataW H × List MemPlace}(h:DataW.trod enc prog w base spare held n 25 [.slice a len cap]=some y) :
    ∃l,Us w a len l∧len≤9223372036854775807:=by
  (have hC:prog.cellsOf 65=12:=by kernel_rfl);rcases Go.Deep.open_slice underlying25 h with ⟨ad,_⟩ | ⟨x,l,c,m,k,D,Pl,ad,hb,hl,hm,ah,_,hx⟩
  · simp only [List.cons.injEq,Value.slice.injEq,and_true] at ad;obtain⟨rfl,rfl,rfl⟩:=ad;exact⟨[],⟨rfl,(fun j hj=>absurd hj (Nat.not_lt_zero _)),(fun x hx=>by cases hx),fun x hx=>by cases hx⟩,by omega⟩
  · simp only [List.cons.injEq,Value.slice.injEq,and_true] at ad;obtain⟨rfl,rfl,rfl⟩:=ad;(have aj:len≤m:=by rw [ah];split <;> omega);have ai:0<len→x.spot=none:=by
     intro h0;obtain⟨cs,h1,_⟩:=hx 0 (by omega);rw [hC] at h1;obtain⟨_,ac,hc⟩:=World.cells?_some h1
     match cs,ac with
     | [c0,c1,c2,c3,c4,c5,c6,c7,c8,c9,c10,c11],_ =>
      have e0:=hc 0 (by omega);have:=World.cell?_spot (by simpa using e0);simpa [Addr.add] using this
    have each:∀i,i<len→∃t:Ux,∃b off,x=⟨b,off,none⟩∧UnAt w b (off+i*12) t∧Fs w t.a t.n t.c t.u.row.xs∧t.u.fits:=by
     intro i hi;obtain⟨cs,g1,g2⟩:=hx i (by omega);rw [hC] at g1;obtain⟨_,ac,hc⟩:=World.cells?_some g1
     match cs,ac with
     | [c0,c1,c2,c3,c4,c5,c6,c7,c8,c9,c10,c11],_ =>
      obtain⟨t,ht,ae,ab⟩:=Zlf g2;have aa:x.spot=none:=ai (by omega);obtain⟨b,off,spot⟩:=x;simp only at aa;subst aa;refine⟨t,b,off,rfl,UnAt.of fun q hq=>?_,ae,ab⟩;have e:=hc q (by omega);simp only [Addr.add_lit] at e;rw [← ht];simpa using e
    obtain⟨f,hf⟩:=@Go.Deep.choose_lt Ux ⟨Ux.zero⟩ len _ each;(have af:∀j,j<len→((List.range len).map f).getD j Ux.zero=f j:=fun j hj=>by simp [List.getD,hj]);refine⟨(List.range len).map f,⟨by simp,fun j hj=>?_,fun t ht=>?_,fun t ht=>?_⟩,by unfold maxLen at hm;omega⟩
    · obtain⟨b,off,rfl,ag,_⟩:=hf j hj;refine⟨b,off,rfl,?_⟩;rw [af j hj];exact ag
    · obtain⟨j,hj,rfl⟩:=List.mem_map.1 ht;obtain⟨_,_,_,_,ae,_⟩:=hf j (by simpa using hj);exact ae
    · obtain⟨j,hj,rfl⟩:=List.mem_map.1 ht;obtain⟨_,_,_,_,_,ab⟩:=hf j (by simpa using hj);exact ab
end
theorem Own.setC {z:Nat}{vs:List Value}(h:Own e z w s vs)(ha:s.a=some ⟨g,off,none⟩)(j:Nat)(u:Value):Own e z (w.setCell ⟨g,off+j,none⟩ u) s (vs.set j u):=by
 refine⟨by rw [List.length_set];exact h.1,?_⟩;rcases h.2 with ⟨h0,_⟩ | ⟨g',off',cur,ha',hg,ac,ab,aa,ht⟩
 · rw [h0] at ha;cases ha
 · rw [ha] at ha';simp only [Option.some.injEq,Addr.mk.injEq,and_true] at ha';obtain⟨rfl,rfl⟩:=ha';refine .inr ⟨g,off,_,ha,heap_setCell_same w g (off+j) cur e u hg,by simpa using ac,ab,aa,?_⟩;rw [Array.toList_setIfInBounds,List.drop_set,if_neg (by omega),Nat.add_sub_cancel_left,List.take_set,ht]
def setAt (w:World) (g o:Nat) (x:Ux):World:=(((((((((((w.setCell ⟨g,o,none⟩ (.int .i64 x.u.tx)).setCell ⟨g,o+1,none⟩ (.int .i64 x.u.no)).setCell ⟨g,o+2,none⟩ (.int .i64 x.u.prev)).setCell ⟨g,o+3,none⟩ (.int .i64 x.u.kind)).setCell ⟨g,o+4,none⟩ (.int .i64 x.u.page)).setCell ⟨g,o+5,none⟩ (.int .i64 x.u.slot)).setCell ⟨g,o+6,none⟩ (.float .f64 x.u.row.key)).setCell ⟨g,o+7,none⟩ (.bool x.u.row.dead)).setCell ⟨g,o+8,none⟩ (.slice x.a x.n x.c)).setCell ⟨g,o+9,none⟩ (.int .i64 x.u.row.wr)).setCell ⟨g,o+10,none⟩ (.int .i64 x.u.row.cell)).setCell ⟨g,o+11,none⟩ (.int .i64 x.u.row.no)
theorem ZmK (w:World)(g o:Nat)(x:Ux):Frm (fun k=>k=g) w (setAt w g o x):=
 ((((((((((((Frm.refl (fun k=>k=g) w).setCell (p:=⟨g,o,none⟩) rfl _).setCell (p:=⟨g,o+1,none⟩) rfl _).setCell (p:=⟨g,o+2,none⟩) rfl _).setCell (p:=⟨g,o+3,none⟩) rfl _).setCell (p:=⟨g,o+4,none⟩) rfl _).setCell (p:=⟨g,o+5,none⟩) rfl _).setCell (p:=⟨g,o+6,none⟩) rfl _).setCell (p:=⟨g,o+7,none⟩) rfl _).setCell (p:=⟨g,o+8,none⟩) rfl _).setCell (p:=⟨g,o+9,none⟩) rfl _).setCell (p:=⟨g,o+10,none⟩) rfl _).setCell (p:=⟨g,o+11,none⟩) rfl _
def Zex (vs:List Value) (p:Nat) (x:Ux):List Value:=(((((((((((vs.set (p) (.int .i64 x.u.tx)).set (p+1) (.int .i64 x.u.no)).set (p+2) (.int .i64 x.u.prev)).set (p+3) (.int .i64 x.u.kind)).set (p+4) (.int .i64 x.u.page)).set (p+5) (.int .i64 x.u.slot)).set (p+6) (.float .f64 x.u.row.key)).set (p+7) (.bool x.u.row.dead)).set (p+8) (.slice x.a x.n x.c)).set (p+9) (.int .i64 x.u.row.wr)).set (p+10) (.int .i64 x.u.row.cell)).set (p+11) (.int .i64 x.u.row.no)
theorem ZbX (x:Ux)(l:List Ux):Zaq (x :: l)=x.cells ++ Zaq l:=rfl
theorem ZfH:∀(l:List Ux)(i:Nat)(x:Ux),i<l.length→Zaq (l.set i x)=Zex (Zaq l) (i*12) x
 | [],i,x,hi=>by simp at hi
 | y :: l,0,x,_=>by
  rw [List.set_cons_zero,ZbX,ZbX]
  simp [Zex,Ux.cells]
 | y :: l,i+1,x,hi=>by
  rw [List.set_cons_succ,ZbX,ZbX,ZfH l i x (by simpa using hi)]
  have hy:y.cells.length=12:=rfl
  have e:∀(vs:List Value) (p:Nat) (u:Value),(y.cells ++ vs).set (12+p) u=y.cells ++ vs.set p u:=fun vs p u=>by
   rw [List.set_append_right _ _ (by omega),hy,Nat.add_sub_cancel_left]
  unfold Zex
  rw [show (i+1)*12=12+i*12 by omega]
  simp only [Nat.add_assoc,e]
theorem Own.frozenAt {z:Nat}{vs:List Value}(h:Own e z w s vs)(ha:s.a=some ⟨g,off,none⟩)(p:Nat):w.frozen? ⟨g,p,none⟩=false:=by
 rcases h.2 with ⟨h0,_⟩ | ⟨g',off',cur,ha',hg,_⟩
 · rw [h0] at ha;cases ha
 · rw [ha] at ha';simp only [Option.some.injEq,Addr.mk.injEq,and_true] at ha';obtain⟨rfl,rfl⟩:=ha';exact frozen_of_row w g _ _ e hg
theorem Ud.set {l:List Ux}(h:Ud w0 w s l)(ha:s.a=some ⟨g,off,none⟩)(i:Nat)(hi:i<l.length)(x:Ux)(hx:Col w0 w x)(hf:x.u.fits) :
    ∃W,(Instr.storeAt 65 (.pointer (some ⟨g,off+i*12,none⟩)) x.val).run prog w=.ok () W∧Ud w0 W s (l.set i x)∧Frm (fun k=>k=g) w W:=by
  have ah:∀(w:World) (a:Addr) (m:Mode) (x:Nat),(store a (.float .f64 x) m).run prog w=stored prog w a (.float .f64 x) m:=fun w a m x=>run_store prog w a _ m rfl;have aa:=h.own.unAt ha i hi;have c0:=aa.c0;have c1:=aa.c1;have c2:=aa.c2;have c3:=aa.c3;have c4:=aa.c4;have c5:=aa.c5;have c6:=aa.c6;have c7:=aa.c7;have c8:=aa.c8;have c9:=aa.c9;have c10:=aa.c10;have c11:=aa.c11;have f0:=h.own.frozenAt ha;(have hB:s.blk=some g:=by rw [Sl.blk,ha];rfl);have ae:=ZmK w g (off+i*12) x;have ad:∀y,Col w0 w y→Col w0 (setAt w g (off+i*12) x) y:=by
   intro y hy;have ab:∀b o',y.a=some ⟨b,o',none⟩→0<y.n→(setAt w g (off+i*12) x).heap[b]? = w.heap[b]?:=by
    intro b o' ha' hn;obtain⟨b',o'',ha'',hc,_,_⟩:=hy.fs.at 0 hn;rw [ha''] at ha';cases ha';refine ae.block b (World.block_lt_of_cell? _ _ hc) ?_;rintro rfl;rcases hy.home b o' ha'' hn with k | ⟨C,fr,k⟩
    · have:=h.new b hB;omega
    · obtain⟨cur,ac⟩:=h.own.kind hB;rw [k] at ac;simp only [Option.some.injEq,Obj.cells.injEq] at ac;exact absurd ac.2.1 (by decide)
   refine⟨hy.fs.sameU ab,fun b o' ha' hn=>?_⟩;rcases hy.home b o' ha' hn with k | ⟨C,fr,k⟩
   · exact .inl k
   · exact .inr ⟨C,fr,(ab b o' ha' hn).trans k⟩
  refine⟨setAt w g (off+i*12) x,by simp [go_sem,Instr.storeAt,ah,stored,c0,c1,c2,c3,c4,c5,c6,c7,c8,c9,c10,c11,f0,Ux.val,Un.val,setAt],⟨?_,h.new,h.below.trans (ae.below h.below.size (fun k hk=>by rw [hk];exact h.new g hB)),fun y hy=>?_,fun y hy=>?_⟩,ae⟩
  · rw [ZfH l i x hi];unfold Zex setAt;have h0:=h.own.setC ha (i*12) (.int .i64 x.u.tx);have h1:=h0.setC ha (i*12+1) (.int .i64 x.u.no);have h2:=h1.setC ha (i*12+2) (.int .i64 x.u.prev);have h3:=h2.setC ha (i*12+3) (.int .i64 x.u.kind);have h4:=h3.setC ha (i*12+4) (.int .i64 x.u.page);have h5:=h4.setC ha (i*12+5) (.int .i64 x.u.slot);have h6:=h5.setC ha (i*12+6) (.float .f64 x.u.row.key);have h7:=h6.setC ha (i*12+7) (.bool x.u.row.dead);have h8:=h7.setC ha (i*12+8) (.slice x.a x.n x.c);have h9:=h8.setC ha (i*12+9) (.int .i64 x.u.row.wr);have ag:=h9.setC ha (i*12+10) (.int .i64 x.u.row.cell);have af:=ag.setC ha (i*12+11) (.int .i64 x.u.row.no);simp only [← Nat.add_assoc] at af;exact af
  · rcases List.mem_or_eq_of_mem_set hy with hy | rfl
    · exact ad y (h.cols y hy)
    · exact ad y hx
  · rcases List.mem_or_eq_of_mem_set hy with hy | rfl
    · exact h.fits y hy
    · exact hf
theorem ZpT (l:List Ux)(k:Nat)(x:Ux):uns (l.set k x)=(uns l).set k x.u:=by simp [uns,List.map_set]
theorem Us.src {l:List Ux}(h:Us w a n l)(hn:0<n):Src prog 12 25 (.slice a n cap) n (Zaq l) w:=by
 obtain⟨b,off,rfl,_⟩:=h.at' 0 hn;refine Src.ofSlice _ underlying25 ⟨b,off,none⟩ n cap (Zaq l) (by rw [ZcC,h.len]) (fun j u hj=>?_) (ZfG _);have ad:j<n*12:=by
  have:=(List.getElem?_eq_some_iff.1 hj).1;rwa [ZcC,h.len] at this
 obtain⟨b',off',ac,aa⟩:=h.at' (j / 12) (by omega);simp only [Option.some.injEq,Addr.mk.injEq,and_true] at ac;obtain⟨rfl,rfl⟩:=ac;have hg:=ZdJ l (j / 12) (j % 12) (by rw [h.len];omega) (Nat.mod_lt _ (by decide));rw [show j / 12*12+j % 12=j by omega,hj] at hg;rw [Addr.add_lit,show off+j=off+j / 12*12+j % 12 by omega];have ht:j % 12<12:=Nat.mod_lt _ (by decide);generalize j % 12=t at *;generalize off+j / 12*12=o at *;(have ab:t=0∨t=1∨t=2∨t=3∨t=4∨t=5∨t=6∨t=7∨t=8∨t=9∨t=10∨t=11:=by omega);rcases ab with rfl | rfl | rfl | rfl | rfl | rfl | rfl | rfl | rfl | rfl | rfl | rfl
 · rw [hg];exact aa.c0
 · rw [hg];exact aa.c1
 · rw [hg];exact aa.c2
 · rw [hg];exact aa.c3
 · rw [hg];exact aa.c4
 · rw [hg];exact aa.c5
 · rw [hg];exact aa.c6
 · rw [hg];exact aa.c7
 · rw [hg];exact aa.c8
 · rw [hg];exact aa.c9
 · rw [hg];exact aa.c10
 · rw [hg];exact aa.c11
theorem Ud.copy {w1:World}{l:List Ux}(h:Us w a n l)(hb:Bl w w1)(hn:0<n)(hl:n≤1000) :
    ∃s' W,(∀ty,(Builtin.append_ #[25,25] ty #[.slice (some ⟨w1.heap.size,0,none⟩) 0 0,.slice a n cap]).run prog (w1.alloc (.cells #[] 65))=.ok s'.val W)∧Ud w W s' l∧Bl w1 W∧(∀k,s'.blk=some k→w1.heap.size≤k):=by
  have h0:=Ud.new0 w w1 hb;have hB:=Zab w1 (.cells #[] 65);have hu:=h.keep h0.below (Nat.le_refl _);obtain⟨s',W,ab,ho,af,ad,ae⟩:=Za7 underlying25 ZoG rfl (by decide) _ ⟨some ⟨w1.heap.size,0,none⟩,0,0⟩ (Zaq []) h0.own (ZfG []) _ n (Zaq l) (hu.src (cap:=cap) hn) (by show 0+n≤_;omega) 0;have ac:Bl w W:=h0.below.trans (ad.below h0.below.size (fun k hk=>h0.new k hk));have aa:∀k,s'.blk=some k→w1.heap.size≤k:=by
   intro k e;rcases ae with e' | ⟨e',_⟩
   · rw [e'] at e;have e2:some w1.heap.size=some k:=e;cases e2;exact Nat.le_refl _
   · rw [e'] at e;cases e;exact hB.size
  refine⟨s',W,fun ty=>ab,⟨ho,fun k e=>Nat.le_trans hb.size (aa k e),ac,fun x hx=>Col.old (h.cols x hx) ac,h.fits⟩,hB.trans (ad.below hB.size (fun k hk=>?_)),aa⟩;have e2:some w1.heap.size=some k:=hk;cases e2;exact Nat.le_refl _
def Un.emp (u:Un):Bool:=u.same zeroU
theorem Un.emp_iff (u:Un):u.emp=true↔u=zeroU:=Un.same_iff _ _
theorem Zfw:zeroU.emp=true:=(Un.emp_iff _).2 rfl
theorem Zne:zeroU.may=false:=by decide
theorem Un.may_emp (h:u.may=true):u.emp=false:=by
 cases he:u.emp with
 | false=>rfl
 | true=>rw [(Un.emp_iff u).1 he,Zne] at h;cases h
def okU (u:Un):Bool:=u.emp || u.may
def nosU (l:List Un):List Int:=(l.filter (fun u=>!u.emp)).map Un.no
def lenU (n:Nat):Bool:=decide (6≤n) && decide (n≤378) && decide (n % 6=0)
def MayU (l:List Un):Bool:=lenU l.length && (l.all okU && decide (nosU l).Nodup)
theorem ZgB (n:Nat):lenU n=true↔6≤n∧n≤378∧n % 6=0:=by
 simp [lenU];omega
theorem ZkB (l:List Un):(nosU l).Nodup↔∀i j,i<j→j<l.length→(l.getD i zeroU).emp=false→(l.getD j zeroU).emp=false→(l.getD i zeroU).no≠(l.getD j zeroU).no:=by
 unfold nosU List.Nodup;rw [List.pairwise_map,List.pairwise_filter,List.pairwise_iff_getElem];constructor
 · intro h i j aa hj h1 h2;(have hi:i<l.length:=by omega);(have e1:l.getD i zeroU=l[i]:=by simp [List.getD,hi]);(have e2:l.getD j zeroU=l[j]:=by simp [List.getD,hj]);rw [e1] at h1 ⊢;rw [e2] at h2 ⊢;exact h i j hi hj aa (by rw [h1];rfl) (by rw [h2];rfl)
 · intro h i j hi hj aa h1 h2;(have e1:l.getD i zeroU=l[i]:=by simp [List.getD,hi]);(have e2:l.getD j zeroU=l[j]:=by simp [List.getD,hj]);have:=h i j aa hj (by rw [e1];simpa using h1) (by rw [e2];simpa using h2);rwa [e1,e2] at this
theorem unget (hi:i<l.length):l.getD i zeroU=l[i]:=by simp [List.getD,hi]
structure MayP (l:List Un):Prop where
  lo:6≤l.length
  hi:l.length≤378
  six:l.length % 6=0
  ok:∀i,i<l.length→okU (l.getD i zeroU)=true
  one:∀i j,i<j→j<l.length→(l.getD i zeroU).emp=false→(l.getD j zeroU).emp=false→(l.getD i zeroU).no≠(l.getD j zeroU).no
theorem Zcd (l:List Un):MayU l=true↔MayP l:=by
 unfold MayU;simp only [Bool.and_eq_true,decide_eq_true_eq,ZgB,List.all_eq_true,ZkB];constructor
 · rintro ⟨⟨h1,h2,h3⟩,h4,h5⟩;exact⟨h1,h2,h3,fun i hi=>by rw [unget hi];exact h4 _ (List.getElem_mem hi),h5⟩
 · intro h;refine⟨⟨h.lo,h.hi,h.six⟩,fun u hu=>?_,h.one⟩;obtain⟨i,hi,rfl⟩:=List.getElem_of_mem hu;rw [← unget hi];exact h.ok i hi
theorem Un.may_no (h:u.may=true):1≤u.no:=(Un.parts h).no.1
def SeenU (l:List Un) (n:Nat):Prop:=∀i,i<n→(l.getD i zeroU).emp=true∨((l.getD i zeroU).may=true∧∀k,k<i→(l.getD k zeroU).no≠(l.getD i zeroU).no)
theorem Zqj (h:u.emp=true):u.no=0:=by rw [(Un.emp_iff u).1 h];rfl
theorem MayP.seen (h:MayP l):SeenU l l.length:=by
 intro i hi;cases he:(l.getD i zeroU).emp with
 | true=>exact .inl rfl
 | false =>
  have h1:=h.ok i hi;rw [okU,he,Bool.false_or] at h1;refine .inr ⟨h1,fun k hk=>?_⟩;cases hk':(l.getD k zeroU).emp with
  | true=>rw [Zqj hk'];have:=Un.may_no h1;omega
  | false=>exact h.one k i hk hi hk' he
theorem Zos (h:SeenU l l.length):MayU l=lenU l.length:=by
 cases hl:lenU l.length with
 | false=>unfold MayU;rw [hl];rfl
 | true =>
  rw [Zcd];obtain⟨h1,h2,h3⟩:=(ZgB _).1 hl;refine⟨h1,h2,h3,fun i hi=>?_,fun i j aa hj he he'=>?_⟩
  · rcases h i hi with k | k
    · rw [okU,k];rfl
    · rw [okU,k.1];simp
  · rcases h j hj with k | k
    · rw [k] at he';cases he'
    · exact k.2 i aa
theorem ZhW (hi:i<l.length)(he:(l.getD i zeroU).emp=false)(h:(l.getD i zeroU).may=false∨∃k,k<i∧(l.getD k zeroU).no=(l.getD i zeroU).no):MayU l=false:=by
 cases hm:MayU l with
 | false=>rfl
 | true =>
  rcases ((Zcd l).1 hm).seen i hi with k | k
  · rw [k] at he;cases he
  · rcases h with h | ⟨j,hj,h⟩
    · rw [k.1] at h;cases h
    · exact absurd h (k.2 j hj)
theorem ZqB (h:lenU l.length=false):MayU l=false:=by unfold MayU;rw [h];rfl
theorem ZqP (hi:i<l.length)(h:okU (l.getD i zeroU)=false):MayU l=false:=by
 cases hm:MayU l with
 | false=>rfl
 | true=>rw [((Zcd l).1 hm).ok i hi] at h;cases h
theorem Zpx (hl:lenU l.length=true)(h:∀i,i<l.length→okU (l.getD i zeroU)=true):MayU l=decide (nosU l).Nodup:=by
 unfold MayU;rw [hl,Bool.true_and];have:l.all okU=true:=List.all_eq_true.2 (fun u hu=>by
  obtain⟨i,hi,rfl⟩:=List.getElem_of_mem hu;rw [← unget hi];exact h i hi)
 rw [this,Bool.true_and]
theorem Zmh {k:Nat}(hk:k<l.length):nosU (l.take (k+1))=nosU (l.take k) ++ (if (l.getD k zeroU).emp then [] else [(l.getD k zeroU).no]):=by
 rw [List.take_succ_eq_append_getElem hk,unget hk];unfold nosU;rw [List.filter_append,List.map_append];congr 1;cases h:(l[k]).emp <;> simp [h]
theorem Zj1 (l:List Un):(nosU l).length≤l.length:=by
 unfold nosU;rw [List.length_map];exact List.length_filter_le _ _
def atU (l:List Un) (c:Int):Un:=if 1≤c∧c≤l.length then l.getD (c-1).toNat zeroU else zeroU
theorem ZgU {c:Int}(h:1≤c∧c≤l.length):atU l c=l.getD (c-1).toNat zeroU:=if_pos h
theorem Zgq {c:Int}(h:¬(1≤c∧c≤l.length)):atU l c=zeroU:=if_neg h
theorem Zlo (l:List Un)(hi:i<l.length):atU l ((i:Int)+1)=l.getD i zeroU:=by
 rw [ZgU (by omega)];congr 1;omega
theorem Zgr {c:Int}(h:(atU l c).emp=false):1≤c∧c≤l.length:=by
 by_cases k:1≤c∧c≤l.length
 · exact k
 · rw [Zgq k,Zfw] at h;cases h
def freeU (l:List Un):Int:=match l.findIdx? Un.emp with
  | none=>0
  | some i=>(i:Int)+1
def hasNo (l:List Un) (n:Int):Bool:=(l.findIdx? (fun y=>y.no == n)).isSome
structure PutS where
  l:List Un
  n:Int
  e:Int
def putU (l:List Un) (u:Un):PutS:=
  if u.may=false then ⟨l,0,1⟩ else if hasNo l u.no=true then ⟨l,0,1⟩ else match l.findIdx? Un.emp with
    | none=>⟨l,0,9⟩
    | some i=>⟨l.set i u,(i:Int)+1,0⟩
def getU (l:List Un) (c n:Int):Un × Bool:=if (atU l c).emp=true∨(atU l c).no≠n then (zeroU,false) else (atU l c,true)
theorem Zdq {p:Un→Bool}(h:l.findIdx? p=some i):i<l.length∧p (l.getD i zeroU)=true∧∀j,j<i→p (l.getD j zeroU)=false:=by
 obtain⟨hi,h1,h2⟩:=List.findIdx?_eq_some_iff_getElem.1 h;refine⟨hi,by rw [unget hi];exact h1,fun j hj=>?_⟩;have:=h2 j hj;rw [unget (by omega)];simpa using this
theorem ZlK {p:Un→Bool}(h:l.findIdx? p=none):∀j,j<l.length→p (l.getD j zeroU)=false:=by
 intro j hj;rw [unget hj];exact List.findIdx?_eq_none_iff.1 h _ (List.getElem_mem hj)
theorem ZlJ {p:Un→Bool}(hi:i<l.length)(h1:p (l.getD i zeroU)=true)(h2:∀j,j<i→p (l.getD j zeroU)=false):l.findIdx? p=some i:=by
 refine List.findIdx?_eq_some_iff_getElem.2 ⟨hi,by rw [unget hi] at h1;exact h1,fun j hj=>?_⟩;have:=h2 j hj;rw [unget (by omega)] at this;simpa using this
theorem Ziu {p:Un→Bool}(h:∀j,j<l.length→p (l.getD j zeroU)=false):l.findIdx? p=none:=by
 refine List.findIdx?_eq_none_iff.2 (fun x hx=>?_);obtain⟨j,hj,rfl⟩:=List.getElem_of_mem hx;have:=h j hj;rw [unget hj] at this;exact this
theorem ZdY (l:List Un)(i j:Nat)(u:Un):(l.set i u).getD j zeroU=if i=j∧j<l.length then u else l.getD j zeroU:=by
 by_cases h:i=j
 · subst h;by_cases k:i<l.length
   · simp [List.getD,k]
   · simp [List.getD,k]
 · simp [List.getD,h]
theorem Zg5 {n:Int}(h:hasNo l n=false){j:Nat}(hj:j<l.length):(l.getD j zeroU).no≠n:=by
 unfold hasNo at h;cases hf:l.findIdx? (fun y=>y.no == n) with
 | none=>have:=ZlK hf j hj;simpa using this
 | some i=>rw [hf] at h;cases h
theorem ZpA (h:MayP l)(hu:u.may=true)(hn:∀j,j<l.length→(l.getD j zeroU).no≠u.no):MayP (l.set i u):=by
 refine⟨by rw [List.length_set];exact h.lo,by rw [List.length_set];exact h.hi,by rw [List.length_set];exact h.six,fun j hj=>?_,fun j k aa hk h1 h2=>?_⟩
 · rw [List.length_set] at hj;rw [ZdY];split
   · rw [okU,hu];simp
   · exact h.ok j hj
 · rw [List.length_set] at hk;rw [ZdY] at h1 h2 ⊢;rw [ZdY];by_cases e1:i=j∧j<l.length
   · rw [if_pos e1];by_cases e2:i=k∧k<l.length
     · omega
     · rw [if_neg e2];exact fun e=>hn k hk e.symm
   · rw [if_neg e1] at h1 ⊢;by_cases e2:i=k∧k<l.length
     · rw [if_pos e2];exact hn j (by omega)
     · rw [if_neg e2] at h2 ⊢;exact h.one j k aa hk h1 h2
theorem Zog (h:MayP l)(u:Un):MayP (putU l u).l:=by
 unfold putU;split
 · exact h
 · rename_i hu;split
   · exact h
   · rename_i hn;split
     · exact h
     · exact ZpA h (by simpa using hu) (fun j hj=>Zg5 (by simpa using hn) hj)
theorem Zp9 (h:(putU l u).e=0):∃i,i<l.length∧l.findIdx? Un.emp=some i∧u.may=true∧hasNo l u.no=false∧putU l u=⟨l.set i u,(i:Int)+1,0⟩:=by
 unfold putU at h;split at h
 · cases h
 · rename_i hu;split at h
   · cases h
   · rename_i hn;cases hf:l.findIdx? Un.emp with
     | none=>rw [hf] at h;cases h
     | some i =>
      refine⟨i,(Zdq hf).1,rfl,by simpa using hu,by simpa using hn,?_⟩;unfold putU;rw [if_neg hu,if_neg hn,hf]
structure Bse where
  t:Tbl
  u:List Un
  l:List Lf
structure MayBs (b:Bse):Prop where
  pg:∀i,i<b.u.length→(b.u.getD i zeroU).page<(b.l.length:Int)
  t:b.t.May
  u:MayU b.u=true
  l:MayH b.l
def nxB (u:List Un) (r:Rw):Option (Option Rw):=
  if (getU u r.cell r.no).2=true then (if (getU u r.cell r.no).1.kind=1 then some none else some (some (getU u r.cell r.no).1.row)) else none
def vnB (u:List Un) (v:Vw):Vn Rw:=⟨fun r=>seesV v r.wr,Rw.dead,Rw.wr,nxB u⟩
def readB (u:List Un) (l:List Lf) (v:Vw) (key:Nat):Option Rw × List Int × Int:=
  match findH l key with
  | none=>(none,[],0)
  | some h=>(vnB u v).look 400 h.r
def ZrZ (u:List Un) (l:List Lf) (v:Vw) (lo hi:Nat):List Rw × List Int × Int:=(vnB u v).scan (Zra lo hi (allH l))
theorem ZfR {u:List Un}{l:List Lf}{key:Nat}(h:findH l key=none):readB u l v key=(none,[],0):=by unfold readB;rw [h]
theorem ZbK {u:List Un}{l:List Lf}{key:Nat}{g:Hr}(h:findH l key=some g):readB u l v key=(vnB u v).look 400 g.r:=by unfold readB;rw [h]
theorem ZgI {u:List Un}(h:(getU u r.cell r.no).2=false):nxB u r=none:=by unfold nxB;rw [h];rfl
theorem Zi7 {u:List Un}(h:(getU u r.cell r.no).2=true)(h1:(getU u r.cell r.no).1.kind=1):nxB u r=some none:=by unfold nxB;rw [if_pos h,if_pos h1]
theorem Zj4 {u:List Un}(h:(getU u r.cell r.no).2=true)(h1:¬(getU u r.cell r.no).1.kind=1):nxB u r=some (some (getU u r.cell r.no).1.row):=by unfold nxB;rw [if_pos h,if_neg h1]
def wrB (b:Bse) (tx:Int) (r:Rw):Rw:={ r with wr:=tx,cell:=freeU b.u,no:=b.t.no+500 }
def unI (tx no:Int):Un:=⟨tx,no,0,1,0,0,zeroR⟩
def unW (tx no:Int) (was:Rw):Un:=⟨tx,no,0,2,0,0,was⟩
structure Wr where
  l:List Lf
  c:Int
  n:Un
def Zas (b:Bse) (tx:Int) (r:Rw):Wr:=
  match findH b.l r.key with
  | some g=>⟨(layH b.l ((g.i:Int),(g.k:Int)) (wrB b tx r) false []).l,(layH b.l ((g.i:Int),(g.k:Int)) (wrB b tx r) false []).e,unW tx (b.t.no+500) g.r⟩
  | none=>⟨(putH b.l (wrB b tx r) []).l,(putH b.l (wrB b tx r) []).e,unI tx (b.t.no+500)⟩
def stopB (b:Bse):Prop:=freeU b.u=0∨1000000<b.t.no
def failB (b:Bse) (tx:Int) (r:Rw):Prop:=(Zas b tx r).c≠0∨(putU b.u (Zas b tx r).n).e≠0
open Classical in
noncomputable def Zeg (b:Bse) (tx:Int) (r:Rw):Bse:=if stopB b then b else if failB b tx r then b else ⟨b.t,(putU b.u (Zas b tx r).n).l,(Zas b tx r).l⟩
structure Ownd (b:Bse) (tx:Int) (r:Rw) (x:Bse):Prop where
  may:MayBs x
  here:∃g,findH x.l r.key=some g∧g.r=wrB b tx r
  old:∀q,nxB b.u q≠none→nxB x.u q=nxB b.u q
  next:(findH b.l r.key=none∧nxB x.u (wrB b tx r)=some none)∨∃g,findH b.l r.key=some g∧nxB x.u (wrB b tx r)=some (some g.r)
theorem Zoh (h:(putU l u).e=0):∃i,i<l.length∧freeU l=(i:Int)+1∧(l.getD i zeroU).emp=true∧u.may=true∧(∀j,j<l.length→(l.getD j zeroU).no≠u.no)∧(putU l u).l=l.set i u:=by
 obtain⟨i,hi,hf,hm,hn,e⟩:=Zp9 h;refine⟨i,hi,?_,(Zdq hf).2.1,hm,fun j hj=>Zg5 hn hj,by rw [e]⟩;unfold freeU;rw [hf]
theorem ZnD (hi:i<l.length)(hm:u.may=true):getU (l.set i u) ((i:Int)+1) u.no=(u,true):=by
 have e:atU (l.set i u) ((i:Int)+1)=u:=by
  rw [Zlo _ (by rw [List.length_set];exact hi),ZdY,if_pos ⟨rfl,hi⟩]
 unfold getU;rw [e,if_neg];rintro (h | h)
 · rw [Un.may_emp hm] at h;cases h
 · exact h rfl
theorem ZnC (hi:i<l.length)(he:(l.getD i zeroU).emp=true)(u:Un){c n:Int}(h:(getU l c n).2=true):getU (l.set i u) c n=getU l c n:=by
 have h0:(atU l c).emp=false:=by
  unfold getU at h;split at h
  · cases h
  · rename_i hn;cases hh:(atU l c).emp with
    | false=>rfl
    | true=>exact absurd (.inl hh) hn
 have hc:=Zgr h0;have aa:i≠(c-1).toNat:=by
  intro e;rw [ZgU hc,← e,he] at h0;cases h0
 have e:atU (l.set i u) c=atU l c:=by
  rw [ZgU hc,ZgU (by rw [List.length_set];exact hc),ZdY,if_neg (fun k=>aa k.1)]
 unfold getU;rw [e]
theorem Zp1 (hi:i<l.length)(he:(l.getD i zeroU).emp=true)(u:Un){q:Rw}(h:nxB l q≠none):nxB (l.set i u) q=nxB l q:=by
 have h2:(getU l q.cell q.no).2=true:=by
  cases hh:(getU l q.cell q.no).2 with
  | true=>rfl
  | false=>exact absurd (ZgI hh) h
 unfold nxB;rw [ZnC hi he u h2]
def vwV (v:Vw) (s:Sl):Value:=.agg #[.int .i64 v.self,.int .i64 v.next,s.val]
def VwBlk (w:World) (p:Nat) (v:Vw) (s:Sl):Prop:=w.heap[p]? = some (Obj.cells #[.int .i64 v.self,.int .i64 v.next,s.val] 31 (0,0))
theorem VwBlk.c0 (k:VwBlk w p v s):w.cell? ⟨p,0,none⟩=some (.int .i64 v.self):=by unfold VwBlk at k;simp [World.cell?,k]
theorem VwBlk.c1 (k:VwBlk w p v s):w.cell? ⟨p,1,none⟩=some (.int .i64 v.next):=by unfold VwBlk at k;simp [World.cell?,k]
theorem VwBlk.c2 (k:VwBlk w p v s):w.cell? ⟨p,2,none⟩=some s.val:=by unfold VwBlk at k;simp [World.cell?,k]
theorem VwBlk.fz (k:VwBlk w p v s)(o:Nat):w.frozen? ⟨p,o,none⟩=false:=frozen_of_row w p _ _ 31 k
theorem VwBlk.lt (k:VwBlk w p v s):p<w.heap.size:=(Array.getElem?_eq_some_iff.1 k).1
theorem Zd9 (w:World)(v:Vw)(s:Sl):VwBlk (w.alloc (.cells #[.int .i64 v.self,.int .i64 v.next,s.val] 31)) w.heap.size v s:=heap_alloc_new w _
theorem VwBlk.keep (k:VwBlk w p v s)(hb:Bl w w'):VwBlk w' p v s:=(hb.block p k.lt).trans k
theorem VwBlk.frm {F:Nat→Prop}(k:VwBlk w p v s)(hf:Frm F w w')(hn:¬F p):VwBlk w' p v s:=(hf.block p k.lt hn).trans k
theorem Zmf (h:i<t.length):t.getD i 0∈t:=by simp [List.getD,h]
theorem Zin {x:Int}(h:∀j,j<t.length→t.getD j 0≠x):t.contains x=false:=by
 by_cases hx:x∈t
 · obtain⟨i,hi,e⟩:=List.mem_iff_getElem.1 hx;exact absurd (by simpa [List.getD,hi] using e) (h i hi)
 · simpa using hx
theorem Zhe {x:Int}(h:i<t.length)(e:t.getD i 0=x):t.contains x=true:=by
 rw [← e];simpa using Zmf h
structure Nq (w0 w:World) (s:Sl) (t:List Int):Prop where
  own:OwnN w s t
  home:∀k,s.blk=some k→w0.heap.size≤k
  below:Bl w0 w
theorem Nq.keep (h:Nq w0 w s t)(hb:Bl w w'):Nq w0 w' s t:=
 ⟨Own.frame h.own (fun k hk=>hb.block k (Own.lt h.own hk)),h.home,Zad h.below hb⟩
theorem Nq.gi (h:Nq w0 w s t)(hm:s.len≤1000000):Gi (fun k=>w0.heap.size≤k) w s t:=h.own.gi (fun k hk=>h.home k hk) hm
theorem Nq.lit1 (h:Bl w0 w)(x:Int):Nq w0 (w.alloc (.cells #[.int .i64 x] 3)) ⟨some ⟨w.heap.size,0,none⟩,1,1⟩ [x]:=
 ⟨⟨rfl,.inr ⟨w.heap.size,0,_,rfl,heap_alloc_new w _,by simp,Nat.le_refl _,(by show 1≤maxLen;unfold maxLen;omega),rfl⟩⟩,fun k hk=>by have e:some w.heap.size=some k:=hk;cases e;exact h.size,Zad h (Zab w _)⟩
theorem Nq.app (h:Nq w0 w s t){x:Value}{u:List Int}(hs:Src prog 1 29 x n (Zap u) w)(hl:s.len+n≤1000000) :
    ∃s' w',(∀ty,(Builtin.append_ #[29,29] ty #[s.val,x]).run prog w=.ok s'.val w')∧Nq w0 w' s' (t ++ u)∧Frm (fun k=>s.blk=some k) w w'∧s'.len=s.len+n:=by
  obtain⟨s',w',ab,ho,aa,hf,ac⟩:=Za7 underlying29 Ziv rfl (by decide) w s (Zap t) h.own (Zf8 t) x n (Zap u) hs hl 0;refine⟨s',w',fun ty=>ab,⟨?_,fun k hk=>?_,h.below.trans (hf.below h.below.size (fun k hk=>h.home k hk))⟩,hf,aa⟩
  · show Own 3 1 w' s' (Zap (t ++ u));rw [show Zap (t ++ u)=Zap t ++ Zap u by simp [Zap]];exact ho
  · rcases ac with e | ⟨e,_⟩
    · rw [e] at hk;exact h.home k hk
    · rw [e] at hk;cases hk;exact h.below.size
theorem Zqx (w:World)(x:Int):Gi (fun _=>True) (w.alloc (.cells #[.int .i64 x] 3)) ⟨some ⟨w.heap.size,0,none⟩,1,1⟩ [x]:=
 ((Nq.lit1 (w0:=w) (Below.refl _ w) x).gi (by show 1≤1000000;omega)).wide (fun _ _=>trivial)
noncomputable def mayB (t:Tbl):Bool:=@decide t.May (Classical.propDecidable _)
theorem ZgD {t:Tbl}(h:t.May):mayB t=true:=@decide_eq_true _ (Classical.propDecidable _) h
theorem Zcc {t:Tbl}(h:¬t.May):mayB t=false:=@decide_eq_false _ (Classical.propDecidable _) h
theorem Ze6 {t:Tbl}:mayB t=true↔t.May:=⟨fun h=>@of_decide_eq_true _ (Classical.propDecidable _) h,ZgD⟩
theorem Zm4 (t:Tbl)(v:Sl)(w:World)(h:Es w v t.es) :
    Calls prog 37 #[t.val v] w fun e w'=>e=.returned (.bool (mayB t))∧Bl w w':=by
  have hb:=Zdk w t v;have HW:=Zh hb;have HT:=Zh (ZaB.new w t v);have HE:=Zh (h.keep hb (Nat.le_refl _));have hl:t.es.length=v.len:=h.len;have ay:=h.big;clear h hb;obtain⟨va,vl,vc⟩:=v;simp only at hl ay;have HL:=Zh hl;unfold Tbl.val;by_cases z0:t.nx<1
  · have HR:Hi (mayB t=false):=Zcc (fun k=>by have:=k.nx;omega);clear hl HT HE HL;go_enter func37,ntmps37;go_wp2;go_ret;exact⟨by rw [HR.o];rfl,HW.o⟩
  by_cases z1:2147483647<t.nx
  · have HR:Hi (mayB t=false):=Zcc (fun k=>by have:=k.nx;omega);clear hl HT HE HL;go_enter func37,ntmps37;go_wp2;go_ret;exact⟨by rw [HR.o];rfl,HW.o⟩
  by_cases z2:t.no<1
  · have HR:Hi (mayB t=false):=Zcc (fun k=>by have:=k.no;omega);clear hl HT HE HL;go_enter func37,ntmps37;go_wp2;go_ret;exact⟨by rw [HR.o];rfl,HW.o⟩
  by_cases z3:2147483647<t.no
  · have HR:Hi (mayB t=false):=Zcc (fun k=>by have:=k.no;omega);clear hl HT HE HL;go_enter func37,ntmps37;go_wp2;go_ret;exact⟨by rw [HR.o];rfl,HW.o⟩
  by_cases z4:t.cm<0
  · have HR:Hi (mayB t=false):=Zcc (fun k=>by have:=k.cm;omega);clear hl HT HE HL;go_enter func37,ntmps37;go_wp2;go_ret;exact⟨by rw [HR.o];rfl,HW.o⟩
  by_cases z5:2147483647<t.cm
  · have HR:Hi (mayB t=false):=Zcc (fun k=>by have:=k.cm;omega);clear hl HT HE HL;go_enter func37,ntmps37;go_wp2;go_ret;exact⟨by rw [HR.o];rfl,HW.o⟩
  by_cases z6:vl=12
  case neg =>
   have HR:Hi (mayB t=false):=Zcc (fun k=>z6 (by rw [← hl];exact k.len));(have q6:((vl:Int) != 12)=true:=by simp;omega);(have q7:¬(vl:Int)=12:=by omega);clear hl HT HE HL z6;go_enter func37,ntmps37;go_wp2;go_ret;exact⟨by rw [HR.o];rfl,HW.o⟩
  subst z6;have aw:Hi ((1≤t.nx∧t.nx≤2147483647)∧(1≤t.no∧t.no≤2147483647)∧(0≤t.cm∧t.cm≤2147483647)):=⟨⟨by omega,by omega⟩,⟨by omega,by omega⟩,⟨by omega,by omega⟩⟩;go_enter func37,ntmps37;go_wp2_with fail;generalize w.alloc (.cells #[.int .i64 t.nx,.int .i64 t.no,.int .i64 t.cm,.slice va 12 vc] 24)=W at *;clear hl;have H0:=Zh (Below.refl W.heap.size W);go_loopw [3] (fun iv wr=>∃i:Nat,i≤12∧iv=.int .i64 (i:Nat)∧Hi (∀j,j<i→EntOk t j)∧Hi (Bl W wr)) (fun iv _=>12-(intOf iv).toNat)
  case atStart=>exact ⟨0,Nat.zero_le _,rfl,fun j hj=>absurd hj (Nat.not_lt_zero _),H0⟩
  case round =>
   obtain⟨i,hi,rfl,ad,ar⟩:=hrel;rename World=>wo;have az:=HT.o.keep ar.o;have d3:=az.c3;rcases Nat.lt_or_ge i 12 with bd | bg
   · (have i1:(i:Int)<12:=by omega);have ax:=HE.o.keep ar.o (Nat.le_refl _);obtain⟨b,off,ha,bc⟩:=ax.at' i bd;replace ha:va=some ⟨b,off,none⟩:=ha;subst ha;obtain⟨x,hx⟩:∃x,x=t.en i:=⟨_,rfl⟩;(have ah:EnAt wo b (off+i*4) x:=by rw [hx];exact bc);have HX:=Zh hx;have c0:=ah.c0;have c1:=ah.c1;have c2:=ah.c2;have c3:=ah.c3;have aq:=Zab wo (.cells #[.int .i64 x.tx,.int .i64 x.st,.int .i64 x.last,.int .i64 x.com] 127);have ac:=Zh (Zad ar.o aq);have ap:=Zh (az.keep aq);have an:=Zh (ZcM.new wo x);have ba:=Zh (ax.keep aq (Nat.le_refl _));(have bb:Hi ((wo.alloc (.cells #[.int .i64 x.tx,.int .i64 x.st,.int .i64 x.last,.int .i64 x.com] 127)).heap.size=wo.heap.size+1):=by show _=_;simp);clear az ax bc ah hx aq;generalize aj:wo.alloc (.cells #[.int .i64 x.tx,.int .i64 x.st,.int .i64 x.last,.int .i64 x.com] 127)=W4 at *;have g0:W4.cell? ⟨wo.heap.size,0,none⟩=some (.int .i64 x.tx):=an.o.at.c0;have g1:W4.cell? ⟨wo.heap.size,1,none⟩=some (.int .i64 x.st):=an.o.at.c1;have g2:W4.cell? ⟨wo.heap.size,2,none⟩=some (.int .i64 x.last):=an.o.at.c2;have g3:W4.cell? ⟨wo.heap.size,3,none⟩=some (.int .i64 x.com):=an.o.at.c3;have m0:=ap.o.c0;have m2:=ap.o.c2;have m3:=ap.o.c3;have aa:¬EntOk t i→mayB t=false:=fun k=>Zcc (fun m=>k (m.ok i bd));by_cases y0:x.st<0
     · have HR:Hi (mayB t=false):=aa (fun k=>by have:=k.st;rw [← HX.o] at this;omega);clear aa;go_wp2;go_ret;exact⟨by rw [HR.o];rfl,Zad HW.o ac.o⟩
     by_cases y1:2<x.st
     · have HR:Hi (mayB t=false):=aa (fun k=>by have:=k.st;rw [← HX.o] at this;omega);clear aa;go_wp2;go_ret;exact⟨by rw [HR.o];rfl,Zad HW.o ac.o⟩
     by_cases y2:x.st=0
     · obtain⟨xt,xs,xl,xc⟩:=x;replace y2:xs=0:=y2;subst y2;simp only at g0 g1 g2 g3 aj c0 c1 c2 c3 y0 y1;have ab:∀h:¬((⟨xt,0,xl,xc⟩:En)=En.zero),Hi (mayB t=false):=fun h=>aa (fun k=>h (by have:=k.free;rw [← HX.o] at this;exact this rfl));by_cases y3:xt=0
       case neg =>
        have HR:=ab (fun e=>y3 (congrArg En.tx e));clear aa ad ab;go_wp2;go_ret;exact⟨by rw [HR.o];rfl,Zad HW.o ac.o⟩
       by_cases y4:xl=0
       case neg =>
        have HR:=ab (fun e=>y4 (congrArg En.last e));clear aa ad ab;go_wp2;go_ret;rw [y3] at aj;rw [aj];exact⟨by rw [HR.o];rfl,Zad HW.o ac.o⟩
       by_cases y5:xc=0
       case neg =>
        have HR:=ab (fun e=>y5 (congrArg En.com e));clear aa ad ab;go_wp2;go_ret;rw [y3,y4] at aj;rw [aj];exact⟨by rw [HR.o];rfl,Zad HW.o ac.o⟩
       have HN:Hi (∀j,j<i+1→EntOk t j):=by
        intro j hj;by_cases e:j=i
        · subst e;(have ex:t.en j=En.zero:=by rw [← HX.o,y3,y4,y5];rfl);have z0:En.zero.st=0:=rfl;constructor <;> rw [ex]
          · decide
          · exact fun _=>rfl
          · exact fun h=>absurd z0 h
          · exact fun h=>absurd z0 h
          · exact fun _=>rfl
          · exact fun h=>by cases h
          · exact fun h=>absurd z0 h
        · exact ad.o j (by omega)
       clear aa ad ab;go_wp2;go_roundw
       case rel =>
        rw [y3,y4,y5] at aj;rw [aj];exact⟨i+1,by omega,by go_num,HN,ac⟩
       case measure=>simp only [intOf];omega
     obtain⟨xt,xs,xl,xc⟩:=x;simp only at g0 g1 g2 g3 aj c0 c1 c2 c3 y0 y1 y2;by_cases v0:xt<1
     · have HR:Hi (mayB t=false):=aa (fun k=>by have:=k.tx (by rw [← HX.o];exact y2);rw [← HX.o] at this;simp only at this;omega);clear aa ad;go_wp2;go_ret;exact⟨by rw [HR.o];rfl,Zad HW.o ac.o⟩
     by_cases v1:t.nx≤xt
     · have HR:Hi (mayB t=false):=aa (fun k=>by have:=k.tx (by rw [← HX.o];exact y2);rw [← HX.o] at this;simp only at this;omega);clear aa ad;go_wp2;go_ret;exact⟨by rw [HR.o];rfl,Zad HW.o ac.o⟩
     by_cases v2:xl<0
     · have HR:Hi (mayB t=false):=aa (fun k=>by have:=k.last (by rw [← HX.o];exact y2);rw [← HX.o] at this;simp only at this;omega);clear aa ad;go_wp2;go_ret;exact⟨by rw [HR.o];rfl,Zad HW.o ac.o⟩
     by_cases v3:65535<xl
     · have HR:Hi (mayB t=false):=aa (fun k=>by have:=k.last (by rw [← HX.o];exact y2);rw [← HX.o] at this;simp only at this;omega);clear aa ad;go_wp2;go_ret;exact⟨by rw [HR.o];rfl,Zad HW.o ac.o⟩
     by_cases y3:xs=1
     · subst y3;by_cases v4:¬xc=0
       · have HR:Hi (mayB t=false):=aa (fun k=>by have:=k.act (by rw [← HX.o]);rw [← HX.o] at this;simp only at this;omega);clear aa ad;go_wp2;go_ret;exact⟨by rw [HR.o];rfl,Zad HW.o ac.o⟩
       (have q4:(xc != 0)=false:=by simp at v4 ⊢;exact v4);(have q5:(xc == 0)=true:=by simp at v4 ⊢;exact v4);(have V4:Hi (xc=0):=by show _=_;omega);clear v4;have ai:Hi ((∀j,j<i→(t.en j).tx≠xt∧(0<(xc:Int)→(t.en j).com≠xc))→∀j,j<i+1→EntOk t j):=by
        intro hk j hj;by_cases e:j=i
        · subst e;constructor <;> rw [← HX.o] <;> simp only
          · omega
          · exact fun h=>absurd h (by decide)
          · intro _;omega
          · intro _;omega
          · exact fun _=>V4.o
          · intro h;exact absurd h (by decide)
          · exact fun _=>hk
        · exact ad.o j (by omega)
       have am:Hi (∀k,k<i→¬((t.en k).tx≠xt∧(0<(xc:Int)→(t.en k).com≠xc))→mayB t=false):=by
        intro k hk hn;refine aa (fun m=>hn ?_);have:=m.one (by rw [← HX.o];simp) k hk;rw [← HX.o] at this;exact this
       clear aa ad;go_wp2_with fail;have av:=Zh (Below.refl W4.heap.size W4);go_loopw [5] (fun kv wr=>∃k:Nat,k≤i∧kv=.int .i64 (k:Nat)∧Hi (∀j,j<k→(t.en j).tx≠xt∧(0<(xc:Int)→(t.en j).com≠xc))∧Hi (Bl W4 wr)) (fun kv _=>i-(intOf kv).toNat)
       case atStart=>exact ⟨0,Nat.zero_le _,rfl,fun j hj=>absurd hj (Nat.not_lt_zero _),av⟩
       case round =>
        obtain⟨k,hk,rfl,ak,af⟩:=hrel;rename World=>wk;rcases Nat.lt_or_ge k i with au | bf
        · (have k1:(k:Int)<(i:Int):=by omega);have al:=Zh (ap.o.keep af.o);have ao:=Zh (an.o.keep af.o);obtain⟨b',off',ha',hy⟩:=(ba.o.keep af.o (Nat.le_refl _)).at' k (by show k<12;omega);simp only [Option.some.injEq,Addr.mk.injEq,and_true] at ha';obtain⟨rfl,rfl⟩:=ha';have HY:=Zh hy;clear hy;(have be:Hi (wo.heap.size≤W4.heap.size):=by show _≤_;rw [bb.o];omega);by_cases u1:(t.en k).tx=xt
          case pos =>
           have HR:Hi (mayB t=false):=am.o k au (fun m=>m.1 u1);clear ai;go_wp2_with fail;refine Pl.q9 (ops:=Pl.fd 17 f37) ?_;refine ZjE _ b off 12 vc k w.heap.size wo.heap.size t _ ⟨xt,1,xl,xc⟩ (by omega) al.o ao.o HY.o u1 (by rfl) rfl (by rfl) (by rfl) (by rfl) ?_;intro u1 w1 ae;simp only [Pl.pu,List.foldl,Act.put,List.setIfInBounds_toArray,List.set];have ag:=Zh (Zad af.o ae);clear ae;go_wp2;go_ret;exact⟨by rw [HR.o];rfl,Zad HW.o (Zad ac.o ag.o)⟩
          have HN:Hi (∀j,j<k+1→(t.en j).tx≠xt∧(0<(xc:Int)→(t.en j).com≠xc)):=by
           intro j hj;by_cases e:j=k
           · subst e;exact⟨u1,fun h=>absurd h (by have:=V4.o;omega)⟩
           · exact ak.o j (by omega)
          skip;go_wp2_with fail;refine Pl.q9 (ops:=Pl.fd 17 f37) ?_;refine Zon _ b off 12 vc k w.heap.size wo.heap.size t _ ⟨xt,1,xl,xc⟩ (by omega) al.o ao.o HY.o u1 (by have:=V4.o;show ¬0<xc;omega) (by rfl) rfl (by rfl) (by rfl) (by rfl) ?_;intro u1 w1 ae;simp only [Pl.pu,List.foldl,Act.put,List.setIfInBounds_toArray,List.set];have ag:=Zh (Zad af.o ae);clear ae;go_wp2;go_roundw;exact ⟨k+1,by omega,by go_num,HN,ag⟩;simp only [intOf];omega
        · (have k1:¬(k:Int)<(i:Int):=by omega);have HN:Hi (∀j,j<i+1→EntOk t j):=ai.o (fun j hj=>ak.o j (by omega));have ag:Hi (Bl W wk):=Zad ac.o af.o;clear ai am ak;go_wp2;go_roundw;exact ⟨i+1,by omega,by go_num,HN,ag⟩;simp only [intOf];omega
     (have y4:xs=2:=by omega);subst y4;clear y3;by_cases v4:xc<1
     · have HR:Hi (mayB t=false):=aa (fun k=>by have:=k.done (by rw [← HX.o]);rw [← HX.o] at this;simp only at this;omega);clear aa ad;go_wp2;go_ret;exact⟨by rw [HR.o];rfl,Zad HW.o ac.o⟩
     by_cases v5:t.cm<xc
     · have HR:Hi (mayB t=false):=aa (fun k=>by have:=k.done (by rw [← HX.o]);rw [← HX.o] at this;simp only at this;omega);clear aa ad;go_wp2;go_ret;exact⟨by rw [HR.o];rfl,Zad HW.o ac.o⟩
     have ai:Hi ((∀j,j<i→(t.en j).tx≠xt∧(0<(xc:Int)→(t.en j).com≠xc))→∀j,j<i+1→EntOk t j):=by
      intro hk j hj;by_cases e:j=i
      · subst e;constructor <;> rw [← HX.o] <;> simp only
        · omega
        · exact fun h=>absurd h (by decide)
        · intro _;omega
        · intro _;omega
        · intro h;exact absurd h (by decide)
        · intro _;omega
        · exact fun _=>hk
      · exact ad.o j (by omega)
     have am:Hi (∀k,k<i→¬((t.en k).tx≠xt∧(0<(xc:Int)→(t.en k).com≠xc))→mayB t=false):=by
      intro k hk hn;refine aa (fun m=>hn ?_);have:=m.one (by rw [← HX.o];simp) k hk;rw [← HX.o] at this;exact this
     clear aa ad;go_wp2_with fail;have av:=Zh (Below.refl W4.heap.size W4);go_loopw [5] (fun kv wr=>∃k:Nat,k≤i∧kv=.int .i64 (k:Nat)∧Hi (∀j,j<k→(t.en j).tx≠xt∧(0<(xc:Int)→(t.en j).com≠xc))∧Hi (Bl W4 wr)) (fun kv _=>i-(intOf kv).toNat)
     case atStart=>exact ⟨0,Nat.zero_le _,rfl,fun j hj=>absurd hj (Nat.not_lt_zero _),av⟩
     case round =>
      obtain⟨k,hk,rfl,ak,af⟩:=hrel;rename World=>wk;rcases Nat.lt_or_ge k i with au | bf
      · (have k1:(k:Int)<(i:Int):=by omega);have al:=Zh (ap.o.keep af.o);have ao:=Zh (an.o.keep af.o);obtain⟨b',off',ha',hy⟩:=(ba.o.keep af.o (Nat.le_refl _)).at' k (by show k<12;omega);simp only [Option.some.injEq,Addr.mk.injEq,and_true] at ha';obtain⟨rfl,rfl⟩:=ha';have HY:=Zh hy;clear hy;(have be:Hi (wo.heap.size≤W4.heap.size):=by show _≤_;rw [bb.o];omega);by_cases u1:(t.en k).tx=xt
        case pos =>
         have HR:Hi (mayB t=false):=am.o k au (fun m=>m.1 u1);clear ai;go_wp2_with fail;refine Pl.q9 (ops:=Pl.fd 17 f37) ?_;refine ZjE _ b off 12 vc k w.heap.size wo.heap.size t _ ⟨xt,2,xl,xc⟩ (by omega) al.o ao.o HY.o u1 (by rfl) rfl (by rfl) (by rfl) (by rfl) ?_;intro u1 w1 ae;simp only [Pl.pu,List.foldl,Act.put,List.setIfInBounds_toArray,List.set];have ag:=Zh (Zad af.o ae);clear ae;go_wp2;go_ret;exact⟨by rw [HR.o];rfl,Zad HW.o (Zad ac.o ag.o)⟩
        (have u2:0<xc:=by omega);by_cases u3:(t.en k).com=xc
        case pos =>
         have HR:Hi (mayB t=false):=am.o k au (fun m=>m.2 u2 u3);clear ai;go_wp2_with fail;refine Pl.q9 (ops:=Pl.fd 17 f37) ?_;refine Zoo _ b off 12 vc k w.heap.size wo.heap.size t _ ⟨xt,2,xl,xc⟩ (by omega) al.o ao.o HY.o u1 u2 u3 (by rfl) rfl (by rfl) (by rfl) (by rfl) ?_;intro u1 w1 ae;simp only [Pl.pu,List.foldl,Act.put,List.setIfInBounds_toArray,List.set];have ag:=Zh (Zad af.o ae);clear ae;go_wp2;go_ret;exact⟨by rw [HR.o];rfl,Zad HW.o (Zad ac.o ag.o)⟩
        have HN:Hi (∀j,j<k+1→(t.en j).tx≠xt∧(0<(xc:Int)→(t.en j).com≠xc)):=by
         intro j hj;by_cases e:j=k
         · subst e;exact⟨u1,fun _=>u3⟩
         · exact ak.o j (by omega)
        skip;go_wp2_with fail;refine Pl.q9 (ops:=Pl.fd 17 f37) ?_;refine Zop _ b off 12 vc k w.heap.size wo.heap.size t _ ⟨xt,2,xl,xc⟩ (by omega) al.o ao.o HY.o u1 u2 u3 (by rfl) rfl (by rfl) (by rfl) (by rfl) ?_;intro u1 w1 ae;simp only [Pl.pu,List.foldl,Act.put,List.setIfInBounds_toArray,List.set];have ag:=Zh (Zad af.o ae);clear ae;go_wp2;go_roundw;exact ⟨k+1,by omega,by go_num,HN,ag⟩;simp only [intOf];omega
      · (have k1:¬(k:Int)<(i:Int):=by omega);have HN:Hi (∀j,j<i+1→EntOk t j):=ai.o (fun j hj=>ak.o j (by omega));have ag:Hi (Bl W wk):=Zad ac.o af.o;clear ai am ak;go_wp2;go_roundw;exact ⟨i+1,by omega,by go_num,HN,ag⟩;simp only [intOf];omega
   · (have i1:¬(i:Int)<12:=by omega);have HR:Hi (mayB t=true):=ZgD ⟨aw.o.1,aw.o.2.1,aw.o.2.2,HL.o,fun j hj=>ad.o j (by omega)⟩;clear ad;go_wp2;go_ret;exact⟨by rw [HR.o];rfl,Zad HW.o ar.o⟩
section
variable {ops : Array Oper} {rest : List Oper} {o : Oper} {a : Act} {Q : Exit → Act → World → Prop}
theorem ZiZ (w:World)(hw:Region.wanted o (yielded ops a.tmps)=true)(v:Value)(w':World)(aa:(execOp a.eval o).run prog w=.ok (.value v) w')(hK:wpList prog ops Q rest (a.put o.dst v) w'):wpList prog ops Q (o :: rest) a w:=by
 refine BigFrame.wpList_want hw fun K hK'=>?_;unfold Oper.wp;rw [aa];exact hK' _ _ hK
theorem ZhY (w:World)(hw:Region.wanted o (yielded ops a.tmps)=true)(t:TypeId)(x:Operand)(ho:o.op=.load t x)(p v:Value)(hp:a.eval x=p)(aa:(Instr.loadAt t p).run prog w=.ok v w)(hK:wpList prog ops Q rest (a.put o.dst v) w):wpList prog ops Q (o :: rest) a w:=by
 refine ZiZ w hw v w ?_ hK;have e:execOp a.eval o=(do pure (.value (← Instr.loadAt t (a.eval x)))):=by
  unfold execOp;rw [ho]
 rw [e,hp];simp [aa]
end
theorem ZeQ (u:Un)(a:Option Addr)(len cap:Nat)(w:World)(h:Fs w a len cap u.row.xs) :
    Calls prog 76 #[u.val (.slice a len cap)] w fun e w'=>e=.returned (.bool u.emp)∧Bl w w':=by
  have HS:Hi (∀w',Bl w w'→Calls prog 115 #[u.val (.slice a len cap),.agg #[.int .i64 0,.int .i64 0,.int .i64 0,.int .i64 0,.int .i64 0,.int .i64 0,.float .f64 0,.bool false,.slice none 0 0,.int .i64 0,.int .i64 0,.int .i64 0]] w' fun e w''=>e=.returned (.bool u.emp)∧Bl w' w''):=fun w' hb=>Zle u zeroU a len cap none 0 0 w' (h.keep hb (Nat.le_refl _)) (ZcP w');have HX:=Zh (Zbj w u (.slice a len cap));have HW:Hi (∀o,Bl w (w.alloc o)):=Zab w;clear h;generalize u.emp=m at *;unfold Un.val at HS ⊢;go_enter func76,ntmps76;go_wp2_with fail;refine(HS.o _ (HW.o _)).mono ?_;rintro e w1 ⟨rfl,aa⟩;have ab:=Zh (Zad (HW.o _) aa);clear aa;go_wp2;go_ret;exact⟨rfl,ab.o⟩
def ixU:Option Nat→Int
  | none=>-1
  | some i=>i
theorem Zpl (p:Un→Bool)(l:List Un):decide (0≤ixU (l.findIdx? p))=(l.findIdx? p).isSome:=by
 cases h:l.findIdx? p with
 | none=>rfl
 | some i=>exact decide_eq_true (Int.natCast_nonneg _)
theorem Zkv (w:World)(va:Option Addr)(vl vc:Nat)(l:List Ux)(h:Us w va vl l)(ag:vl≤1000000)(c:Int) :
    Calls prog 112 #[.slice va vl vc,.int .i64 c] w fun e w'=>e=.returned (.bool (!(atU (uns l) c).emp))∧Bl w w':=by
  (have hl:(uns l).length=vl:=by rw [Zba,h.len]);have H0:=Zh (Below.refl w.heap.size w);by_cases h1:c<1
  · (have HR:Hi ((!(atU (uns l) c).emp)=false):=by show _=_;rw [Zgq (by omega),Zfw];rfl);clear h hl;go_enter func112,ntmps112;go_wp2;go_ret;exact⟨by rw [HR.o];rfl,H0.o⟩
  by_cases h2:(vl:Int)<c
  · (have HR:Hi ((!(atU (uns l) c).emp)=false):=by show _=_;rw [Zgq (by rw [hl];omega),Zfw];rfl);clear h hl;go_enter func112,ntmps112;go_wp2;go_ret;exact⟨by rw [HR.o];rfl,H0.o⟩
  obtain⟨k,rfl⟩:∃k:Nat,c=(k:Int)+1:=⟨(c-1).toNat,by omega⟩;(have hk:k<vl:=by omega);rw [Zlo _ (by omega),ZaQ];obtain⟨b1,off,rfl,ab⟩:=h.at' k hk;have aa:=h.cols _ (h.mem hk);generalize l.getD k Ux.zero=y at *;have af:=Zh (ZaE b1 (off+k*12) y w ab);have ae:Hi (Calls prog 76 #[y.val] w fun e w'=>e=.returned (.bool y.u.emp)∧Bl w w'):=ZeQ y.u y.a y.n y.c w aa;clear ab aa h hl;generalize y.u.emp=m at *;(have i1:(k:Int)<(vl:Int):=by omega);(have i2:(1:Int)≤(k:Int)+1:=by omega);(have i3:(k:Int)+1≤(vl:Int):=by omega);clear h1 h2;go_enter func112,ntmps112;go_wp2_with (refine ZhY _ (by rfl) 65 (.tmp 17) rfl (.pointer (some ⟨b1,off+k*12,none⟩)) y.val rfl af.o ?_);refine ae.o.mono ?_;rintro e w1 ⟨rfl,ac⟩;have ad:=Zh ac;clear ac;go_wp2;go_ret;exact⟨rfl,ad.o⟩
theorem ZiW {fn:Func}{x:Nat}(hr:fn.results=#[.cell x 65])(h:UnBlk W g u c)(tmps:Array Value)(ht:tmps.getD x undef=.pointer (some ⟨g,0,none⟩))(hc:∃a len cap,c=.slice a len cap):(results fn tmps).run prog W=.ok (u.val c) W:=by
 have c0:=h.c0;have c1:=h.c1;have c2:=h.c2;have c3:=h.c3;have c4:=h.c4;have c5:=h.c5;have c6:=h.c6;have c7:=h.c7;have c8:=h.c8;have c9:=h.c9;have c10:=h.c10;have c11:=h.c11;obtain⟨a,len,cap,rfl⟩:=hc;(have aa:tmps[x]?.getD undef=.pointer (some ⟨g,0,none⟩):=by simpa using ht);simp [results,hr,aa,go_sem,c0,c1,c2,c3,c4,c5,c6,c7,c8,c9,c10,c11,Un.val]
theorem ZpR {fn:Func}{x:Nat}(aa:fn.results=#[.cell x 65]){u0:Un}{c0:Value}(h:UnBlk W g u0 c0)(u:Un)(c:Value)(hc:∃a len cap,c=.slice a len cap){A:Act}{R:Ending→World→Prop}(t2:A.tmps.getD x undef=.pointer (some ⟨g,0,none⟩))(hd:A.defers=[])
    (hR:R (.returned (u.val c)) (setUn W g u c)):bodyPost prog fn R Exit.ret A (setUn W g u c):=by
  have hr:=Zd7 h u c;generalize setUn W g u c=W' at *;exact bodyPost_ret (ZiW aa hr _ t2 hc) hd hR
theorem ZmL (h:UnBlk w g u c)(c':Value):UnBlk (w.setCell ⟨g,8,none⟩ c') g u c':=by
 unfold UnBlk at h ⊢;rw [heap_setCell_same w g 8 _ 65 c' h];rfl
theorem Zou (w:World)(g o:Nat)(u:Value):Frm (fun k=>k=g) w (w.setCell ⟨g,o,none⟩ u):=Frm.setCell (F:=fun k=>k=g) (Frm.refl _ w) (p:=⟨g,o,none⟩) rfl _
theorem Zd8 (w:World)(g:Nat)(u:Un)(c:Value):Frm (fun k=>k=g) w (setUn w g u c):=by
 have hb:Below 0 w (setUn w g u c):=ZaZ (Below.refl 0 w) (Nat.zero_le _) u c;exact⟨hb.os,hb.tape,hb.output,hb.size,fun k _ hk=>ZiK w g u c k hk⟩
theorem UnBlk.stay (h:UnBlk w g u c)(hs:Zll e w w')(he:65≠e):UnBlk w' g u c:=(hs _ _ _ _ h he).trans h
theorem UnBlk.frm {F:Nat→Prop}(h:UnBlk w g u c)(hf:Frm F w w')(hn:¬F g):UnBlk w' g u c:=(hf.block g h.lt hn).trans h
theorem ZeA (h:UnBlk w g u c)(hf:Frm (fun k=>k=g) w w'):Zll 65 w w':=fun p C t fr hp ht=>hf.block p (Array.getElem?_eq_some_iff.1 hp).1 (fun e=>by
 subst e
 unfold UnBlk at h
 rw [h] at hp
 simp only [Option.some.injEq,Obj.cells.injEq] at hp
 exact ht hp.2.1.symm)
theorem ZaX {u0:Un}{c0:Value}(h:UnBlk W g u0 c0)(u:Un)(a:Option Addr)(n c:Nat):(Instr.storeAt 65 (.pointer (some ⟨g,0,none⟩)) (u.val (.slice a n c))).run prog W=.ok () (setUn W g u (.slice a n c)):=by
 have aa:∀(w:World) (a:Addr) (m:Mode) (x:Nat),(store a (.float .f64 x) m).run prog w=stored prog w a (.float .f64 x) m:=fun w a m x=>run_store prog w a _ m rfl;have c0:=h.c0;have c1:=h.c1;have c2:=h.c2;have c3:=h.c3;have c4:=h.c4;have c5:=h.c5;have c6:=h.c6;have c7:=h.c7;have c8:=h.c8;have c9:=h.c9;have c10:=h.c10;have c11:=h.c11;have f0:=h.fz;simp [go_sem,Instr.storeAt,aa,stored,c0,c1,c2,c3,c4,c5,c6,c7,c8,c9,c10,c11,f0,Un.val,setUn]
theorem Zje (w:World)(x:Ux):∃W,(Instr.storeAt 65 (.pointer (some ⟨w.heap.size,0,none⟩)) x.val).run prog (w.alloc (.cells #[.int .i64 0,.int .i64 0,.int .i64 0,.int .i64 0,.int .i64 0,.int .i64 0,.float .f64 0,.bool false,.slice none 0 0,.int .i64 0,.int .i64 0,.int .i64 0] 65))=.ok () W∧UnBlk W w.heap.size x.u (.slice x.a x.n x.c)∧Bl w W:=by
 have hz:UnBlk (w.alloc (.cells #[.int .i64 0,.int .i64 0,.int .i64 0,.int .i64 0,.int .i64 0,.int .i64 0,.float .f64 0,.bool false,.slice none 0 0,.int .i64 0,.int .i64 0,.int .i64 0] 65)) w.heap.size zeroU (.slice none 0 0):=Zbj w zeroU _;exact⟨_,ZaX hz x.u x.a x.n x.c,Zd7 hz _ _,ZaZ (Zab w _) (Nat.le_refl _) _ _⟩
theorem Zod (x:Ux)(w:World)(h:Fs w x.a x.n x.c x.u.row.xs)(hn:x.n≤1000) :
    Calls prog 113 #[x.val] w fun e w'=>∃a c,e=.returned (x.u.val (.slice a x.n c))∧OwnsV 32 w' w.heap.size (.slice a x.n c) (fVals x.u.row.xs)∧Fs w' a x.n c x.u.row.xs∧Bl w w':=by
  have HU:=Zh (Zbj w x.u (.slice x.a x.n x.c));have HB:Hi (∀A Z,Bl w ((w.alloc A).alloc Z)):=ZaC w;have ai:Hi (∀Z,UnBlk ((w.alloc (.cells #[.int .i64 x.u.tx,.int .i64 x.u.no,.int .i64 x.u.prev,.int .i64 x.u.kind,.int .i64 x.u.page,.int .i64 x.u.slot,.float .f64 x.u.row.key,.bool x.u.row.dead,.slice x.a x.n x.c,.int .i64 x.u.row.wr,.int .i64 x.u.row.cell,.int .i64 x.u.row.no] 65)).alloc Z) w.heap.size x.u (.slice x.a x.n x.c)):=fun Z=>HU.o.keep (Zab _ Z);have HZ:Hi (∀A,UnBlk ((w.alloc A).alloc (.cells #[.int .i64 0,.int .i64 0,.int .i64 0,.int .i64 0,.int .i64 0,.int .i64 0,.float .f64 0,.bool false,.slice none 0 0,.int .i64 0,.int .i64 0,.int .i64 0] 65)) (w.heap.size+1) zeroU (.slice none 0 0)):=fun A=>by
   have:=Zbj (w.alloc A) zeroU (.slice none 0 0);rwa [show (w.alloc A).heap.size=w.heap.size+1 by simp] at this
  have HV:Hi (∀A Z,Vs ((w.alloc A).alloc Z) x.a x.n (fVals x.u.row.xs)):=fun A Z=>(h.keep (HB.o A Z) (Nat.le_refl _)).vs;have ad:Hi (x.a=none→x.c=0):=h.nil;have ab:Hi (∀y∈x.u.row.xs,y<18446744073709551616):=h.fit;have aj:=Zh h.len;(have ac:Hi (([]:List Value).length+x.n≤1000000):=by show _≤_;simp;omega);clear h HU;unfold Ux.val Un.val;go_enter func113,ntmps113;go_wp2_with (at_builtin;refine ZaK Zj5 _ rfl (.const (.slice none 0 0)) (.tmp 5) rfl w.heap.size (.slice none 0 0) [] rfl (OwnsV.nil _ _ _) _ _ _ (fVals x.u.row.xs) rfl (HV.o _ _) ad.o ac.o (HB.o _ _).size ?_);intro v1 w2 ag ak ah;have aa:=aj.o;obtain⟨a1,c1,rfl,ao⟩:=OwnsV.fs (xs:=x.u.row.xs) (n:=x.n) (by simpa using ag) ab.o aa (by omega);have hu:=(ai.o _).stay ah (by decide);have hz:=(HZ.o _).stay ah (by decide);have af:=Zh ((HB.o _ _).trans ak);have h8:=hu.c8;have ap:=hu.fz 8;have hu':=ZmL hu (.slice a1 x.n c1);have ae:=Zou w2 w.heap.size 8 (.slice a1 x.n c1);have hz':=hz.frm ae (by omega);have am:=Zh (Zcu w.heap.size x.u (.slice a1 x.n c1) ⟨_,_,_,rfl⟩ _ hu');have an:=Zh (ZaX hz' x.u a1 x.n c1);have HZ':=Zh hz';have HO:Hi (OwnsV 32 (setUn (w2.setCell ⟨w.heap.size,8,none⟩ (.slice a1 x.n c1)) (w.heap.size+1) x.u (.slice a1 x.n c1)) w.heap.size (.slice a1 x.n c1) (fVals x.u.row.xs)):=by
   (have h1:OwnsV 32 w2 w.heap.size (.slice a1 x.n c1) (fVals x.u.row.xs):=by simpa using ag);exact(h1.stay (ZeA hu ae) (by decide)).stay (ZeA hz' (Zd8 _ _ _ _)) (by decide)
  have al:Hi (Bl w (setUn (w2.setCell ⟨w.heap.size,8,none⟩ (.slice a1 x.n c1)) (w.heap.size+1) x.u (.slice a1 x.n c1))):=ZaZ (af.o.trans (ae.below af.o.size (fun k hk=>by rw [hk];exact Nat.le_refl _))) (Nat.le_succ _) _ _;clear ag ak ah ao hu hz hu' hz' ae ai HZ HV ad ac HB af aa;go_wp2_with (first | refine Zah _ rfl 65 (.tmp 1) rfl (.pointer (some ⟨w.heap.size,0,none⟩)) (x.u.val (.slice a1 x.n c1)) rfl am.o ?_ | refine Zac _ rfl rfl 65 (.tmp 2) (.tmp 9) rfl (.pointer (some ⟨w.heap.size+1,0,none⟩)) (x.u.val (.slice a1 x.n c1)) rfl rfl _ an.o ?_);refine ZpR rfl HZ'.o x.u (.slice a1 x.n c1) ⟨_,_,_,rfl⟩ (by rfl) (by rfl) ?_;exact⟨a1,c1,rfl,HO.o,HO.o.fsAt ab.o (by rw [aj.o];omega),al.o⟩
section
variable {ops : Array Oper} {rest : List Oper} {o : Oper} {a : Act} {Q : Exit → Act → World → Prop}
theorem Zgk (w:World)(ab:o.guard=none)(S:TypeId)(s x:Operand)(ho:o.op=.call { callee:=.builtin .append,args:=#[s,x],argTypes:=#[S,S] })(vs vx:Value)(hs:a.eval s=vs)(hx:a.eval x=vx)(v':Value)(w':World)(aa:∀ty,(Builtin.append_ #[S,S] ty #[vs,vx]).run prog w=.ok v' w')(hK:wpList prog ops Q rest (a.put o.dst v') w'):wpList prog ops Q (o :: rest) a w:=by
 refine wpList_plain ab fun K' hK'=>?_;unfold Oper.wp;simp [execOp,ho,resolve,invoke,builtin,hs,hx,aa,Result.andThen];exact hK' _ _ hK
end
open Go.Shelf
def ZmR:Go.Shelf.Ren:=⟨fun | 5=>44 | 8=>92 | 7=>91 | 19=>132 | 20=>133 | 10=>123 | 11=>124 | 12=>125 | 13=>126 | 14=>127 | 15=>128 | 16=>129 | 17=>130 | 18=>131 | 30=>156 | 31=>157 | 32=>158 | 33=>159 | 34=>160 | 35=>161 | 40=>182 | n=>n,fun | 23=>29 | 25=>3 | 3=>3 | 32=>142 | 22=>29 | 0=>0 | 44=>178 | 46=>88 | 4=>4 | 36=>170 | 35=>169 | 41=>175 | 5=>5 | 9=>9 | 53=>200 | 57=>204 | 63=>222 | 64=>223 | n=>n,fun | n=>n⟩
theorem Zrk:Go.Proofs.SlLaysM.n5 prog ZmR:={
 mixed:=by kernel_rfl
 f5:=⟨f44.name,by decide,func44.trans (congrArg some (by kernel_rfl))⟩
 f7:=⟨f91.name,by decide,func91.trans (congrArg some (by kernel_rfl))⟩
 f8:=func92.trans (congrArg some (by kernel_rfl))
 f10:=⟨f123.name,by decide,func123.trans (congrArg some (by kernel_rfl))⟩
 f11:=⟨f124.name,by decide,func124.trans (congrArg some (by kernel_rfl))⟩
 f12:=⟨f125.name,by decide,func125.trans (congrArg some (by kernel_rfl))⟩
 f13:=⟨f126.name,by decide,func126.trans (congrArg some (by kernel_rfl))⟩
 f14:=⟨f127.name,by decide,func127.trans (congrArg some (by kernel_rfl))⟩
 f15:=⟨f128.name,by decide,func128.trans (congrArg some (by kernel_rfl))⟩
 f16:=⟨f129.name,by decide,func129.trans (congrArg some (by kernel_rfl))⟩
 f17:=⟨f130.name,by decide,func130.trans (congrArg some (by kernel_rfl))⟩
 f18:=⟨f131.name,by decide,func131.trans (congrArg some (by kernel_rfl))⟩
 f19:=func132.trans (congrArg some (by kernel_rfl))
 f20:=func133.trans (congrArg some (by kernel_rfl))
 f30:=⟨f156.name,by decide,func156.trans (congrArg some (by kernel_rfl))⟩
 f31:=func157.trans (congrArg some (by kernel_rfl))
 f32:=func158.trans (congrArg some (by kernel_rfl))
 f33:=⟨f159.name,by decide,func159.trans (congrArg some (by kernel_rfl))⟩
 f34:=⟨f160.name,by decide,func160.trans (congrArg some (by kernel_rfl))⟩
 f35:=⟨f161.name,by decide,func161.trans (congrArg some (by kernel_rfl))⟩
 f40:=⟨f182.name,by decide,func182.trans (congrArg some (by kernel_rfl))⟩
 t0:=underlying0
 a0:=isAgg0
 z0:=sizeOf0
 v0:=zeroValue0
 t3:=underlying3
 a3:=isAgg3
 z3:=sizeOf3
 v3:=zeroValue3
 t4:=underlying4
 a4:=isAgg4
 z4:=sizeOf4
 v4:=zeroValue4
 t5:=underlying5
 a5:=isAgg5
 z5:=sizeOf5
 v5:=zeroValue5
 t9:=underlying9
 a9:=isAgg9
 z9:=sizeOf9
 v9:=zeroValue9
 t22:=underlying29
 a22:=isAgg29
 z22:=sizeOf29
 v22:=zeroValue29
 t23:=underlying29
 a23:=isAgg29
 z23:=sizeOf29
 v23:=zeroValue29
 t25:=underlying3
 a25:=isAgg3
 z25:=sizeOf3
 v25:=zeroValue3
 t32:=underlying142
 a32:=isAgg142
 z32:=sizeOf142
 v32:=zeroValue142
 t35:=underlying169
 a35:=isAgg169
 z35:=sizeOf169
 v35:=zeroValue169
 t36:=underlying170
 a36:=isAgg170
 z36:=sizeOf170
 v36:=zeroValue170
 t41:=underlying175
 a41:=isAgg175
 z41:=sizeOf175
 v41:=zeroValue175
 t44:=underlying178
 a44:=isAgg178
 z44:=sizeOf178
 v44:=zeroValue178
 t46:=underlying88
 a46:=isAgg88
 z46:=sizeOf88
 v46:=zeroValue88
 t53:=underlying200
 a53:=isAgg200
 z53:=sizeOf200
 v53:=zeroValue200
 t57:=underlying204
 a57:=isAgg204
 z57:=sizeOf204
 v57:=zeroValue204
 t63:=underlying222
 a63:=isAgg222
 z63:=sizeOf222
 v63:=zeroValue222
 t64:=underlying223
 a64:=isAgg223
 z64:=sizeOf223
 v64:=zeroValue223 }
def Zhb:Go.Shelf.Ren:=⟨fun | 43=>45 | n=>n,fun | 22=>29 | 23=>3 | 0=>0 | 3=>3 | 4=>4 | n=>n,fun | n=>n⟩
theorem Znx:Go.Proofs.SlLaysE.n43 prog Zhb:={
 mixed:=by kernel_rfl
 f43:=⟨f45.name,by decide,func45.trans (congrArg some (by kernel_rfl))⟩
 t0:=underlying0
 a0:=isAgg0
 z0:=sizeOf0
 v0:=zeroValue0
 t3:=underlying3
 a3:=isAgg3
 z3:=sizeOf3
 v3:=zeroValue3
 t4:=underlying4
 a4:=isAgg4
 z4:=sizeOf4
 v4:=zeroValue4
 t22:=underlying29
 a22:=isAgg29
 z22:=sizeOf29
 v22:=zeroValue29
 a23:=isAgg3
 z23:=sizeOf3 }
open Go.RowKit Go.Sort Go.Lib
def srt (ks:List Int):List Int:=ks.mergeSort fun x y=>decide (x≤y)
theorem ZgN (ks:List Int):(srt ks).Perm ks:=List.mergeSort_perm _ _
theorem Zea (ks:List Int):(srt ks).length=ks.length:=(ZgN ks).length_eq
theorem ZoM (ks:List Int){j:Nat}(aa:i<j)(hj:j<(srt ks).length):(srt ks)[i]'(by omega)≤(srt ks)[j]:=by
 have h:(srt ks).Pairwise (fun a b=>decide (a≤b)=true):=List.pairwise_mergeSort (fun a b c h1 h2=>by simp only [decide_eq_true_eq] at *;exact Int.le_trans h1 h2) (fun a b=>by simp only [Bool.or_eq_true,decide_eq_true_eq];exact Int.le_total a b) ks;have:=List.pairwise_iff_getElem.1 h i j (by omega) hj aa;simpa using this
theorem ZfL (d:List Int)(j:Nat)(h0:0<j)(hj:j<d.length):keeps d.toArray j=true↔d[j]≠d[j-1]'(by omega):=by
 unfold keeps;rw [decide_eq_true_eq,getElem!_pos d.toArray j (by simpa using hj),getElem!_pos d.toArray (j-1) (by simp;omega)];simp only [List.getElem_toArray];constructor
 · rintro (h | h)
   · omega
   · exact h
 · exact .inr
theorem ZeH (ks:List Int):decide ((compactUpTo (srt ks).toArray (srt ks).toArray.size).length<ks.length) = !decide ks.Nodup:=by
 (have ab:(srt ks).toArray.size=ks.length:=by simp [Zea]);rw [ab];by_cases aa:∀j,j<ks.length→keeps (srt ks).toArray j=true
 · have hn:ks.Nodup:=by
    rw [← (ZgN ks).nodup_iff];refine List.pairwise_iff_getElem.2 fun i j hi hj ac=>?_;have hk:=(ZfL (srt ks) j (by omega) hj).1 (aa j (by rw [← Zea];exact hj));have h2:=ZoM ks (i:=j-1) (j:=j) (by omega) hj;by_cases e:i=j-1
    · subst e;exact fun h=>hk h.symm
    · have h1:=ZoM ks (i:=i) (j:=j-1) (by omega) (by omega);intro h;omega
   rw [compactUpTo_all _ _ aa];simp [hn]
 · have hn:¬ks.Nodup:=by
    intro hn;apply aa;intro j hj;rcases Nat.eq_zero_or_pos j with rfl | h0
    · exact keeps_lt_one _ 0 (by omega)
    · rw [ZfL (srt ks) j h0 (by rw [Zea];exact hj)];have:=List.pairwise_iff_getElem.1 ((ZgN ks).nodup_iff.2 hn) (j-1) j (by rw [Zea];omega) (by rw [Zea];exact hj) (by omega);exact fun h=>this h.symm
   have hl:(compactUpTo (srt ks).toArray ks.length).length<ks.length:=by
    unfold compactUpTo;rw [List.length_map];have:((List.range ks.length).filter (keeps (srt ks).toArray)).length<(List.range ks.length).length:=by
     rw [List.length_filter_lt_length_iff_exists];have:∃j,¬(j<ks.length→keeps (srt ks).toArray j=true):=Classical.not_forall.1 aa;obtain⟨j,hj⟩:=this;rw [Classical.not_imp] at hj;exact⟨j,List.mem_range.2 hj.1,hj.2⟩
    simpa using this
   rw [decide_eq_true hl,decide_eq_false hn];rfl
theorem ZdZ {B:Nat}{os:Array Obj}(d:Array Int)(hg:B≤g)(hB:B≤w.heap.size):Below B w (grow (putRow (Value.int .i64) (Sort.ahead w n) g 0 d) os):=by
 refine⟨rfl,rfl,rfl,by simp,fun k hk=>?_⟩;rw [heap_grow_old _ _ (by simp;omega)];(have:g≠k:=by omega);simp [putRow,mapBlock,Sort.ahead,Array.getElem?_modify,this]
theorem Zks {cur:Array Value}{ks:List Int}(hg:w.heap[g]? = some (.cells cur e (0,0)))(ht:cur.toList.take ks.length=kVals ks):Holds (Value.int .i64) w g 0 ks.toArray:=by
 intro j hj;(have hj':j<ks.length:=by simpa using hj);refine⟨?_,frozen_of_row w g _ _ e hg⟩;rw [Nat.zero_add,cell_of_row _ _ _ _ _ _ hg,← Array.getElem?_toList];have:(cur.toList.take ks.length)[j]? = cur.toList[j]?:=List.getElem?_take_of_lt hj';rw [← this,ht,getElem!_pos ks.toArray j hj];simp [kVals,hj']
theorem Zht (v:Value)(ks:List Int)(w:World)(base:Nat)(hb:base≤w.heap.size)(h:OwnsV 3 w base v (kVals ks))(hl:ks.length≤1000) :
    Calls prog 78 #[v] w fun e w'=>e=.returned (.bool (!decide ks.Nodup))∧Below base w w':=by
  (have ae:(kVals ks).length=ks.length:=by simp [kVals]);rcases h.2 with ⟨rfl,h0⟩ | ⟨g,cap,cur,rfl,hg,hh,aj,ao,ap,ht⟩
  · rw [ae] at h0;have:ks=[]:=List.eq_nil_of_length_eq_zero h0;subst this;have HS:=Zh (Go.Proofs.AnyM.slices_Sort_int_none Zrk none 0 w);have HW:=Zh (Below.refl base w);have HC:Hi (Calls prog 45 #[.slice none 0 0] w fun e w'=>e=.returned (.slice none 0 0)∧w'=w):=by
     clear h hb hl ae h0 HS HW;go_enter func45,ntmps45;go_wp2;go_ret;exact⟨rfl,rfl⟩
    change Hi (Calls prog 44 _ _ _) at HS;rw [show (!decide ([]:List Int).Nodup)=false by decide];clear h hb hl ae h0;go_enter func78,ntmps78;go_wp2_with fail;refine HS.o.mono ?_;rintro e w' ⟨rfl,hw⟩;obtain rfl:=hw.symm;go_wp2_with fail;refine HC.o.mono ?_;rintro e w' ⟨rfl,hw⟩;obtain rfl:=hw.symm;go_wp2;go_ret;exact⟨rfl,HW.o⟩
  · rw [ae] at aj ht ⊢;rw [Nat.mul_one] at ht;have hH:=Zks hh ht;have ai:g<w.heap.size:=(Array.getElem?_eq_some_iff.1 hh).1;have HS:=Zh (Go.Proofs.AnyM.slices_Sort_int Zrk g 0 cap ks w hH ai (by omega));change Hi (Calls prog 44 _ _ _) at HS;have HC:Hi (∀W,Holds (Value.int .i64) W g 0 (srt ks).toArray→base≤W.heap.size→Calls prog 45 #[.slice (some ⟨g,0,none⟩) ks.length cap] W fun e w'=>e=.returned (.slice (some ⟨g,0,none⟩) (compactUpTo (srt ks).toArray (srt ks).toArray.size).length cap)∧Below base W w'):=by
     intro W hW an;(have ak:(srt ks).toArray.size=ks.length:=by simp [Zea]);have hc:=Go.Proofs.AnyE.slices_Compact Znx (Value.int .i64) (fun _=>rfl) (EqlAt.intD _ _ .i64) (NeqAt.intD _ _ .i64) 0 zeroValue3 g 0 cap (srt ks).toArray W hW (by rw [ak];omega) (by rw [ak];exact aj);change Calls prog 45 _ _ _ at hc;rw [ak] at hc ⊢;refine hc.mono ?_;rintro e w' ⟨rfl,q,rfl⟩;refine⟨rfl,?_⟩;have:=ZdZ (n:=q) (os:=#[]) (compactUpTo (srt ks).toArray ks.length ++ List.replicate (ks.length-(compactUpTo (srt ks).toArray ks.length).length) 0).toArray hg an;rwa [grow_empty] at this
    have HH:=Zh hH;have HG:=Zh hg;have al:=Zh ai;have HB:=Zh hb;have am:=Zh (ZeH ks);rw [← ZeH ks];generalize (compactUpTo (srt ks).toArray (srt ks).toArray.size).length=m at *;clear h ae hg hh aj ao ap ht hH ai hb am;by_cases hm:m<ks.length
    · rw [decide_eq_true hm];go_enter func78,ntmps78;go_wp2_with fail;refine HS.o.mono ?_;rintro e w1 ⟨rfl,n,os,ab⟩;(have aa:Below base w w1:=by rw [ab];exact ZdZ _ HG.o HB.o);have ac:Holds (Value.int .i64) w1 g 0 (srt ks).toArray:=by
       rw [ab];exact holds_grow _ _ _ _ _ _ (by simpa using al.o) (holds_putRow _ _ _ _ ks.toArray _ (holds_ahead _ _ _ _ _ _ HH.o) (by simp))
      have af:=Zh (HC.o w1 ac (Nat.le_trans HB.o aa.size));have ag:=Zh aa;clear ab aa ac HS HC;go_wp2_with fail;refine af.o.mono ?_;rintro e w2 ⟨rfl,ad⟩;have ah:=Zh (ag.o.trans ad);clear ad;go_wp2;go_ret;exact⟨rfl,ah.o⟩
    · rw [decide_eq_false hm];go_enter func78,ntmps78;go_wp2_with fail;refine HS.o.mono ?_;rintro e w1 ⟨rfl,n,os,ab⟩;(have aa:Below base w w1:=by rw [ab];exact ZdZ _ HG.o HB.o);have ac:Holds (Value.int .i64) w1 g 0 (srt ks).toArray:=by
       rw [ab];exact holds_grow _ _ _ _ _ _ (by simpa using al.o) (holds_putRow _ _ _ _ ks.toArray _ (holds_ahead _ _ _ _ _ _ HH.o) (by simp))
      have af:=Zh (HC.o w1 ac (Nat.le_trans HB.o aa.size));have ag:=Zh aa;clear ab aa ac HS HC;go_wp2_with fail;refine af.o.mono ?_;rintro e w2 ⟨rfl,ad⟩;have ah:=Zh (ag.o.trans ad);clear ad;go_wp2;go_ret;exact⟨rfl,ah.o⟩
theorem Zhw (a b:List Int):kVals (a ++ b)=kVals a ++ kVals b:=by simp [kVals]
theorem ZlS (a:List Int):(kVals a).length=a.length:=by simp [kVals]
theorem ZkC (l:List Un)(k:Nat):(nosU (l.take k)).length≤k:=Nat.le_trans (Zj1 _) (by rw [List.length_take];omega)
theorem ZfI (a:Option Addr)(n cap:Nat)(l:List Ux)(w:World)(h:Us w a n l)(ci:n≤1000000) :
    Calls prog 34 #[.slice a n cap] w fun e w'=>e=.returned (.int .i64 (chk (MayU (uns l))))∧Bl w w':=by
  (have aw:(uns l).length=n:=by rw [Zba,h.len]);have H0:=Zh (Below.refl w.heap.size w);have aa:=ZqB (l:=uns l);rw [aw] at aa;by_cases h6:n<6
  · (have h6':(n:Int)<6:=by omega);rw [aa (by unfold lenU;simp;omega)];clear h aw aa h6;go_enter func34,ntmps34;go_wp2;go_ret;exact⟨rfl,H0.o⟩
  by_cases aj:378<n
  · (have h6':¬(n:Int)<6:=by omega);(have bb:(378:Int)<(n:Int):=by omega);rw [aa (by unfold lenU;simp;omega)];clear h aw aa h6 aj;go_enter func34,ntmps34;go_wp2;go_ret;exact⟨rfl,H0.o⟩
  (have h6':¬(n:Int)<6:=by omega);(have bb:¬(378:Int)<(n:Int):=by omega);(have ck:(n:Int).tmod 6=((n % 6:Nat):Int):=by rw [Int.ofNat_tmod];rfl);by_cases hm:n % 6=0;rotate_left
  · have hm':((((n % 6:Nat):Int)) == 0)=false:=beq_eq_false_iff_ne.2 (by omega);rw [aa (by unfold lenU;simp;omega)];clear h aw aa h6 aj;go_enter func34,ntmps34;go_wp2;go_ret;exact⟨rfl,H0.o⟩
  rw [hm] at ck;have ce:Hi (lenU (uns l).length=true):=(ZgB _).2 (by omega);have ay:=Zh aw;have HE:=Zh h;have cl:=Zh h.len;(have bu:n≤378:=by omega);have cf:Hi (OwnsV 3 w w.heap.size (.slice none 0 0) (kVals (nosU ((uns l).take 0)))):=OwnsV.nil _ _ _;clear h aw aa h6 aj hm;go_enter func34,ntmps34;go_wp2_with fail;go_loopw [3,23] (fun v iv wr=>∃i:Nat,i≤n∧iv=.int .i64 (i:Nat)∧Hi (OwnsV 3 wr w.heap.size v (kVals (nosU ((uns l).take i))))∧Hi (∀j,j<i→okU ((uns l).getD j zeroU)=true)∧Hi (Bl w wr)) (fun _ iv _=>n-(intOf iv).toNat)
  case atStart=>exact ⟨0,Nat.zero_le _,rfl,cf,(fun j hj=>absurd hj (Nat.not_lt_zero _)),H0⟩
  case round =>
   obtain⟨i,hi,rfl,bj,av,ar⟩:=hrel;rcases Nat.lt_or_ge i n with bi | cm
   · (have i1:(i:Int)<(n:Int):=by omega);have hr:=HE.o.keep ar.o (Nat.le_refl _);obtain⟨b1,off,rfl,bs⟩:=hr.at' i bi;have an:=hr.mem bi;have am:=hr.cols _ an;have bc:=hr.fits _ an;have bz:(uns l).getD i zeroU=(l.getD i Ux.zero).u:=ZaQ l i;generalize l.getD i Ux.zero=y at *;have bl:=Zh (ZaE b1 (off+i*12) y _ bs);obtain⟨W2,bw,al,ac⟩:=Zje _ y;have bq:=Zh bw;have be:=Zh (Zcu _ y.u (.slice y.a y.n y.c) ⟨_,_,_,rfl⟩ W2 al);have aq:=Zh (ZeQ y.u y.a y.n y.c W2 (am.keep ac (Nat.le_refl _)));have br:=Zh al;have ax:=Zh (am.keep ac (Nat.le_refl _));have cc:=Zh bc;have ah:=Zh (bj.o.keep ac (Nat.le_refl _));have ai:=Zh (Zad ar.o ac);have bg:=Zh (Zmh (l:=uns l) (k:=i) (by rw [ay.o];exact bi));have ba:=Zh bz;have ad:y.u.val (.slice y.a y.n y.c)=y.val:=rfl;rw [ad] at aq be;clear bs an am bc bw al ac hr bj ar bz ad;cases he:y.u.emp with
     | true =>
      rw [he] at aq;have bn:Hi (∀j,j<i+1→okU ((uns l).getD j zeroU)=true):=fun j hj=>by
       by_cases e:j=i
       · rw [e,ba.o,okU,he];rfl
       · exact av.o j (by omega)
      have ag:Hi (nosU ((uns l).take (i+1))=nosU ((uns l).take i)):=by
       show _=_;rw [bg.o,ba.o,he];simp
      clear he av bg;go_wp2_with (first | refine Zah _ rfl 65 (.tmp 25) rfl (.pointer (some ⟨b1,off+i*12,none⟩)) y.val rfl bl.o ?_ | refine Zac _ rfl rfl 65 (.tmp 5) (.tmp 26) rfl (.pointer (some ⟨_,0,none⟩)) y.val rfl rfl W2 bq.o ?_ | refine Zah _ rfl 65 (.tmp 5) rfl (.pointer (some ⟨_,0,none⟩)) y.val rfl be.o ?_);refine aq.o.mono ?_;rintro e w3 ⟨rfl,ae⟩;have bh:=Zh (Zad ai.o ae);have ab:=ah.o.keep ae (Nat.le_refl _);rw [← ag.o] at ab;replace ab:=Zh ab;clear ae;go_wp2;go_roundw;exact ⟨i+1,by omega,by go_num,ab,bn,bh⟩;simp only [intOf];omega
     | false =>
      rw [he] at aq;have ag:Hi (nosU ((uns l).take (i+1))=nosU ((uns l).take i) ++ [y.u.no]):=by
       show _=_;rw [bg.o,ba.o,he];simp
      have cb:=Zh he;clear he bg;go_wp2_with (first | refine Zah _ rfl 65 (.tmp 25) rfl (.pointer (some ⟨b1,off+i*12,none⟩)) y.val rfl bl.o ?_ | refine Zac _ rfl rfl 65 (.tmp 5) (.tmp 26) rfl (.pointer (some ⟨_,0,none⟩)) y.val rfl rfl W2 bq.o ?_ | refine Zah _ rfl 65 (.tmp 5) rfl (.pointer (some ⟨_,0,none⟩)) y.val rfl be.o ?_);refine aq.o.mono ?_;rintro e w3 ⟨rfl,ae⟩;have bh:=Zh (Zad ai.o ae);have ab:=Zh (ah.o.keep ae (Nat.le_refl _));have af:=Zh (br.o.keep ae);have bf:=Zh (Zcu _ y.u (.slice y.a y.n y.c) ⟨_,_,_,rfl⟩ w3 af.o);have ap:=Zh (ZjY y.u y.a y.n y.c w3 (ax.o.keep ae (Nat.le_refl _)) cc.o.row);have ad:y.u.val (.slice y.a y.n y.c)=y.val:=rfl;rw [ad] at bf ap;clear ae ad be bl bq aq ah br ax ai;cases hmy:y.u.may with
      | false =>
       rw [hmy] at ap;have HN:Hi (MayU (uns l)=false):=ZqP (i:=i) (by rw [ay.o];exact bi) (by rw [ba.o,okU,cb.o,hmy];rfl);clear hmy;go_wp2_with (refine Zah _ rfl 65 (.tmp 5) rfl (.pointer (some ⟨_,0,none⟩)) y.val rfl bf.o ?_);refine ap.o.mono ?_;rintro e w4 ⟨rfl,ak⟩;have az:=Zh (Zad bh.o ak);clear ak;simp only [chk];go_wp2;go_ret;exact⟨by rw [HN.o];rfl,az.o⟩
      | true =>
       rw [hmy] at ap;have bn:Hi (∀j,j<i+1→okU ((uns l).getD j zeroU)=true):=fun j hj=>by
        by_cases e:j=i
        · rw [e,ba.o,okU,hmy];simp
        · exact av.o j (by omega)
       clear hmy av;go_wp2_with (refine Zah _ rfl 65 (.tmp 5) rfl (.pointer (some ⟨_,0,none⟩)) y.val rfl bf.o ?_);refine ap.o.mono ?_;rintro e w4 ⟨rfl,ak⟩;have az:=Zh (Zad bh.o ak);have x1:=(af.o.keep ak).c1;have bk:=Zh (Zab w4 (.cells #[.int .i64 y.u.no] 3));have bo:=Zh ((ab.o.keep ak (Nat.le_refl _)).keep bk.o (Nat.le_refl _));have cg:=Zh (ZhX 3 w4 (.int .i64 y.u.no) rfl);(have cd:Hi ((kVals (nosU ((uns l).take i))).length+1≤1000000):=by show _≤_;rw [ZlS];have:=ZkC (uns l) i;omega);have ca:Hi (w.heap.size≤(w4.alloc (.cells #[.int .i64 y.u.no] 3)).heap.size):=Nat.le_trans az.o.size bk.o.size;clear ak ab af ap bf;simp only [chk];go_wp2_with (at_builtin;refine ZaK Zj6 _ rfl (.tmp 34) (.tmp 37) rfl w.heap.size _ (kVals (nosU ((uns l).take i))) rfl bo.o _ _ _ [.int .i64 y.u.no] rfl cg.o (fun h=>by cases h) cd.o ca.o ?_);intro v5 w5 bv bt _;have bp:Hi (OwnsV 3 w5 w.heap.size v5 (kVals (nosU ((uns l).take (i+1))))):=by
        show OwnsV _ _ _ _ _;rw [ag.o,Zhw];exact bv
       have ch:=Zh ((az.o.trans (bk.o.mono az.o.size)).trans bt);clear bv bt;go_wp2;go_roundw;exact ⟨i+1,by omega,by go_num,bp,bn,ch⟩;simp only [intOf];omega
   · (have i1:¬(i:Int)<(n:Int):=by omega);(have cj:i=n:=by omega);have bx:(uns l).take i=uns l:=List.take_of_length_le (by rw [ay.o];omega);have ao:=bj.o;rw [bx] at ao;have bd:=Zh (Zht _ (nosU (uns l)) _ w.heap.size ar.o.size ao (by have:=Zj1 (uns l);rw [ay.o] at this;omega));have au:=Zpx ce.o (fun j hj=>av.o j (by rw [ay.o] at hj;omega));clear bj ao bx av cj;cases hnd:decide (nosU (uns l)).Nodup with
     | true =>
      rw [hnd] at au bd;have bm:=Zh au;clear au hnd;go_wp2_with fail;refine bd.o.mono ?_;rintro e w2 ⟨rfl,ac⟩;have ai:=Zh (ar.o.trans ac);clear ac;go_wp2;go_ret;exact⟨by rw [bm.o];rfl,ai.o⟩
     | false =>
      rw [hnd] at au bd;have bm:=Zh au;clear au hnd;go_wp2_with fail;refine bd.o.mono ?_;rintro e w2 ⟨rfl,ac⟩;have ai:=Zh (ar.o.trans ac);clear ac;go_wp2;go_ret;exact⟨by rw [bm.o];rfl,ai.o⟩
def RowU (w:World) (s:Sl) (L:List Un):Prop:=∃l,Us w s.a s.len l∧uns l=L
theorem Un.may_cols (h:u.may=true):u.row.xs.length≤4:=by
 have hu:undoB u.kind u.row=true:=by
  unfold Un.may at h;simp only [Bool.and_eq_true] at h;exact h.2
 unfold undoB at hu;split at hu
 · rw [Rw.same_eq hu];decide
 · split at hu
   · unfold Rw.may haveB at hu;simp only [Bool.and_eq_true,decide_eq_true_eq] at hu;exact hu.1.1.2.1.1
   · cases hu
theorem MayP.cols (h:MayP l):∀u∈l,u.row.xs.length≤1000:=by
 intro u hu;obtain⟨i,hi,rfl⟩:=List.getElem_of_mem hu;have:=h.ok i hi;rw [unget hi,okU,Bool.or_eq_true] at this;rcases this with e | e
 · rw [(Un.emp_iff _).1 e];decide
 · have:=Un.may_cols e;omega
theorem ZnB (a:Option Addr)(n cap:Nat)(l:List Ux)(w:World)(h:Us w a n l)(au:n≤1000000)(c m:Int) :
    Calls prog 70 #[.slice a n cap,.agg #[.int .i64 c,.int .i64 m]] w fun e w'=>∃x:Ux,e=.returned (.tuple #[x.val,.bool (if MayU (uns l)=true then getU (uns l) c m else (zeroU,false)).2])∧x.u=(if MayU (uns l)=true then getU (uns l) c m else (zeroU,false)).1∧(∀w0,Col w0 w' x)∧Bl w w':=by
  have HA:=Zh (ZaC w (.cells #[.int .i64 c,.int .i64 m] 37) (.cells #[.int .i64 0,.int .i64 0,.int .i64 0,.int .i64 0,.int .i64 0,.int .i64 0,.float .f64 0,.bool false,.slice none 0 0,.int .i64 0,.int .i64 0,.int .i64 0] 65));have bj:=Zbj (w.alloc (.cells #[.int .i64 c,.int .i64 m] 37)) zeroU (.slice none 0 0);rw [show (w.alloc (.cells #[.int .i64 c,.int .i64 m] 37)).heap.size=w.heap.size+1 by simp] at bj;have ay:Hi (UnBlk ((w.alloc (.cells #[.int .i64 c,.int .i64 m] 37)).alloc (.cells #[.int .i64 0,.int .i64 0,.int .i64 0,.int .i64 0,.int .i64 0,.int .i64 0,.float .f64 0,.bool false,.slice none 0 0,.int .i64 0,.int .i64 0,.int .i64 0] 65)) (w.heap.size+1) zeroU (.slice none 0 0)):=bj;have ak:Hi (((w.alloc (.cells #[.int .i64 c,.int .i64 m] 37)).alloc (.cells #[.int .i64 0,.int .i64 0,.int .i64 0,.int .i64 0,.int .i64 0,.int .i64 0,.float .f64 0,.bool false,.slice none 0 0,.int .i64 0,.int .i64 0,.int .i64 0] 65)).heap[w.heap.size]? = some (.cells #[.int .i64 c,.int .i64 m] 37)):=by
   show _=_;have h1:=heap_alloc_new w (.cells #[.int .i64 c,.int .i64 m] 37);have h2:=(Zab (w.alloc (.cells #[.int .i64 c,.int .i64 m] 37)) (.cells #[.int .i64 0,.int .i64 0,.int .i64 0,.int .i64 0,.int .i64 0,.int .i64 0,.float .f64 0,.bool false,.slice none 0 0,.int .i64 0,.int .i64 0,.int .i64 0] 65)).block w.heap.size (by simp);exact h2.trans h1
  have ap:Hi (∀w',Bl w w'→Calls prog 34 #[.slice a n cap] w' fun e w''=>e=.returned (.int .i64 (chk (MayU (uns l))))∧Bl w' w''):=fun w' hb=>ZfI a n cap l w' (h.keep hb (Nat.le_refl _)) au;have aq:Hi (∀w',Bl w w'→Calls prog 112 #[.slice a n cap,.int .i64 c] w' fun e w''=>e=.returned (.bool (!(atU (uns l) c).emp))∧Bl w' w''):=fun w' hb=>Zkv w' a n cap l (h.keep hb (Nat.le_refl _)) au c;(have bo:Hi ((uns l).length=n):=by show _=_;rw [Zba,h.len]);have HE:=Zh h;clear h bj;cases hm:MayU (uns l) with
  | false =>
   rw [hm] at ap;rw [if_neg (by decide)];simp only;clear hm aq;go_enter func70,ntmps70;go_wp2_with fail;refine(ap.o _ HA.o).mono ?_;rintro e w1 ⟨rfl,ab⟩;have aj:=Zh (Zad HA.o ab);have ae:=Zh (ay.o.keep ab);have aw:=Zh (ZaX ae.o zeroU none 0 0);have ad:=(ab.block w.heap.size (Array.getElem?_eq_some_iff.1 ak.o).1).trans ak.o;(have r0:w1.cell? ⟨w.heap.size,0,none⟩=some (.int .i64 c):=by rw [cell_of_row _ _ _ _ _ _ ad];rfl);(have r1:w1.cell? ⟨w.heap.size,1,none⟩=some (.int .i64 m):=by rw [cell_of_row _ _ _ _ _ _ ad];rfl);clear ab ad;simp only [chk];go_wp2_with (refine Zac _ rfl rfl 65 (.tmp 4) (.tmp 17) rfl (.pointer (some ⟨w.heap.size+1,0,none⟩)) (zeroU.val (.slice none 0 0)) rfl rfl _ aw.o ?_);refine ZgO rfl ae.o zeroU (.slice none 0 0) (.bool false) ⟨_,_,_,rfl⟩ (by rfl) (by rfl) (by rfl) ?_;exact⟨Ux.zero,rfl,rfl,(fun _=>Col.zero _ _),ZaZ aj.o (Nat.le_succ _) _ _⟩
  | true =>
   have hP:=(Zcd _).1 hm;rw [hm] at ap;rw [if_pos rfl];clear hm;cases hem:(atU (uns l) c).emp with
   | true =>
    (have hg:getU (uns l) c m=(zeroU,false):=by unfold getU;rw [if_pos (.inl hem)]);rw [hg];simp only;rw [hem] at aq;clear hg hem hP;go_enter func70,ntmps70;go_wp2_with fail;refine(ap.o _ HA.o).mono ?_;rintro e w1 ⟨rfl,ab⟩;have aj:=Zh (Zad HA.o ab);have ae:=Zh (ay.o.keep ab);have aw:=Zh (ZaX ae.o zeroU none 0 0);have ad:=(ab.block w.heap.size (Array.getElem?_eq_some_iff.1 ak.o).1).trans ak.o;(have r0:w1.cell? ⟨w.heap.size,0,none⟩=some (.int .i64 c):=by rw [cell_of_row _ _ _ _ _ _ ad];rfl);(have r1:w1.cell? ⟨w.heap.size,1,none⟩=some (.int .i64 m):=by rw [cell_of_row _ _ _ _ _ _ ad];rfl);clear ab ad;simp only [chk];go_wp2_with fail;refine(aq.o _ aj.o).mono ?_;rintro e w2 ⟨rfl,ac⟩;have ao:=Zh (Zad aj.o ac);have al:=Zh (ae.o.keep ac);have an:=Zh (ZaX al.o zeroU none 0 0);have s0:=(ac.cell (p:=⟨w.heap.size,0,none⟩) (World.block_lt_of_cell? _ _ r0)).trans r0;have s1:=(ac.cell (p:=⟨w.heap.size,1,none⟩) (World.block_lt_of_cell? _ _ r1)).trans r1;clear ac r0 r1;go_wp2_with (refine Zac _ rfl rfl 65 (.tmp 4) (.tmp 17) rfl (.pointer (some ⟨w.heap.size+1,0,none⟩)) (zeroU.val (.slice none 0 0)) rfl rfl _ an.o ?_);refine ZgO rfl al.o zeroU (.slice none 0 0) (.bool false) ⟨_,_,_,rfl⟩ (by rfl) (by rfl) (by rfl) ?_;exact⟨Ux.zero,rfl,rfl,(fun _=>Col.zero _ _),ZaZ ao.o (Nat.le_succ _) _ _⟩
   | false =>
    have hc:=Zgr hem;rw [bo.o] at hc;rw [hem] at aq;have bm:=Zh hem;have br:=Zh hP.cols;clear hP hem;obtain⟨k,rfl⟩:∃k:Nat,c=(k:Int)+1:=⟨(c-1).toNat,by omega⟩;(have hk:k<n:=by omega);(have bf:atU (uns l) ((k:Int)+1)=(l.getD k Ux.zero).u:=by rw [Zlo _ (by rw [bo.o];exact hk),ZaQ]);rw [bf] at bm;have bp:getU (uns l) ((k:Int)+1) m=if (l.getD k Ux.zero).u.no≠m then (zeroU,false) else ((l.getD k Ux.zero).u,true):=by
     unfold getU;rw [bf,bm.o];simp
    rw [bp];have am:=Zh (HE.o.mem hk);have bk:=Zh (HE.o.at' k hk);(have bw:(k:Int)<(n:Int):=by omega);clear bf bp hc;generalize l.getD k Ux.zero=y at *;have bl:Hi (y.n≤1000):=by
     have h1:=br.o y.u (List.mem_map.2 ⟨y,am.o,rfl⟩);have h2:=(HE.o.cols _ am.o).len;show _≤_;omega
    by_cases ar:y.u.no=m
    · rw [if_neg (by simpa using ar)];simp only;go_enter func70,ntmps70;go_wp2_with fail;refine(ap.o _ HA.o).mono ?_;rintro e w1 ⟨rfl,ab⟩;have aj:=Zh (Zad HA.o ab);have ae:=Zh (ay.o.keep ab);have aw:=Zh (ZaX ae.o zeroU none 0 0);have ad:=(ab.block w.heap.size (Array.getElem?_eq_some_iff.1 ak.o).1).trans ak.o;(have r0:w1.cell? ⟨w.heap.size,0,none⟩=some (.int .i64 ((k:Int)+1)):=by rw [cell_of_row _ _ _ _ _ _ ad];rfl);(have r1:w1.cell? ⟨w.heap.size,1,none⟩=some (.int .i64 m):=by rw [cell_of_row _ _ _ _ _ _ ad];rfl);clear ab ad;simp only [chk];go_wp2_with fail;refine(aq.o _ aj.o).mono ?_;rintro e w2 ⟨rfl,ac⟩;have ao:=Zh (Zad aj.o ac);have al:=Zh (ae.o.keep ac);have an:=Zh (ZaX al.o zeroU none 0 0);have s0:=(ac.cell (p:=⟨w.heap.size,0,none⟩) (World.block_lt_of_cell? _ _ r0)).trans r0;have s1:=(ac.cell (p:=⟨w.heap.size,1,none⟩) (World.block_lt_of_cell? _ _ r1)).trans r1;clear ac r0 r1;obtain⟨b1,off,rfl,af⟩:=bk.o;have bb:=Zh (ZaE b1 (off+k*12) y w2 (af.keep ao.o (Nat.le_refl _)));obtain⟨W3,ah,aa,ag⟩:=Zje w2 y;have bc:=Zh ah;have ax:=Zh (Zad ao.o ag);have az:=Zh (al.o.keep ag);have av:=Zh (Zcu _ y.u (.slice y.a y.n y.c) ⟨_,_,_,rfl⟩ W3 aa);have y1:=aa.c1;have u0:=(ag.cell (p:=⟨w.heap.size,0,none⟩) (World.block_lt_of_cell? _ _ s0)).trans s0;have u1:=(ag.cell (p:=⟨w.heap.size,1,none⟩) (World.block_lt_of_cell? _ _ s1)).trans s1;have ai:y.u.val (.slice y.a y.n y.c)=y.val:=rfl;rw [ai] at av;clear af ah aa ag ai;(have bi:(y.u.no == m)=true:=by simp [ar]);clear ar;have bu:=Zh (Zod y W3 ((HE.o.cols _ am.o).keep ax.o (Nat.le_refl _)) bl.o);go_wp2_with (first | refine Zah _ rfl 65 (.tmp 22) rfl (.pointer (some ⟨b1,off+k*12,none⟩)) y.val rfl bb.o ?_ | refine Zac _ rfl rfl 65 (.tmp 6) (.tmp 23) rfl (.pointer (some ⟨w2.heap.size,0,none⟩)) y.val rfl rfl W3 bc.o ?_ | refine Zah _ rfl 65 (.tmp 6) rfl (.pointer (some ⟨w2.heap.size,0,none⟩)) y.val rfl av.o ?_);refine bu.o.mono ?_;rintro e w4 ⟨a4,c4,rfl,bq,bh,bg⟩;have ba:=Zh (az.o.keep bg);have bd:=Zh (ZaX ba.o y.u a4 y.n c4);have bn:=Zh bq;have bt:=Zh bh.fit;have bs:=Zh bh.len;have bv:=Zh (Zad ax.o bg);clear bq bh bg;go_wp2_with (refine Zac _ rfl rfl 65 (.tmp 4) (.tmp 31) rfl (.pointer (some ⟨w.heap.size+1,0,none⟩)) (y.u.val (.slice a4 y.n c4)) rfl rfl _ bd.o ?_);refine ZgO rfl ba.o y.u (.slice a4 y.n c4) (.bool true) ⟨_,_,_,rfl⟩ (by rfl) (by rfl) (by rfl) ?_;refine⟨⟨y.u,a4,y.n,c4⟩,rfl,rfl,?_,ZaZ bv.o (Nat.le_succ _) _ _⟩;exact fun _=>Col.owns (bn.o.stay (ZeA ba.o (Zd8 _ _ _ _)) (by decide)) ((bn.o.stay (ZeA ba.o (Zd8 _ _ _ _)) (by decide)).fsAt bt.o (by rw [bs.o];have:=bl.o;omega))
    · rw [if_pos (by simpa using ar)];simp only;go_enter func70,ntmps70;go_wp2_with fail;refine(ap.o _ HA.o).mono ?_;rintro e w1 ⟨rfl,ab⟩;have aj:=Zh (Zad HA.o ab);have ae:=Zh (ay.o.keep ab);have aw:=Zh (ZaX ae.o zeroU none 0 0);have ad:=(ab.block w.heap.size (Array.getElem?_eq_some_iff.1 ak.o).1).trans ak.o;(have r0:w1.cell? ⟨w.heap.size,0,none⟩=some (.int .i64 ((k:Int)+1)):=by rw [cell_of_row _ _ _ _ _ _ ad];rfl);(have r1:w1.cell? ⟨w.heap.size,1,none⟩=some (.int .i64 m):=by rw [cell_of_row _ _ _ _ _ _ ad];rfl);clear ab ad;simp only [chk];go_wp2_with fail;refine(aq.o _ aj.o).mono ?_;rintro e w2 ⟨rfl,ac⟩;have ao:=Zh (Zad aj.o ac);have al:=Zh (ae.o.keep ac);have an:=Zh (ZaX al.o zeroU none 0 0);have s0:=(ac.cell (p:=⟨w.heap.size,0,none⟩) (World.block_lt_of_cell? _ _ r0)).trans r0;have s1:=(ac.cell (p:=⟨w.heap.size,1,none⟩) (World.block_lt_of_cell? _ _ r1)).trans r1;clear ac r0 r1;obtain⟨b1,off,rfl,af⟩:=bk.o;have bb:=Zh (ZaE b1 (off+k*12) y w2 (af.keep ao.o (Nat.le_refl _)));obtain⟨W3,ah,aa,ag⟩:=Zje w2 y;have bc:=Zh ah;have ax:=Zh (Zad ao.o ag);have az:=Zh (al.o.keep ag);have av:=Zh (Zcu _ y.u (.slice y.a y.n y.c) ⟨_,_,_,rfl⟩ W3 aa);have y1:=aa.c1;have u0:=(ag.cell (p:=⟨w.heap.size,0,none⟩) (World.block_lt_of_cell? _ _ s0)).trans s0;have u1:=(ag.cell (p:=⟨w.heap.size,1,none⟩) (World.block_lt_of_cell? _ _ s1)).trans s1;have ai:y.u.val (.slice y.a y.n y.c)=y.val:=rfl;rw [ai] at av;clear af ah aa ag ai;have bi:(y.u.no == m)=false:=beq_eq_false_iff_ne.2 ar;have be:=Zh (ZaX az.o zeroU none 0 0);clear ar;go_wp2_with (first | refine Zah _ rfl 65 (.tmp 22) rfl (.pointer (some ⟨b1,off+k*12,none⟩)) y.val rfl bb.o ?_ | refine Zac _ rfl rfl 65 (.tmp 6) (.tmp 23) rfl (.pointer (some ⟨w2.heap.size,0,none⟩)) y.val rfl rfl W3 bc.o ?_ | refine Zac _ rfl rfl 65 (.tmp 4) (.tmp 29) rfl (.pointer (some ⟨w.heap.size+1,0,none⟩)) (zeroU.val (.slice none 0 0)) rfl rfl _ be.o ?_);refine ZgO rfl az.o zeroU (.slice none 0 0) (.bool false) ⟨_,_,_,rfl⟩ (by rfl) (by rfl) (by rfl) ?_;exact⟨Ux.zero,rfl,rfl,(fun _=>Col.zero _ _),ZaZ ax.o (Nat.le_succ _) _ _⟩
end Go.Proofs.YtiecfcjlhldhdaaGreat
