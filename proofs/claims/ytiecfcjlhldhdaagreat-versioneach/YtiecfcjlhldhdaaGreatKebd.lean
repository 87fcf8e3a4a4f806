/-
  Lemmas.
-/
import Derived.Test.YtiecfcjlhldhdaaGreatKebc
import Derived.Test.YtiecfcjlhldhdaaGreatKeap
import Derived.Test.YtiecfcjlhldhdaaGreatKebb
import Derived.Test.YtiecfcjlhldhdaaGreatKeas
namespace Go.Proofs.YtiecfcjlhldhdaaGreat
open Go.RowKit
set_option linter.unusedVariables false
set_option linter.unusedSimpArgs false
set_option maxRecDepth 100000
set_option maxHeartbeats 4000000
variable {w w0 w':World}{l u:List Un}{s:Sl}{v:Vw}{i p g off:Nat}{t:List Int}{r:Rw}{c:Int}
theorem Own.setC {e:TypeId}{z:Nat}{vs:List Value}(h:Own e z w s vs)(ha:s.a=some ⟨g,off,none⟩)(j:Nat)(u:Value):Own e z (w.setCell ⟨g,off+j,none⟩ u) s (vs.set j u):=by
 refine⟨by rw [List.length_set];exact h.1,?_⟩;rcases h.2 with ⟨h0,_⟩ | ⟨g',off',cur,ha',hg,ac,ab,aa,ht⟩
 · rw [h0] at ha;cases ha
 · rw [ha] at ha';simp only [Option.some.injEq,Addr.mk.injEq,and_true] at ha';obtain⟨rfl,rfl⟩:=ha';refine .inr ⟨g,off,_,ha,heap_setCell_same w g (off+j) cur e u hg,by simpa using ac,ab,aa,?_⟩;rw [Array.toList_setIfInBounds,List.drop_set,if_neg (by omega),Nat.add_sub_cancel_left,List.take_set,ht]
def setAt (w:World) (g o:Nat) (x:Ux):World:=(((((((((((w.setCell ⟨g,o,none⟩ (.int .i64 x.u.tx)).setCell ⟨g,o+1,none⟩ (.int .i64 x.u.no)).setCell ⟨g,o+2,none⟩ (.int .i64 x.u.prev)).setCell ⟨g,o+3,none⟩ (.int .i64 x.u.kind)).setCell ⟨g,o+4,none⟩ (.int .i64 x.u.page)).setCell ⟨g,o+5,none⟩ (.int .i64 x.u.slot)).setCell ⟨g,o+6,none⟩ (.float .f64 x.u.row.key)).setCell ⟨g,o+7,none⟩ (.bool x.u.row.dead)).setCell ⟨g,o+8,none⟩ (.slice x.a x.n x.c)).setCell ⟨g,o+9,none⟩ (.int .i64 x.u.row.wr)).setCell ⟨g,o+10,none⟩ (.int .i64 x.u.row.cell)).setCell ⟨g,o+11,none⟩ (.int .i64 x.u.row.no)
theorem ZmC (w:World)(g o:Nat)(x:Ux):Frm (fun k=>k=g) w (setAt w g o x):=
 ((((((((((((Frm.refl (fun k=>k=g) w).setCell (p:=⟨g,o,none⟩) rfl _).setCell (p:=⟨g,o+1,none⟩) rfl _).setCell (p:=⟨g,o+2,none⟩) rfl _).setCell (p:=⟨g,o+3,none⟩) rfl _).setCell (p:=⟨g,o+4,none⟩) rfl _).setCell (p:=⟨g,o+5,none⟩) rfl _).setCell (p:=⟨g,o+6,none⟩) rfl _).setCell (p:=⟨g,o+7,none⟩) rfl _).setCell (p:=⟨g,o+8,none⟩) rfl _).setCell (p:=⟨g,o+9,none⟩) rfl _).setCell (p:=⟨g,o+10,none⟩) rfl _).setCell (p:=⟨g,o+11,none⟩) rfl _
def Zel (vs:List Value) (p:Nat) (x:Ux):List Value:=(((((((((((vs.set (p) (.int .i64 x.u.tx)).set (p+1) (.int .i64 x.u.no)).set (p+2) (.int .i64 x.u.prev)).set (p+3) (.int .i64 x.u.kind)).set (p+4) (.int .i64 x.u.page)).set (p+5) (.int .i64 x.u.slot)).set (p+6) (.float .f64 x.u.row.key)).set (p+7) (.bool x.u.row.dead)).set (p+8) (.slice x.a x.n x.c)).set (p+9) (.int .i64 x.u.row.wr)).set (p+10) (.int .i64 x.u.row.cell)).set (p+11) (.int .i64 x.u.row.no)
theorem ZbO (x:Ux)(l:List Ux):Zas (x :: l)=x.cells ++ Zas l:=rfl
theorem Zfw:∀(l:List Ux)(i:Nat)(x:Ux),i<l.length→Zas (l.set i x)=Zel (Zas l) (i*12) x
 | [],i,x,hi=>by simp at hi
 | y :: l,0,x,_=>by
  rw [List.set_cons_zero,ZbO,ZbO]
  simp [Zel,Ux.cells]
 | y :: l,i+1,x,hi=>by
  rw [List.set_cons_succ,ZbO,ZbO,Zfw l i x (by simpa using hi)]
  have hy:y.cells.length=12:=rfl
  have e:∀(vs:List Value) (p:Nat) (u:Value),(y.cells ++ vs).set (12+p) u=y.cells ++ vs.set p u:=fun vs p u=>by
   rw [List.set_append_right _ _ (by omega),hy,Nat.add_sub_cancel_left]
  unfold Zel
  rw [show (i+1)*12=12+i*12 by omega]
  simp only [Nat.add_assoc,e]
theorem Own.frozenAt {e:TypeId}{z:Nat}{vs:List Value}(h:Own e z w s vs)(ha:s.a=some ⟨g,off,none⟩)(p:Nat):w.frozen? ⟨g,p,none⟩=false:=by
 rcases h.2 with ⟨h0,_⟩ | ⟨g',off',cur,ha',hg,_⟩
 · rw [h0] at ha;cases ha
 · rw [ha] at ha';simp only [Option.some.injEq,Addr.mk.injEq,and_true] at ha';obtain⟨rfl,rfl⟩:=ha';exact frozen_of_row w g _ _ e hg
theorem Ud.set {l:List Ux}(h:Ud w0 w s l)(ha:s.a=some ⟨g,off,none⟩)(i:Nat)(hi:i<l.length)(x:Ux)(hx:Col w0 w x)(hf:x.u.fits) :
    ∃W,(Instr.storeAt 65 (.pointer (some ⟨g,off+i*12,none⟩)) x.val).run Tryz.prog w=.ok () W∧Ud w0 W s (l.set i x)∧Frm (fun k=>k=g) w W:=by
  have ah:∀(w:World) (a:Addr) (m:Mode) (x:Nat),(store a (.float .f64 x) m).run Tryz.prog w=stored Tryz.prog w a (.float .f64 x) m:=fun w a m x=>run_store Tryz.prog w a _ m rfl;have aa:=h.own.unAt ha i hi;have c0:=aa.c0;have c1:=aa.c1;have c2:=aa.c2;have c3:=aa.c3;have c4:=aa.c4;have c5:=aa.c5;have c6:=aa.c6;have c7:=aa.c7;have c8:=aa.c8;have c9:=aa.c9;have c10:=aa.c10;have c11:=aa.c11;have f0:=h.own.frozenAt ha;(have hB:s.blk=some g:=by rw [Sl.blk,ha];rfl);have ae:=ZmC w g (off+i*12) x;have ad:∀y,Col w0 w y→Col w0 (setAt w g (off+i*12) x) y:=by
   intro y hy;have ab:∀b o',y.a=some ⟨b,o',none⟩→0<y.n→(setAt w g (off+i*12) x).heap[b]? = w.heap[b]?:=by
    intro b o' ha' hn;obtain⟨b',o'',ha'',hc,_,_⟩:=hy.fs.at 0 hn;rw [ha''] at ha';cases ha';refine ae.block b (World.block_lt_of_cell? _ _ hc) ?_;rintro rfl;rcases hy.home b o' ha'' hn with k | ⟨C,fr,k⟩
    · have:=h.new b hB;omega
    · obtain⟨cur,ac⟩:=h.own.kind hB;rw [k] at ac;simp only [Option.some.injEq,Obj.cells.injEq] at ac;exact absurd ac.2.1 (by decide)
   refine⟨hy.fs.sameU ab,fun b o' ha' hn=>?_⟩;rcases hy.home b o' ha' hn with k | ⟨C,fr,k⟩
   · exact .inl k
   · exact .inr ⟨C,fr,(ab b o' ha' hn).trans k⟩
  refine⟨setAt w g (off+i*12) x,by simp [go_sem,Instr.storeAt,ah,stored,c0,c1,c2,c3,c4,c5,c6,c7,c8,c9,c10,c11,f0,Ux.val,Un.val,setAt],⟨?_,h.new,h.below.trans (ae.below h.below.size (fun k hk=>by rw [hk];exact h.new g hB)),fun y hy=>?_,fun y hy=>?_⟩,ae⟩
  · rw [Zfw l i x hi];unfold Zel setAt;have h0:=h.own.setC ha (i*12) (.int .i64 x.u.tx);have h1:=h0.setC ha (i*12+1) (.int .i64 x.u.no);have h2:=h1.setC ha (i*12+2) (.int .i64 x.u.prev);have h3:=h2.setC ha (i*12+3) (.int .i64 x.u.kind);have h4:=h3.setC ha (i*12+4) (.int .i64 x.u.page);have h5:=h4.setC ha (i*12+5) (.int .i64 x.u.slot);have h6:=h5.setC ha (i*12+6) (.float .f64 x.u.row.key);have h7:=h6.setC ha (i*12+7) (.bool x.u.row.dead);have h8:=h7.setC ha (i*12+8) (.slice x.a x.n x.c);have h9:=h8.setC ha (i*12+9) (.int .i64 x.u.row.wr);have ag:=h9.setC ha (i*12+10) (.int .i64 x.u.row.cell);have af:=ag.setC ha (i*12+11) (.int .i64 x.u.row.no);simp only [← Nat.add_assoc] at af;exact af
  · rcases List.mem_or_eq_of_mem_set hy with hy | rfl
    · exact ad y (h.cols y hy)
    · exact ad y hx
  · rcases List.mem_or_eq_of_mem_set hy with hy | rfl
    · exact h.fits y hy
    · exact hf
def Un.emp (u:Un):Bool:=u.same zeroU
theorem Un.emp_iff (u:Un):u.emp=true↔u=zeroU:=Un.same_iff _ _
theorem Zff:zeroU.emp=true:=(Un.emp_iff _).2 rfl
def okU (u:Un):Bool:=u.emp || u.may
def nosU (l:List Un):List Int:=(l.filter (fun u=>!u.emp)).map Un.no
def lenU (n:Nat):Bool:=decide (6≤n) && decide (n≤378) && decide (n % 6=0)
def MayU (l:List Un):Bool:=lenU l.length && (l.all okU && decide (nosU l).Nodup)
theorem Zgl (n:Nat):lenU n=true↔6≤n∧n≤378∧n % 6=0:=by
 simp [lenU];omega
theorem Zk1 (l:List Un):(nosU l).Nodup↔∀i j,i<j→j<l.length→(l.getD i zeroU).emp=false→(l.getD j zeroU).emp=false→(l.getD i zeroU).no≠(l.getD j zeroU).no:=by
 unfold nosU List.Nodup;rw [List.pairwise_map,List.pairwise_filter,List.pairwise_iff_getElem];constructor
 · intro h i j aa hj h1 h2;(have hi:i<l.length:=by omega);(have e1:l.getD i zeroU=l[i]:=by simp [List.getD,hi]);(have e2:l.getD j zeroU=l[j]:=by simp [List.getD,hj]);rw [e1] at h1 ⊢;rw [e2] at h2 ⊢;exact h i j hi hj aa (by rw [h1];rfl) (by rw [h2];rfl)
 · intro h i j hi hj aa h1 h2;(have e1:l.getD i zeroU=l[i]:=by simp [List.getD,hi]);(have e2:l.getD j zeroU=l[j]:=by simp [List.getD,hj]);have:=h i j aa hj (by rw [e1];simpa using h1) (by rw [e2];simpa using h2);rwa [e1,e2] at this
theorem unget (hi:i<l.length):l.getD i zeroU=l[i]:=by simp [List.getD,hi]
structure MayP (l:List Un):Prop where
  lo:6≤l.length
  hi:l.length≤378
  six:l.length % 6=0
  ok:∀i,i<l.length→okU (l.getD i zeroU)=true
  one:∀i j,i<j→j<l.length→(l.getD i zeroU).emp=false→(l.getD j zeroU).emp=false→(l.getD i zeroU).no≠(l.getD j zeroU).no
theorem Zdi (l:List Un):MayU l=true↔MayP l:=by
 unfold MayU;simp only [Bool.and_eq_true,decide_eq_true_eq,Zgl,List.all_eq_true,Zk1];constructor
 · rintro ⟨⟨h1,h2,h3⟩,h4,h5⟩;exact⟨h1,h2,h3,fun i hi=>by rw [unget hi];exact h4 _ (List.getElem_mem hi),h5⟩
 · intro h;refine⟨⟨h.lo,h.hi,h.six⟩,fun u hu=>?_,h.one⟩;obtain⟨i,hi,rfl⟩:=List.getElem_of_mem hu;rw [← unget hi];exact h.ok i hi
theorem Un.may_no {u:Un}(h:u.may=true):1≤u.no:=(Un.parts h).no.1
def SeenU (l:List Un) (n:Nat):Prop:=∀i,i<n→(l.getD i zeroU).emp=true∨((l.getD i zeroU).may=true∧∀k,k<i→(l.getD k zeroU).no≠(l.getD i zeroU).no)
theorem ZpY {u:Un}(h:u.emp=true):u.no=0:=by rw [(Un.emp_iff u).1 h];rfl
theorem MayP.seen (h:MayP l):SeenU l l.length:=by
 intro i hi;cases he:(l.getD i zeroU).emp with
 | true=>exact .inl rfl
 | false =>
  have h1:=h.ok i hi;rw [okU,he,Bool.false_or] at h1;refine .inr ⟨h1,fun k hk=>?_⟩;cases hk':(l.getD k zeroU).emp with
  | true=>rw [ZpY hk'];have:=Un.may_no h1;omega
  | false=>exact h.one k i hk hi hk' he
theorem Zod (h:SeenU l l.length):MayU l=lenU l.length:=by
 cases hl:lenU l.length with
 | false=>unfold MayU;rw [hl];rfl
 | true =>
  rw [Zdi];obtain⟨h1,h2,h3⟩:=(Zgl _).1 hl;refine⟨h1,h2,h3,fun i hi=>?_,fun i j aa hj he he'=>?_⟩
  · rcases h i hi with k | k
    · rw [okU,k];rfl
    · rw [okU,k.1];simp
  · rcases h j hj with k | k
    · rw [k] at he';cases he'
    · exact k.2 i aa
theorem ZhI (hi:i<l.length)(he:(l.getD i zeroU).emp=false)(h:(l.getD i zeroU).may=false∨∃k,k<i∧(l.getD k zeroU).no=(l.getD i zeroU).no):MayU l=false:=by
 cases hm:MayU l with
 | false=>rfl
 | true =>
  rcases ((Zdi l).1 hm).seen i hi with k | k
  · rw [k] at he;cases he
  · rcases h with h | ⟨j,hj,h⟩
    · rw [k.1] at h;cases h
    · exact absurd h (k.2 j hj)
theorem Zqr (h:lenU l.length=false):MayU l=false:=by unfold MayU;rw [h];rfl
theorem Zq3 (hi:i<l.length)(h:okU (l.getD i zeroU)=false):MayU l=false:=by
 cases hm:MayU l with
 | false=>rfl
 | true=>rw [((Zdi l).1 hm).ok i hi] at h;cases h
theorem Zpp (hl:lenU l.length=true)(h:∀i,i<l.length→okU (l.getD i zeroU)=true):MayU l=decide (nosU l).Nodup:=by
 unfold MayU;rw [hl,Bool.true_and];have:l.all okU=true:=List.all_eq_true.2 (fun u hu=>by
  obtain⟨i,hi,rfl⟩:=List.getElem_of_mem hu;rw [← unget hi];exact h i hi)
 rw [this,Bool.true_and]
theorem Zmd {k:Nat}(hk:k<l.length):nosU (l.take (k+1))=nosU (l.take k) ++ (if (l.getD k zeroU).emp then [] else [(l.getD k zeroU).no]):=by
 rw [List.take_succ_eq_append_getElem hk,unget hk];unfold nosU;rw [List.filter_append,List.map_append];congr 1;cases h:(l[k]).emp <;> simp [h]
theorem Zju (l:List Un):(nosU l).length≤l.length:=by
 unfold nosU;rw [List.length_map];exact List.length_filter_le _ _
def atU (l:List Un) (c:Int):Un:=if 1≤c∧c≤l.length then l.getD (c-1).toNat zeroU else zeroU
theorem Zox (h:1≤c∧c≤l.length):atU l c=l.getD (c-1).toNat zeroU:=if_pos h
theorem ZfQ (h:¬(1≤c∧c≤l.length)):atU l c=zeroU:=if_neg h
theorem Zow (l:List Un)(hi:i<l.length):atU l ((i:Int)+1)=l.getD i zeroU:=by
 rw [Zox (by omega)];congr 1;omega
theorem ZiT (h:(atU l c).emp=false):1≤c∧c≤l.length:=by
 by_cases k:1≤c∧c≤l.length
 · exact k
 · rw [ZfQ k,Zff] at h;cases h
def getU (l:List Un) (c n:Int):Un × Bool:=if (atU l c).emp=true∨(atU l c).no≠n then (zeroU,false) else (atU l c,true)
theorem ZoW {p:Un→Bool}(hi:i<l.length)(h1:p (l.getD i zeroU)=true)(h2:∀j,j<i→p (l.getD j zeroU)=false):l.findIdx? p=some i:=by
 refine List.findIdx?_eq_some_iff_getElem.2 ⟨hi,by rw [unget hi] at h1;exact h1,fun j hj=>?_⟩;have:=h2 j hj;rw [unget (by omega)] at this;simpa using this
theorem ZoX {p:Un→Bool}(h:∀j,j<l.length→p (l.getD j zeroU)=false):l.findIdx? p=none:=by
 refine List.findIdx?_eq_none_iff.2 (fun x hx=>?_);obtain⟨j,hj,rfl⟩:=List.getElem_of_mem hx;have:=h j hj;rw [unget hj] at this;exact this
structure Bse where
  t:Tbl
  u:List Un
  l:List Lf
structure MayBs (b:Bse):Prop where
  pg:∀i,i<b.u.length→(b.u.getD i zeroU).page<(b.l.length:Int)
  t:b.t.May
  u:MayU b.u=true
  l:MayH b.l
def nxB (u:List Un) (r:Rw):Option (Option Rw):=
  if (getU u r.cell r.no).2=true then (if (getU u r.cell r.no).1.kind=1 then some none else some (some (getU u r.cell r.no).1.row)) else none
def vnB (u:List Un) (v:Vw):Vn Rw:=⟨fun r=>seesV v r.wr,Rw.dead,Rw.wr,nxB u⟩
def readB (u:List Un) (l:List Lf) (v:Vw) (key:Nat):Option Rw × List Int × Int:=
  match findH l key with
  | none=>(none,[],0)
  | some h=>(vnB u v).look 400 h.r
def scanB (u:List Un) (l:List Lf) (v:Vw) (lo hi:Nat):List Rw × List Int × Int:=(vnB u v).scan (Zay lo hi (allH l))
theorem ZkG {l:List Lf}{key:Nat}(h:findH l key=none):readB u l v key=(none,[],0):=by unfold readB;rw [h]
theorem ZdE {l:List Lf}{key:Nat}{g:Hr}(h:findH l key=some g):readB u l v key=(vnB u v).look 400 g.r:=by unfold readB;rw [h]
theorem Zjx (h:(getU u r.cell r.no).2=false):nxB u r=none:=by unfold nxB;rw [h];rfl
theorem Zmf (h:(getU u r.cell r.no).2=true)(h1:(getU u r.cell r.no).1.kind=1):nxB u r=some none:=by unfold nxB;rw [if_pos h,if_pos h1]
theorem ZnN (h:(getU u r.cell r.no).2=true)(h1:¬(getU u r.cell r.no).1.kind=1):nxB u r=some (some (getU u r.cell r.no).1.row):=by unfold nxB;rw [if_pos h,if_neg h1]
theorem ZkF {l:List Lf}(h:MayH l)(hg:∀g∈allH l,Zeh g.r){lo hi:Nat}(hr:r∈Zay lo hi (allH l)):∃g,findH l r.key=some g∧g.r=r:=by
 obtain⟨g,hm,e,_⟩:=((Zhy hg h.keys).2.2 r).1 hr;refine⟨g,Zjk ((Zce.1 h).2.2.1) (Zby.1 hm) ?_,e⟩;rw [e];have:=(Zcp hm).1;rw [e] at this;exact this.symm
theorem Zf6 {l:List Lf}(h:MayH l)(hg:∀g∈allH l,Zeh g.r){lo hi:Nat}(hr:r∈Zay lo hi (allH l)):readB u l v r.key=(vnB u v).look 400 r:=by
 obtain⟨g,h1,h2⟩:=ZkF h hg hr;rw [ZdE h1,h2]
def vwV (v:Vw) (s:Sl):Value:=.agg #[.int .i64 v.self,.int .i64 v.next,s.val]
def ZaR (w:World) (p:Nat) (v:Vw) (s:Sl):Prop:=w.heap[p]? = some (Obj.cells #[.int .i64 v.self,.int .i64 v.next,s.val] 31 (0,0))
theorem ZaR.c0 (k:ZaR w p v s):w.cell? ⟨p,0,none⟩=some (.int .i64 v.self):=by unfold ZaR at k;simp [World.cell?,k]
theorem ZaR.c1 (k:ZaR w p v s):w.cell? ⟨p,1,none⟩=some (.int .i64 v.next):=by unfold ZaR at k;simp [World.cell?,k]
theorem ZaR.c2 (k:ZaR w p v s):w.cell? ⟨p,2,none⟩=some s.val:=by unfold ZaR at k;simp [World.cell?,k]
theorem ZaR.lt (k:ZaR w p v s):p<w.heap.size:=(Array.getElem?_eq_some_iff.1 k).1
theorem Zdt (w:World)(v:Vw)(s:Sl):ZaR (w.alloc (.cells #[.int .i64 v.self,.int .i64 v.next,s.val] 31)) w.heap.size v s:=heap_alloc_new w _
theorem ZaR.keep (k:ZaR w p v s)(hb:Below w.heap.size w w'):ZaR w' p v s:=(hb.block p k.lt).trans k
theorem ZaR.frm {F:Nat→Prop}(k:ZaR w p v s)(hf:Frm F w w')(hn:¬F p):ZaR w' p v s:=(hf.block p k.lt hn).trans k
theorem Zhs (h:i<t.length):t.getD i 0∈t:=by simp [List.getD,h]
theorem ZhX {x:Int}(h:∀j,j<t.length→t.getD j 0≠x):t.contains x=false:=by
 by_cases hx:x∈t
 · obtain⟨i,hi,e⟩:=List.mem_iff_getElem.1 hx;exact absurd (by simpa [List.getD,hi] using e) (h i hi)
 · simpa using hx
theorem ZgK {x:Int}(h:i<t.length)(e:t.getD i 0=x):t.contains x=true:=by
 rw [← e];simpa using Zhs h
theorem Zm1 {D:Nat→Prop}(w:World)(s:Sl)(v:Vw)(h:Gi D w s v.act) :
    Calls Tryz.prog 12 #[vwV v s] w fun e w'=>e=.returned (.bool (decide (MayV v)))∧Below w.heap.size w w':=by
  obtain⟨a,len,cap⟩:=s;obtain⟨vs,vn,t⟩:=v;have hA:=Zaa w (.cells #[.int .i64 vs,.int .i64 vn,.slice a len cap] 31);have H:=hide (h.below hA (Nat.le_refl _));have HL:Hid (t.length=len):=h.len;have ah:len≤1000000:=h.big;have HA:=hide hA;obtain⟨r,hr⟩:∃r,r=decide (MayV ⟨vs,vn,t⟩):=⟨_,rfl⟩;rw [← hr];have HR:=hide hr;clear h hA hr;unfold vwV Sl.val;simp only at H ⊢;go_enter Tryz.func12,Tryz.ntmps12;go_wp2_with fail;go_loopw [3] (fun iv wr=>wr=w.alloc (.cells #[.int .i64 vs,.int .i64 vn,.slice a len cap] 31)∧∃i:Nat,i≤len∧iv=.int .i64 (i:Nat)∧Hid (∀j,j<i→(1≤t.getD j 0∧t.getD j 0<vn∧t.getD j 0≠vs)∧(0<j→t.getD (j-1) 0<t.getD j 0))) (fun iv _=>len-(intOf iv).toNat)
  case atStart=>exact ⟨rfl,0,Nat.zero_le _,rfl,fun j hj=>absurd hj (Nat.not_lt_zero _)⟩
  case round =>
   obtain⟨rfl,i,hi,rfl,ab⟩:=hrel;rcases Nat.lt_or_ge i len with ae | ai
   · (have i1:(i:Int)<(len:Int):=by omega);obtain⟨bb,oo,ha,c0⟩:=H.out.cell i ae;replace ha:a=some ⟨bb,oo,none⟩:=ha;subst ha;obtain⟨y,hy⟩:∃y,y=t.getD i 0:=⟨_,rfl⟩;rw [← hy] at c0;have HY:=hide hy;by_cases aa:y<1∨vn≤y∨y=vs
     · have ac:Hid (r=false):=HR.out.trans (decide_eq_false (fun m=>by
        have:=m.2.2.2.1 i (by show i<t.length;rw [HL.out];exact ae);simp only [← HY.out] at this;omega))
       clear hy ab;by_cases h1:y<1
       · clear aa;go_wp2_with fail;go_ret;exact⟨by rw [ac.out];rfl,HA.out⟩
       · by_cases h2:vn≤y
         · clear aa;go_wp2_with fail;go_ret;exact⟨by rw [ac.out];rfl,HA.out⟩
         · (have h3:y=vs:=by omega);have h2':¬y ≥ vn:=h2;clear aa;go_wp2_with fail;go_ret;exact⟨by rw [ac.out];rfl,HA.out⟩
     · have h1:¬y<1:=fun e=>aa (.inl e);have h2:¬y ≥ vn:=fun e=>aa (.inr (.inl e));have h3:¬y=vs:=fun e=>aa (.inr (.inr e));clear aa;by_cases h0:i=0
       · have HN:Hid (∀j,j<i+1→(1≤t.getD j 0∧t.getD j 0<vn∧t.getD j 0≠vs)∧(0<j→t.getD (j-1) 0<t.getD j 0)):=by
          intro j hj;(obtain rfl:j=i:=by omega);rw [← HY.out];exact⟨⟨by omega,by omega,h3⟩,fun e=>by omega⟩
         (have j0:¬(0:Int)<(i:Int):=by omega);clear hy ab h0;go_wp2_with fail;go_roundw
         case rel=>exact ⟨trivial,i+1,by omega,by go_num,HN⟩
         case measure=>simp only [intOf];omega
       · (have j0:(0:Int)<(i:Int):=by omega);obtain⟨m,rfl⟩:∃m,i=m+1:=⟨i-1,by omega⟩;obtain⟨b2,o2,ag,d0⟩:=H.out.cell m (by show m<len;omega);simp only [Option.some.injEq,Addr.mk.injEq,and_true] at ag;obtain⟨rfl,rfl⟩:=ag;obtain⟨z,hz⟩:∃z,z=t.getD m 0:=⟨_,rfl⟩;rw [← hz] at d0;have HZ:=hide hz;(have em:((m+1:Nat):Int)-1=(m:Int):=by omega);by_cases ad:z<y
         · have HN:Hid (∀j,j<m+1+1→(1≤t.getD j 0∧t.getD j 0<vn∧t.getD j 0≠vs)∧(0<j→t.getD (j-1) 0<t.getD j 0)):=by
            intro j hj;by_cases e:j=m+1
            · subst e;rw [← HY.out];exact⟨⟨by omega,by omega,h3⟩,fun _=>by show t.getD (m+1-1) 0<y;rw [Nat.add_sub_cancel,← HZ.out];exact ad⟩
            · exact ab.out j (by omega)
           (have af:¬z ≥ y:=by omega);clear hy ab hz ad;go_wp2_with fail;go_roundw
           case rel=>exact ⟨trivial,m+1+1,by omega,by go_num,HN⟩
           case measure=>simp only [intOf];omega
         · have ac:Hid (r=false):=HR.out.trans (decide_eq_false (fun k=>by
            have:=k.2.2.2.2 (m+1) (by show m+1<t.length;rw [HL.out];exact ae) (by omega);simp only [Nat.add_sub_cancel,← HY.out,← HZ.out] at this;exact ad this))
           (have af:z ≥ y:=by omega);clear hy ab hz ad;go_wp2_with fail;go_ret;exact⟨by rw [ac.out];rfl,HA.out⟩
   · (have i1:¬(i:Int)<(len:Int):=by omega);have HE:Hid (r=(decide (0≤vs) && (decide (vs<2147483648) && (decide (0≤vn) && (decide (vn<2147483648) && decide ((len:Int)≤64)))))):=by
      show _=_;have hx:=ab.out;have hl:=HL.out;rw [HR.out,Bool.eq_iff_iff,decide_eq_true_iff];simp only [Bool.and_eq_true,decide_eq_true_eq];constructor
      · rintro ⟨⟨a1,a2⟩,⟨a3,a4⟩,a5,_⟩;simp only at a1 a2 a3 a4 a5;exact⟨a1,by omega,a3,by omega,by omega⟩
      · rintro ⟨a1,a2,a3,a4,a5⟩;show (0≤vs∧vs≤2147483647)∧(0≤vn∧vn≤2147483647)∧t.length≤64∧(∀i,i<t.length→1≤t.getD i 0∧t.getD i 0<vn∧t.getD i 0≠vs)∧∀i,i<t.length→0<i→t.getD (i-1) 0<t.getD i 0;exact⟨⟨a1,by omega⟩,⟨a3,by omega⟩,by omega,fun j hj=>(hx j (by omega)).1,fun j hj h0=>(hx j (by omega)).2 h0⟩
     clear ab;by_cases k1:0≤vs
     · by_cases k2:vs<2147483648
       · by_cases k3:0≤vn
         · by_cases k4:vn<2147483648
           · by_cases k5:(len:Int)≤64
             · (have HQ:Hid (r=true):=by show _=_;rw [HE.out];simp [k1,k2,k3,k4,k5]);clear HE;go_wp2_with fail;go_ret;exact⟨by rw [HQ.out];rfl,HA.out⟩
             · (have HQ:Hid (r=false):=by show _=_;rw [HE.out];simp [k5]);clear HE;go_wp2_with fail;go_ret;exact⟨by rw [HQ.out];rfl,HA.out⟩
           · (have HQ:Hid (r=false):=by show _=_;rw [HE.out];simp [k4]);clear HE;go_wp2_with fail;go_ret;exact⟨by rw [HQ.out];rfl,HA.out⟩
         · (have HQ:Hid (r=false):=by show _=_;rw [HE.out];simp [k3]);clear HE;go_wp2_with fail;go_ret;exact⟨by rw [HQ.out];rfl,HA.out⟩
       · (have HQ:Hid (r=false):=by show _=_;rw [HE.out];simp [k2]);clear HE;go_wp2_with fail;go_ret;exact⟨by rw [HQ.out];rfl,HA.out⟩
     · (have HQ:Hid (r=false):=by show _=_;rw [HE.out];simp [k1]);clear HE;go_wp2_with fail;go_ret;exact⟨by rw [HQ.out];rfl,HA.out⟩
structure Nq (w0 w:World) (s:Sl) (t:List Int):Prop where
  own:OwnN w s t
  home:∀k,s.blk=some k→w0.heap.size≤k
  below:Below w0.heap.size w0 w
theorem Nq.keep (h:Nq w0 w s t)(hb:Below w.heap.size w w'):Nq w0 w' s t:=
 ⟨Own.frame h.own (fun k hk=>hb.block k (Own.lt h.own hk)),h.home,Zac h.below hb⟩
theorem Nq.gi (h:Nq w0 w s t)(hm:s.len≤1000000):Gi (fun k=>w0.heap.size≤k) w s t:=h.own.gi (fun k hk=>h.home k hk) hm
theorem Nq.lit1 (h:Below w0.heap.size w0 w)(x:Int):Nq w0 (w.alloc (.cells #[.int .i64 x] 3)) ⟨some ⟨w.heap.size,0,none⟩,1,1⟩ [x]:=
 ⟨⟨rfl,.inr ⟨w.heap.size,0,_,rfl,heap_alloc_new w _,by simp,Nat.le_refl _,(by show 1≤maxLen;unfold maxLen;omega),rfl⟩⟩,fun k hk=>by have e:some w.heap.size=some k:=hk;cases e;exact h.size,Zac h (Zaa w _)⟩
theorem Nq.app (h:Nq w0 w s t){x:Value}{n:Nat}{u:List Int}(hs:Src Tryz.prog 1 29 x n (Zan u) w)(hl:s.len+n≤1000000) :
    ∃s' w',(∀ty,(Builtin.append_ #[29,29] ty #[s.val,x]).run Tryz.prog w=.ok s'.val w')∧Nq w0 w' s' (t ++ u)∧Frm (fun k=>s.blk=some k) w w'∧s'.len=s.len+n:=by
  obtain⟨s',w',ab,ho,aa,hf,ac⟩:=Zax Tryz.underlying29 Zgg rfl (by decide) w s (Zan t) h.own (Zd2 t) x n (Zan u) hs hl 0;refine⟨s',w',fun ty=>ab,⟨?_,fun k hk=>?_,h.below.trans (hf.below h.below.size (fun k hk=>h.home k hk))⟩,hf,aa⟩
  · show Own 3 1 w' s' (Zan (t ++ u));rw [show Zan (t ++ u)=Zan t ++ Zan u by simp [Zan]];exact ho
  · rcases ac with e | ⟨e,_⟩
    · rw [e] at hk;exact h.home k hk
    · rw [e] at hk;cases hk;exact h.below.size
theorem Zqg (w:World)(x:Int):Gi (fun _=>True) (w.alloc (.cells #[.int .i64 x] 3)) ⟨some ⟨w.heap.size,0,none⟩,1,1⟩ [x]:=
 ((Nq.lit1 (w0:=w) (Below.refl _ w) x).gi (by show 1≤1000000;omega)).wide (fun _ _=>trivial)
end Go.Proofs.YtiecfcjlhldhdaaGreat
