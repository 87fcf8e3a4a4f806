/-
  Lemmas.
-/
import Derived.Test.YtpnlebpnhmibfaaGreatBa
namespace Go.Proofs.YtpnlebpnhmibfaaGreat
open Go.RowKit
set_option linter.unusedVariables false
set_option maxRecDepth 100000
set_option maxHeartbeats 4000000
variable {w w' W:World}{i p g q B:Nat}{h:Int}{v:Sl}{A:Act}{fn:Func}
structure Sp where
  page:Int
  used:Bool
  pin:Bool
def Sp.zero:Sp:=⟨0,false,false⟩
def Sp.none:Sp:=⟨-1,false,false⟩
def Sp.beq (a b:Sp):Bool:=a.page == b.page && (a.used == b.used && a.pin == b.pin)
theorem Sp.beq_iff {a b:Sp}:a.beq b=true↔a=b:=by
 obtain⟨p,u,q⟩:=a;obtain⟨p',u',q'⟩:=b;simp [Sp.beq]
theorem Sp.beq_not {a b:Sp}:a.beq b=false↔a≠b:=by
 rw [← Bool.not_eq_true,Sp.beq_iff]
def fr (l:List Sp) (i:Nat):Sp:=l.getD i Sp.zero
theorem ZnW {l:List Sp}(h:i<l.length):fr l i∈l:=by simp [fr,List.getD,h]
theorem ZdC {l:List Sp}(h:i<l.length):fr l i=l[i]:=by simp [fr,List.getD,h]
theorem Zav {l:List Sp}(h:i<l.length)(s:Sp):fr (l.set i s) i=s:=by simp [fr,List.getD,h]
theorem Zap {l:List Sp}{j:Nat}(h:i≠j)(s:Sp):fr (l.set i s) j=fr l j:=by simp [fr,List.getD,h]
theorem Zoo {l:List Sp}{s:Sp}(h:s∈l):∃i,i<l.length∧fr l i=s:=by
 obtain⟨i,hi,e⟩:=List.mem_iff_getElem.1 h;exact⟨i,hi,by rw [ZdC hi,e]⟩
theorem Zjp {l:List Sp}(h:i<l.length):l.drop i=fr l i :: l.drop (i+1):=by
 rw [ZdC h];exact List.drop_eq_getElem_cons h
def ixF (f:Sp→Bool):List Sp→Nat→Int
  | [],_=>-1
  | s :: r,k=>if f s=true then ((k:Nat):Int) else ixF f r (k+1)
theorem ZgU {f:Sp→Bool}{l:List Sp}(h:i<l.length)(hf:f (fr l i)=true):ixF f (l.drop i) i=(i:Int):=by
 rw [Zjp h,ixF,if_pos hf]
theorem Zf5 {f:Sp→Bool}{l:List Sp}(h:i<l.length)(hf:f (fr l i)=false):ixF f (l.drop i) i=ixF f (l.drop (i+1)) (i+1):=by
 rw [Zjp h,ixF,if_neg (by rw [hf];decide)]
theorem ZgT {f:Sp→Bool}{l:List Sp}(h:l.length≤i):ixF f (l.drop i) i = -1:=by
 rw [List.drop_eq_nil_of_le h];rfl
theorem Zek (f:Sp→Bool):∀(l:List Sp)(k:Nat),(ixF f l k = -1∧∀s∈l,f s=false)∨∃i,i<l.length∧ixF f l k=((k+i:Nat):Int)∧f (fr l i)=true∧∀j,j<i→f (fr l j)=false
 | [],_=>.inl ⟨rfl,fun _ h=>by cases h⟩
 | s :: r,k=>by
  by_cases hs:f s=true
  · exact .inr ⟨0,by simp,by rw [ixF,if_pos hs];rfl,hs,fun j hj=>absurd hj (Nat.not_lt_zero _)⟩
  · have hs':f s=false:=by simpa using hs
    rcases Zek f r (k+1) with ⟨h1,h2⟩ | ⟨i,hi,h1,h2,h3⟩
    · refine .inl ⟨by rw [ixF,if_neg hs];exact h1,fun t ht=>?_⟩
      rcases List.mem_cons.1 ht with rfl | ht
      · exact hs'
      · exact h2 t ht
    · refine .inr ⟨i+1,by simpa using hi,by rw [ixF,if_neg hs,h1];congr 1;omega,h2,fun j hj=>?_⟩
      cases j with
      | zero=>exact hs'
      | succ j=>exact h3 j (by omega)
theorem Zgi {f g:Sp→Bool}:∀(l:List Sp)(k:Nat),(∀s∈l,f s=g s)→ixF f l k=ixF g l k
 | [],_,_=>rfl
 | s :: r,k,h=>by
  rw [ixF,ixF,h s (by simp),Zgi r (k+1) (fun t ht=>h t (by simp [ht]))]
def onP (p:Int) (s:Sp):Bool:=s.page == p
def ixP (l:List Sp) (p:Int):Int:=ixF (onP p) l 0
def ixN (l:List Sp):Int:=ixF (fun s=>Sp.none.beq s) l 0
theorem ZaN (l:List Sp)(p:Int):(ixP l p = -1∧∀i,i<l.length→(fr l i).page≠p)∨∃i,i<l.length∧ixP l p=(i:Int)∧(fr l i).page=p∧∀j,j<i→(fr l j).page≠p:=by
 rcases Zek (onP p) l 0 with ⟨h1,h2⟩ | ⟨i,hi,h1,h2,h3⟩
 · exact .inl ⟨h1,fun i hi=>by have:=h2 _ (ZnW hi);simpa [onP] using this⟩
 · refine .inr ⟨i,hi,by rw [ixP,h1,Nat.zero_add],by simpa [onP] using h2,fun j hj=>?_⟩;have:=h3 j hj;simpa [onP] using this
def gdB (l:List Sp) (i:Nat):Bool:=(fr l i).beq Sp.none || (decide (0≤(fr l i).page) && (decide ((fr l i).page<64) && !((l.take i).any (onP (fr l i).page))))
def may (l:List Sp) (h:Int):Bool:=decide (1≤l.length) && (decide (l.length≤64) && (decide (0≤h) && (decide (h<l.length) && (List.range l.length).all (gdB l))))
def Gd (l:List Sp) (i:Nat):Prop:=fr l i=Sp.none∨(0≤(fr l i).page∧(fr l i).page<64∧∀j,j<i→(fr l j).page≠(fr l i).page)
theorem Zhw {l:List Sp}(hi:i≤l.length)(p:Int):(l.take i).any (onP p)=true↔∃j,j<i∧(fr l j).page=p:=by
 rw [List.any_eq_true];constructor
 · rintro ⟨s,hs,e⟩;obtain⟨j,hj,e2⟩:=List.mem_take_iff_getElem.1 hs;exact⟨j,by omega,by rw [ZdC (by omega),e2];simpa [onP] using e⟩
 · rintro ⟨j,hj,e⟩;exact⟨fr l j,List.mem_take_iff_getElem.2 ⟨j,by omega,(ZdC (by omega)).symm⟩,by simpa [onP] using e⟩
theorem Zf2 {l:List Sp}(hi:i<l.length):gdB l i=true↔Gd l i:=by
 unfold gdB Gd;rw [Bool.or_eq_true,Sp.beq_iff];simp only [Bool.and_eq_true,decide_eq_true_eq];constructor
 · rintro (h | ⟨h1,h2,h3⟩)
   · exact .inl h
   · refine .inr ⟨h1,h2,fun j hj e=>?_⟩;have:=(Zhw (Nat.le_of_lt hi) (fr l i).page).2 ⟨j,hj,e⟩;rw [this] at h3;cases h3
 · rintro (h | ⟨h1,h2,h3⟩)
   · exact .inl h
   · refine .inr ⟨h1,h2,?_⟩;cases hh:(l.take i).any (onP (fr l i).page) with
     | false=>rfl
     | true =>
      obtain⟨j,hj,e⟩:=(Zhw (Nat.le_of_lt hi) _).1 hh;exact absurd e (h3 j hj)
theorem ZaI {l:List Sp}:may l h=true↔1≤l.length∧l.length≤64∧0≤h∧h<l.length∧∀i,i<l.length→Gd l i:=by
 unfold may;simp only [Bool.and_eq_true,decide_eq_true_eq,List.all_eq_true,List.mem_range];constructor
 · rintro ⟨h1,h2,h3,h4,h5⟩;exact⟨h1,h2,h3,h4,fun i hi=>(Zf2 hi).1 (h5 i hi)⟩
 · rintro ⟨h1,h2,h3,h4,h5⟩;exact⟨h1,h2,h3,h4,fun i hi=>(Zf2 hi).2 (h5 i hi)⟩
theorem ZjY {l:List Sp}(hi:i<l.length)(hg:gdB l i=false):may l h=false:=by
 cases hm:may l h with
 | false=>rfl
 | true =>
  have:=(Zf2 hi).2 ((ZaI.1 hm).2.2.2.2 i hi);rw [this] at hg;cases hg
theorem Gds.one {l:List Sp}(h:∀i,i<l.length→Gd l i){j:Nat}(hi:i<l.length)(hj:j<l.length)(e:(fr l i).page=(fr l j).page)(hp:0≤(fr l i).page):i=j:=by
 rcases Nat.lt_trichotomy i j with aa | rfl | aa
 · rcases h j hj with h1 | ⟨_,_,h1⟩
   · rw [e,h1] at hp;simp [Sp.none] at hp
   · exact absurd e (h1 i aa)
 · rfl
 · rcases h i hi with h1 | ⟨_,_,h1⟩
   · rw [h1] at hp;simp [Sp.none] at hp
   · exact absurd e.symm (h1 j aa)
theorem Gd.empty {l:List Sp}(h:Gd l i)(hp:(fr l i).page<0):fr l i=Sp.none:=by
 rcases h with h | ⟨h,_⟩
 · exact h
 · omega
theorem Gd.bound {l:List Sp}(h:Gd l i):-1≤(fr l i).page∧(fr l i).page<64:=by
 rcases h with h | ⟨h,h2,_⟩
 · rw [h];simp [Sp.none]
 · omega
theorem ZhB {l:List Sp}(h:∀i,i<l.length→Gd l i):ixN l=ixP l (-1):=by
 refine Zgi l 0 (fun s hs=>?_);obtain⟨i,hi,rfl⟩:=Zoo hs;cases hc:onP (-1) (fr l i) with
 | true =>
  (have:(fr l i).page = -1:=by simpa [onP] using hc);have e:=(h i hi).empty (by omega);rw [e];rfl
 | false =>
  rw [Sp.beq_not];intro e;rw [← e] at hc;cases hc
structure Rd where
  l:List Sp
  h:Nat
  at_:Int
def rnd:Nat→List Sp→Nat→Rd
  | 0,l,h=>⟨l,h,-1⟩
  | k+1,l,h=>if (fr l h).pin=true then rnd k l ((h+1) % l.length) else if (fr l h).used=true then rnd k (l.set h ⟨(fr l h).page,false,(fr l h).pin⟩) ((h+1) % l.length) else ⟨l,(h+1) % l.length,((h:Nat):Int)⟩
structure Tc where
  l:List Sp
  h:Int
  at_:Int
  was:Int
  e:Int
def touch (l:List Sp) (h p:Int):Tc:=
  if p<0∨63<p then ⟨l,h,-1,-1,1⟩
  else if 0≤ixP l p then ⟨l.set (ixP l p).toNat ⟨(fr l (ixP l p).toNat).page,true,(fr l (ixP l p).toNat).pin⟩,h,ixP l p,-1,0⟩
  else if 0≤ixP l (-1) then ⟨l.set (ixP l (-1)).toNat ⟨p,true,false⟩,h,ixP l (-1),-1,0⟩
  else if (rnd (2*l.length) l h.toNat).at_<0 then ⟨l,h,-1,-1,11⟩
  else ⟨(rnd (2*l.length) l h.toNat).l.set (rnd (2*l.length) l h.toNat).at_.toNat ⟨p,true,false⟩,((rnd (2*l.length) l h.toNat).h:Int),(rnd (2*l.length) l h.toNat).at_,(fr (rnd (2*l.length) l h.toNat).l (rnd (2*l.length) l h.toNat).at_.toNat).page,0⟩
structure Pc where
  l:List Sp
  e:Int
def dropC (l:List Sp) (p:Int):Pc:=
  if p<0∨ixP l p<0 then ⟨l,3⟩ else if (fr l (ixP l p).toNat).pin=true then ⟨l,1⟩ else ⟨l.set (ixP l p).toNat Sp.none,0⟩
def Sp.val (x:Sp):Value:=.agg #[.int .i64 x.page,.bool x.used,.bool x.pin]
def Sp.cells (x:Sp):List Value:=[.int .i64 x.page,.bool x.used,.bool x.pin]
def Zau (l:List Sp):List Value:=l.flatMap Sp.cells
def ckV (v:Sl) (h:Int):Value:=.agg #[v.val,.int .i64 h]
theorem Zan:∀l,(Zau l).length=l.length*3
 | []=>rfl
 | i :: r=>by
  have:=Zan r
  simp only [Zau,List.flatMap_cons,List.length_append,List.length_cons] at *
  rw [this]
  simp [Sp.cells]
  omega
theorem ZaV (l m:List Sp):Zau (l ++ m)=Zau l ++ Zau m:=by simp [Zau]
theorem Zcb (l:List Sp):∀u∈Zau l,u.oneCell'=true:=by
 intro u hu;obtain⟨i,_,hi⟩:=List.mem_flatMap.1 hu;simp only [Sp.cells,List.mem_cons,List.mem_nil_iff,or_false] at hi;rcases hi with rfl | rfl | rfl <;> rfl
theorem Zbn:∀(l:List Sp)(j t:Nat),j<l.length→t<3→(Zau l)[j*3+t]? = (fr l j).cells[t]?
 | i :: r,0,t,_,ht=>by
  simp only [Zau,List.flatMap_cons]
  rw [List.getElem?_append_left (by simp [Sp.cells];omega)]
  simp [fr]
 | i :: r,j+1,t,hj,ht=>by
  have:=Zbn r j t (by simpa using hj) ht
  simp only [Zau,List.flatMap_cons] at *
  rw [List.getElem?_append_right (by simp [Sp.cells];omega)]
  have e:(j+1)*3+t-i.cells.length=j*3+t:=by simp [Sp.cells];omega
  rw [e,this]
  simp [fr,List.getD]
theorem ZeU:∀(l:List Sp)(i:Nat)(x:Sp),Zau (l.set i x)=(((Zau l).set (i*3) (.int .i64 x.page)).set (i*3+1) (.bool x.used)).set (i*3+2) (.bool x.pin)
 | [],_,_=>rfl
 | y :: r,0,x=>rfl
 | y :: r,i+1,x=>by
  have ih:=ZeU r i x
  show y.cells ++ Zau (r.set i x)=(((y.cells ++ Zau r).set ((i+1)*3) _).set ((i+1)*3+1) _).set ((i+1)*3+2) _
  rw [ih,show (i+1)*3=i*3+3 by omega]
  rfl
theorem ZdY:∀(l:List Sp)(i:Nat)(u:Bool),Zau (l.set i ⟨(fr l i).page,u,(fr l i).pin⟩)=(Zau l).set (i*3+1) (.bool u)
 | [],_,_=>rfl
 | y :: r,0,x=>rfl
 | y :: r,i+1,x=>by
  have ih:=ZdY r i x
  show y.cells ++ Zau (r.set i ⟨(fr r i).page,x,(fr r i).pin⟩)=(y.cells ++ Zau r).set ((i+1)*3+1) _
  rw [ih,show (i+1)*3=i*3+3 by omega]
  rfl
def Kept (D:Nat→Prop) (w w':World):Prop:=∀k,D k→k<w.heap.size→w'.heap[k]? = w.heap[k]?
theorem Kept.all {D:Nat→Prop}(h:Below B w w')(hB:w.heap.size≤B):Kept D w w':=fun k _ hl=>h.block k (by omega)
theorem Kept.frm {D F:Nat→Prop}(h:Frm F w w')(hD:∀k,D k→¬F k):Kept D w w':=fun k hk hl=>h.block k hl (hD k hk)
theorem Kept.cell {D:Nat→Prop}(h:Kept D w w'){a:Addr}{u:Value}(hc:w.cell? a=some u)(hD:D a.block):w'.cell? a=some u:=by
 have:=h a.block hD (World.block_lt_of_cell? w _ hc);simp only [World.cell?] at hc ⊢;rw [this];exact hc
structure Gs (D:Nat→Prop) (w:World) (v:Sl) (l:List Sp):Prop where
  len:l.length=v.len
  nil:v.a=none→v.cap=0
  le:v.len≤v.cap
  big:v.len≤1000000
  home:∀ad,v.a=some ad→0<v.len→D ad.block
  cell:∀i,i<v.len→∃b off,v.a=some ⟨b,off,none⟩∧w.cell? ⟨b,off+i*3,none⟩=some (.int .i64 (fr l i).page)∧w.cell? ⟨b,off+i*3+1,none⟩=some (.bool (fr l i).used)∧w.cell? ⟨b,off+i*3+2,none⟩=some (.bool (fr l i).pin)
  ty:∀ad,v.a=some ad→0<v.len→∃C fz,w.heap[ad.block]? = some (.cells C 130 fz)
theorem Gs.keep {D:Nat→Prop}{l:List Sp}(h:Gs D w v l)(hk:Kept D w w'):Gs D w' v l:=by
 refine⟨h.len,h.nil,h.le,h.big,h.home,fun i hi=>?_,fun ad ha hl=>?_⟩
 · obtain⟨b,off,ha,c0,c1,c2⟩:=h.cell i hi;have hD:=h.home _ ha (by omega);exact⟨b,off,ha,hk.cell c0 hD,hk.cell c1 hD,hk.cell c2 hD⟩
 · obtain⟨C,fz,hc⟩:=h.ty ad ha hl;exact⟨C,fz,(hk _ (h.home ad ha hl) (Array.getElem?_eq_some_iff.1 hc).1).trans hc⟩
theorem Gs.below {D:Nat→Prop}{l:List Sp}(h:Gs D w v l)(hb:Below B w w')(hB:w.heap.size≤B):Gs D w' v l:=h.keep (Kept.all hb hB)
theorem Gs.mono {D E:Nat→Prop}{l:List Sp}(h:Gs D w v l)(hE:∀k,D k→k<w.heap.size→E k):Gs E w v l:=by
 refine⟨h.len,h.nil,h.le,h.big,fun ad ha hl=>hE _ (h.home ad ha hl) ?_,h.cell,h.ty⟩;obtain⟨b,off,ha',c0,_⟩:=h.cell 0 hl;rw [ha'] at ha;cases ha;exact World.block_lt_of_cell? w _ c0
theorem Zgh:(Tryz.prog.info? 130).map (fun i=>(i.zero,i.size,i.bytes))=some (some (.agg #[.int .i64 0,.bool false,.bool false]),3,16):=by kernel_rfl
def OwnS (w:World) (v:Sl) (l:List Sp):Prop:=Own 130 3 w v (Zau l)
theorem OwnS.len {l:List Sp}(h:OwnS w v l):l.length=v.len:=by
 have:=h.1;rw [Zan] at this;omega
theorem OwnS.cells {l:List Sp}(h:OwnS w v l){off:Nat}(ha:v.a=some ⟨g,off,none⟩)(hi:i<v.len):w.cell? ⟨g,off+i*3,none⟩=some (.int .i64 (fr l i).page)∧w.cell? ⟨g,off+i*3+1,none⟩=some (.bool (fr l i).used)∧w.cell? ⟨g,off+i*3+2,none⟩=some (.bool (fr l i).pin):=by
 have hl:=h.len;refine⟨?_,?_,?_⟩
 · have:=h.cell ha (i*3+0) _ (Zbn l i 0 (by omega) (by omega));rwa [Addr.add_lit] at this
 · have:=h.cell ha (i*3+1) _ (Zbn l i 1 (by omega) (by omega));rwa [Addr.add_lit] at this
 · have:=h.cell ha (i*3+2) _ (Zbn l i 2 (by omega) (by omega));rwa [Addr.add_lit] at this
theorem OwnS.gs {D:Nat→Prop}{l:List Sp}(h:OwnS w v l)(hD:∀k,v.blk=some k→D k)(hm:v.len≤1000000):Gs D w v l:=by
 refine⟨h.len,h.nilcap,h.lecap,hm,fun ad ha _=>hD _ (by rw [Sl.blk,ha];rfl),fun i hi=>?_,fun ad ha _=>?_⟩
 · rcases h.2 with ⟨h0,_⟩ | ⟨g,off,cur,ha,_⟩
   · rw [h0] at hi;exact absurd hi (Nat.not_lt_zero _)
   · exact⟨g,off,ha,h.cells ha hi⟩
 · obtain⟨C,hc⟩:=h.kind (k:=ad.block) (by rw [Sl.blk,ha];rfl);exact⟨C,_,hc⟩
theorem OwnS.new (w:World):OwnS (w.alloc (.cells #[] 130)) ⟨some ⟨w.heap.size,0,none⟩,0,0⟩ []:=
 ⟨rfl,.inr ⟨w.heap.size,0,_,rfl,heap_alloc_new w _,by simp,Nat.le_refl _,by simp,rfl⟩⟩
theorem OwnS.pos {l:List Sp}(h:OwnS w v l)(hp:0<v.len):∃g off,v.a=some ⟨g,off,none⟩:=by
 rcases h.2 with ⟨h0,_⟩ | ⟨g,off,cur,ha,_⟩
 · rw [h0] at hp;exact absurd hp (Nat.not_lt_zero _)
 · exact⟨g,off,ha⟩
theorem OwnS.frozen {l:List Sp}(h:OwnS w v l){off:Nat}(ha:v.a=some ⟨g,off,none⟩)(o:Nat):w.frozen? ⟨g,o,none⟩=false:=by
 obtain⟨cur,hc⟩:=h.kind (k:=g) (by rw [Sl.blk,ha];rfl);exact frozen_of_row w g _ cur 130 hc
theorem Own.setCell {e:TypeId}{z:Nat}{s:Sl}{vs:List Value}(h:Own e z w s vs){off:Nat}(ha:s.a=some ⟨g,off,none⟩)(j:Nat)(u:Value):Own e z (w.setCell ⟨g,off+j,none⟩ u) s (vs.set j u):=by
 refine⟨by rw [List.length_set];exact h.1,?_⟩;rcases h.2 with ⟨h0,_⟩ | ⟨g',off',cur,ha',hg,ac,ab,aa,ht⟩
 · rw [h0] at ha;cases ha
 · rw [ha] at ha';simp only [Option.some.injEq,Addr.mk.injEq,and_true] at ha';obtain⟨rfl,rfl⟩:=ha';refine .inr ⟨g,off,_,ha,heap_setCell_same w g (off+j) cur e u hg,by simpa using ac,ab,aa,?_⟩;rw [Array.toList_setIfInBounds,List.drop_set,if_neg (by omega),Nat.add_sub_cancel_left,List.take_set,ht]
def setSp (w:World) (g o:Nat) (x:Sp):World:=((w.setCell ⟨g,o,none⟩ (.int .i64 x.page)).setCell ⟨g,o+1,none⟩ (.bool x.used)).setCell ⟨g,o+2,none⟩ (.bool x.pin)
theorem Ze1 (w:World)(g o:Nat)(x:Sp):Frm (fun k=>k=g) w (setSp w g o x):=
 (((Frm.refl (fun k=>k=g) w).setCell (p:=⟨g,o,none⟩) rfl _).setCell (p:=⟨g,o+1,none⟩) rfl _).setCell (p:=⟨g,o+2,none⟩) rfl _
theorem OwnS.store {l:List Sp}(h:OwnS w v l){off:Nat}(ha:v.a=some ⟨g,off,none⟩)(i:Nat)(x:Sp):OwnS (setSp w g (off+i*3) x) v (l.set i x):=by
 unfold OwnS setSp;rw [ZeU];have h1:=Own.setCell h ha (i*3) (.int .i64 x.page);have h2:=h1.setCell ha (i*3+1) (.bool x.used);have h3:=h2.setCell ha (i*3+2) (.bool x.pin);rw [← Nat.add_assoc,← Nat.add_assoc] at h3;exact h3
theorem OwnS.use {l:List Sp}(h:OwnS w v l){off:Nat}(ha:v.a=some ⟨g,off,none⟩)(i:Nat)(u:Bool):OwnS (w.setCell ⟨g,off+i*3+1,none⟩ (.bool u)) v (l.set i ⟨(fr l i).page,u,(fr l i).pin⟩):=by
 unfold OwnS;rw [ZdY,Nat.add_assoc];exact Own.setCell h ha (i*3+1) (.bool u)
theorem OwnS.frame {l:List Sp}(h:OwnS w v l)(hk:∀k,v.blk=some k→w'.heap[k]? = w.heap[k]?):OwnS w' v l:=Own.frame h hk
theorem OwnS.below {l:List Sp}(h:OwnS w v l)(hb:Below w.heap.size w w'):OwnS w' v l:=Own.frame h (fun k hk=>hb.block k (Own.lt h hk))
theorem Gs.src {D:Nat→Prop}{l:List Sp}(h:Gs D w v l):Src Tryz.prog 3 38 v.val v.len (Zau l) w:=by
 obtain⟨a,len,cap⟩:=v;have hl:l.length=len:=h.len;cases a with
 | none =>
  have hc:cap=0:=h.nil rfl;(have h0:len=0:=by have:len≤cap:=h.le;omega);subst hc;subst h0;have:l=[]:=List.eq_nil_of_length_eq_zero hl;subst this;exact Src.ofNil w Tryz.underlying38 0
 | some ad =>
  refine Src.ofSlice w Tryz.underlying38 ad len cap (Zau l) (by rw [Zan,hl]) (fun j u hj=>?_) (Zcb l);have ab:j<l.length*3:=by
   have:=(List.getElem?_eq_some_iff.1 hj).1;rw [Zan] at this;exact this
  obtain⟨b,off,e,c0,c1,c2⟩:=h.cell (j / 3) (by show j / 3<len;omega);obtain rfl:=Option.some.inj e;have hg:=Zbn l (j / 3) (j % 3) (by omega) (by omega);rw [show j / 3*3+j % 3=j by omega,hj] at hg;rw [Addr.add_lit];(have aa:j % 3=0∨j % 3=1∨j % 3=2:=by omega);rcases aa with e4 | e4 | e4 <;> rw [e4] at hg
  · rw [show off+j=off+j / 3*3 by omega,c0,hg];rfl
  · rw [show off+j=off+j / 3*3+1 by omega,c1,hg];rfl
  · rw [show off+j=off+j / 3*3+2 by omega,c2,hg];rfl
theorem Zik {D:Nat→Prop}(w:World)(v:Sl)(l:List Sp)(h:Gs D w v l)(ty:TypeId) :
    ∃v' w',(Builtin.append_ #[38,38] ty #[.slice (some ⟨w.heap.size,0,none⟩) 0 0,v.val]).run Tryz.prog (w.alloc (.cells #[] 130))=.ok v'.val w'∧OwnS w' v' l∧v'.len=v.len∧Below w.heap.size w w'∧∀k,v'.blk=some k→w.heap.size≤k:=by
  have hB:=Zaa w (.cells #[] 130);have h1:=(h.below hB (Nat.le_refl _)).src;obtain⟨v',w',ab,ho,aa,hf,ac⟩:=Zbp Tryz.underlying38 Zgh rfl (by decide) _ ⟨some ⟨w.heap.size,0,none⟩,0,0⟩ [] (OwnS.new w) (fun _ h=>by cases h) _ v.len (Zau l) h1 (by have:=h.big;show 0+v.len≤_;omega) ty;refine⟨v',w',ab,ho,by rw [aa];exact Nat.zero_add _,hB.trans (hf.below hB.size (fun k hk=>?_)),fun k hk=>?_⟩
  · have:some w.heap.size=some k:=hk;cases this;exact Nat.le_refl _
  · rcases ac with e | ⟨e,_⟩
    · rw [e] at hk;have:some w.heap.size=some k:=hk;cases this;exact Nat.le_refl _
    · rw [e] at hk;cases hk;exact hB.size
section
variable {ops : Array Oper} {rest : List Oper} {o : Oper} {a : Act} {Q : Exit → Act → World → Prop}
theorem Zcn {D:Nat→Prop}(w:World)(ab:o.guard=none)(s y:Operand)(ho:o.op=.call { callee:=.builtin .append,args:=#[s,y],argTypes:=#[38,38] })(v:Sl)(l:List Sp)(hs:a.eval s=.slice (some ⟨w.heap.size,0,none⟩) 0 0)(hy:a.eval y=v.val)(h:Gs D w v l)
    (hK:∀v' w',OwnS w' v' l→v'.len=v.len→Below w.heap.size w w'→(∀k,v'.blk=some k→w.heap.size≤k)→wpList Tryz.prog ops Q rest (a.put o.dst v'.val) w'):wpList Tryz.prog ops Q (o :: rest) a (w.alloc (.cells #[] 130)):=by
  refine wpList_plain ab fun K hK'=>?_;obtain⟨v',w',aa,r1,r2,r3,r4⟩:=Zik w v l h o.type;unfold Oper.wp;simp [execOp,ho,resolve,invoke,builtin,hs,hy,aa,Result.andThen];exact hK' _ _ (hK v' w' r1 r2 r3 r4)
end
theorem ZaA (w:World)(o:Obj):(w.alloc o).heap.size=w.heap.size+1:=by
 show (w.heap.push o).size=_;simp
def CkBlk (w:World) (p:Nat) (v:Value) (h:Int):Prop:=w.heap[p]? = some (Obj.cells #[v,.int .i64 h] 40 (0,0))
theorem CkBlk.c0 {v:Value}(k:CkBlk w p v h):w.cell? ⟨p,0,none⟩=some v:=by unfold CkBlk at k;simp [World.cell?,k]
theorem CkBlk.c1 {v:Value}(k:CkBlk w p v h):w.cell? ⟨p,1,none⟩=some (.int .i64 h):=by unfold CkBlk at k;simp [World.cell?,k]
theorem CkBlk.fz {v:Value}(k:CkBlk w p v h)(o:Nat):w.frozen? ⟨p,o,none⟩=false:=frozen_of_row w p _ _ 40 k
theorem CkBlk.lt {v:Value}(k:CkBlk w p v h):p<w.heap.size:=(Array.getElem?_eq_some_iff.1 k).1
theorem Zbf (w:World)(v:Value)(h:Int):CkBlk (w.alloc (.cells #[v,.int .i64 h] 40)) w.heap.size v h:=heap_alloc_new w _
theorem CkBlk.at {v:Value}(k:CkBlk w p v h)(hb:w'.heap[p]? = w.heap[p]?):CkBlk w' p v h:=hb.trans k
theorem CkBlk.below {v:Value}(k:CkBlk w p v h)(hb:Below w.heap.size w w'):CkBlk w' p v h:=(hb.block p k.lt).trans k
def setCk (w:World) (p:Nat) (v:Value) (h:Int):World:=(w.setCell ⟨p,0,none⟩ v).setCell ⟨p,1,none⟩ (.int .i64 h)
theorem CkBlk.set {v:Value}(k:CkBlk w p v h)(v':Value)(h':Int):CkBlk (setCk w p v' h') p v' h':=by
 have h1:=heap_setCell_same w p 0 _ 40 v' k;have h2:=heap_setCell_same _ p 1 _ 40 (.int .i64 h') h1;unfold CkBlk setCk;rw [h2];simp
theorem CkBlk.hand {v:Value}(k:CkBlk w p v h)(h':Int):CkBlk (w.setCell ⟨p,1,none⟩ (.int .i64 h')) p v h':=by
 have h2:=heap_setCell_same _ p 1 _ 40 (.int .i64 h') k;unfold CkBlk;rw [h2];simp
theorem CkBlk.row {v:Value}(k:CkBlk w p v h)(v':Value):CkBlk (w.setCell ⟨p,0,none⟩ v') p v' h:=by
 have h2:=heap_setCell_same _ p 0 _ 40 v' k;unfold CkBlk;rw [h2];simp
theorem ZbC (w:World)(p:Nat)(v:Value)(h:Int):Frm (fun k=>k=p) w (setCk w p v h):=
 ((Frm.refl (fun k=>k=p) w).setCell (p:=⟨p,0,none⟩) rfl _).setCell (p:=⟨p,1,none⟩) rfl _
def SpBlk (w:World) (p:Nat) (x:Sp):Prop:=w.heap[p]? = some (Obj.cells #[.int .i64 x.page,.bool x.used,.bool x.pin] 130 (0,0))
theorem SpBlk.c0 {x:Sp}(k:SpBlk w p x):w.cell? ⟨p,0,none⟩=some (.int .i64 x.page):=by unfold SpBlk at k;simp [World.cell?,k]
theorem SpBlk.c1 {x:Sp}(k:SpBlk w p x):w.cell? ⟨p,1,none⟩=some (.bool x.used):=by unfold SpBlk at k;simp [World.cell?,k]
theorem SpBlk.c2 {x:Sp}(k:SpBlk w p x):w.cell? ⟨p,2,none⟩=some (.bool x.pin):=by unfold SpBlk at k;simp [World.cell?,k]
theorem SpBlk.fz {x:Sp}(k:SpBlk w p x)(o:Nat):w.frozen? ⟨p,o,none⟩=false:=frozen_of_row w p _ _ 130 k
theorem SpBlk.lt {x:Sp}(k:SpBlk w p x):p<w.heap.size:=(Array.getElem?_eq_some_iff.1 k).1
theorem Zck (w:World)(x:Sp):SpBlk (w.alloc (.cells #[.int .i64 x.page,.bool x.used,.bool x.pin] 130)) w.heap.size x:=heap_alloc_new w _
theorem SpBlk.below {x:Sp}(k:SpBlk w p x)(hb:Below w.heap.size w w'):SpBlk w' p x:=(hb.block p k.lt).trans k
theorem SpBlk.use {x:Sp}(k:SpBlk w p x)(u:Bool):SpBlk (w.setCell ⟨p,1,none⟩ (.bool u)) p ⟨x.page,u,x.pin⟩:=by
 have h2:=heap_setCell_same _ p 1 _ 130 (.bool u) k;unfold SpBlk;rw [h2];simp
theorem ZhY (g o:Nat)(x:Sp)(w:World){u0 u1 u2:Value}(c0:w.cell? ⟨g,o,none⟩=some u0)(c1:w.cell? ⟨g,o+1,none⟩=some u1)(c2:w.cell? ⟨g,o+2,none⟩=some u2)(f0:w.frozen? ⟨g,o,none⟩=false)(f1:w.frozen? ⟨g,o+1,none⟩=false)(f2:w.frozen? ⟨g,o+2,none⟩=false) :
    (Instr.storeAt 130 (.pointer (some ⟨g,o,none⟩)) x.val).run Tryz.prog w=.ok () (setSp w g o x):=by
  obtain⟨p,u,q⟩:=x;unfold Sp.val setSp;simp [go_sem,Instr.storeAt,c0,c1,c2,f0,f1,f2]
theorem ZdP (g:Nat)(v:Sl)(h:Int)(w:World){v0:Value}{h0:Int}(k:CkBlk w g v0 h0) :
    (Instr.storeAt 40 (.pointer (some ⟨g,0,none⟩)) (ckV v h)).run Tryz.prog w=.ok () (setCk w g v.val h):=by
  have c0:=k.c0;have c1:=k.c1;have f0:=k.fz 0;have f1:=k.fz 1;obtain⟨a,len,cap⟩:=v;unfold ckV setCk Sl.val;simp [go_sem,Instr.storeAt,c0,c1,f0,f1]
theorem Zlw:Tryz.prog.eqGuardType Tryz.prog.depth 130=false:=by kernel_rfl
theorem Zmc:Tryz.prog.stoodInHeld 130=false:=by kernel_rfl
theorem Zj9:Tryz.prog.underlying 130=some (.struct (Tryz.prog.fieldsOf 130)):=by kernel_rfl
theorem Zlk (x y:Sp)(w:World):(Op.equalIn 10000 130 x.val y.val).run Tryz.prog w=.ok (x.beq y) w:=by
 obtain⟨p,u,q⟩:=x;obtain⟨p',u',q'⟩:=y;unfold Sp.val Sp.beq;rw [run_equalIn_struct w 9999 130 _ _ Zj9 Zmc];simp only [Program.fieldsOf,Tryz.underlying130];simp [go_sem,Op.eqFields,part,run_equalIn_int,run_equalIn_bool',Tryz.underlying3,Tryz.underlying4];by_cases h1:p=p' <;> by_cases h2:u=u' <;> by_cases h3:q=q' <;> simp [h1,h2,h3]
theorem Zmp (x y:Sp)(a c:Operand)(w:World):(do eqGuard .eql 130 a c x.val y.val;binOp .eql 130 x.val y.val:Sem Value).run Tryz.prog w=.ok (.bool (x.beq y)) w:=by
 have h:=Zlk x y w;unfold Sp.val at *;rw [Sem.run_bind,run_eqGuard_agg w .eql 130 a c _ _ Zlw,Result.andThen_ok,run_eql_struct,h];rfl
theorem ixSp (b o len cap k:Nat)(hk:k<len)(w:World):(Instr.indexAt 38 (.slice (some ⟨b,o,none⟩) len cap) (.int .i64 (k:Int))).run Tryz.prog w=.ok (.pointer (some ⟨b,o+k*3,none⟩)) w:=by
 (have h1:(0:Int)≤(k:Int):=by omega);(have h2:(k:Int)<(len:Int):=by omega);simp [go_sem,Instr.indexAt,hk,Addr.add_lit]
theorem ldSp (b o:Nat)(x:Sp)(w:World)(h:w.cell? ⟨b,o,none⟩=some (.int .i64 x.page)∧w.cell? ⟨b,o+1,none⟩=some (.bool x.used)∧w.cell? ⟨b,o+2,none⟩=some (.bool x.pin)):(Instr.loadAt 130 (.pointer (some ⟨b,o,none⟩))).run Tryz.prog w=.ok x.val w:=by
 obtain⟨c0,c1,c2⟩:=h;unfold Sp.val;simp [go_sem,Instr.loadAt,c0,c1,c2]
theorem ldCk (p:Nat)(v:Sl)(h:Int)(w:World)(k:CkBlk w p v.val h):(Instr.loadAt 40 (.pointer (some ⟨p,0,none⟩))).run Tryz.prog w=.ok (ckV v h) w:=by
 have c0:=k.c0;have c1:=k.c1;obtain⟨a,len,cap⟩:=v;unfold ckV Sl.val at *;simp [go_sem,Instr.loadAt,c0,c1]
theorem ZmY (p:Nat)(v:Sl)(h:Int)(w:World)(k:CkBlk w p v.val h):(Instr.loadAt 38 (.pointer (some ⟨p,0,none⟩))).run Tryz.prog w=.ok v.val w:=by
 have c0:=k.c0;obtain⟨a,len,cap⟩:=v;unfold Sl.val at *;simp [go_sem,Instr.loadAt,c0]
theorem Zoi (p:Nat)(v:Value)(h:Int)(w:World)(k:CkBlk w p v h):(Instr.loadAt 3 (.pointer (some ⟨p,1,none⟩))).run Tryz.prog w=.ok (.int .i64 h) w:=by
 have c1:=k.c1;simp [go_sem,Instr.loadAt,c1]
theorem ZmH (p:Nat)(w:World):(Instr.fieldAt 40 (.pointer (some ⟨p,0,none⟩)) 0).run Tryz.prog w=.ok (.pointer (some ⟨p,0,none⟩)) w:=by simp [go_sem,Instr.fieldAt]
theorem ZoR (p:Nat)(w:World):(Instr.fieldAt 40 (.pointer (some ⟨p,0,none⟩)) 1).run Tryz.prog w=.ok (.pointer (some ⟨p,1,none⟩)) w:=by simp [go_sem,Instr.fieldAt]
theorem Zae (w:World):Below w.heap.size w w.drew:=(Below.refl _ _).drew
def isPg (p:Int):Bool:=decide (0≤p) && decide (p<64)
theorem ZbI (p:Int)(w:World):Calls Tryz.prog 124 #[.int .i64 p] w fun e w'=>e=.returned (.bool (isPg p))∧w'=w:=by
 by_cases h1:0≤p
 · by_cases h2:p<64
   · (have e:isPg p=true:=by simp [isPg,h1,h2]);rw [e];go_enter Tryz.func124,Tryz.ntmps124;go_wp2_with fail;go_ret;exact⟨rfl,rfl⟩
   · (have e:isPg p=false:=by simp [isPg,h2]);rw [e];go_enter Tryz.func124,Tryz.ntmps124;go_wp2_with fail;go_ret;exact⟨rfl,rfl⟩
 · (have e:isPg p=false:=by simp [isPg,h1]);rw [e];go_enter Tryz.func124,Tryz.ntmps124;go_wp2_with fail;go_ret;exact⟨rfl,rfl⟩
theorem ZiR {x:Nat}(hr:fn.results=#[.cell x 130]){s:Sp}(h:SpBlk W g s)(tmps:Array Value)(ht:tmps.getD x undef=.pointer (some ⟨g,0,none⟩)):(results fn tmps).run Tryz.prog W=.ok s.val W:=by
 have c0:=h.c0;have c1:=h.c1;have c2:=h.c2;(have aa:tmps[x]?.getD undef=.pointer (some ⟨g,0,none⟩):=by simpa using ht);simp [results,hr,aa,go_sem,c0,c1,c2,Sp.val]
theorem ZeW {x:Nat}(hr:fn.results=#[.cell x 40])(k:CkBlk W g v.val h)(tmps:Array Value)(ht:tmps.getD x undef=.pointer (some ⟨g,0,none⟩)):(results fn tmps).run Tryz.prog W=.ok (ckV v h) W:=by
 have c0:=k.c0;have c1:=k.c1;unfold ckV Sl.val at *;(have aa:tmps[x]?.getD undef=.pointer (some ⟨g,0,none⟩):=by simpa using ht);simp [results,hr,aa,go_sem,c0,c1]
theorem ZaC {x y:Nat}(hr:fn.results=#[.cell x 40,.tmp y])(k:CkBlk W g v.val h)(tmps:Array Value)(ht:tmps.getD x undef=.pointer (some ⟨g,0,none⟩)){u:Value}(hy:tmps.getD y undef=u):(results fn tmps).run Tryz.prog W=.ok (.tuple #[ckV v h,u]) W:=by
 have c0:=k.c0;have c1:=k.c1;unfold ckV Sl.val at *;(have aa:tmps[x]?.getD undef=.pointer (some ⟨g,0,none⟩):=by simpa using ht);(have ab:tmps[y]?.getD undef=u:=by simpa using hy);simp [results,hr,aa,ab,go_sem,c0,c1]
theorem Za7 {x y z t:Nat}(hr:fn.results=#[.cell x 40,.tmp y,.tmp z,.tmp t])(k:CkBlk W g v.val h)(tmps:Array Value)(ht:tmps.getD x undef=.pointer (some ⟨g,0,none⟩)){u1 u2 u3:Value}(hy:tmps.getD y undef=u1)(hz:tmps.getD z undef=u2)(h3:tmps.getD t undef=u3):(results fn tmps).run Tryz.prog W=.ok (.tuple #[ckV v h,u1,u2,u3]) W:=by
 have c0:=k.c0;have c1:=k.c1;unfold ckV Sl.val at *;(have ab:tmps[x]?.getD undef=.pointer (some ⟨g,0,none⟩):=by simpa using ht);(have ac:tmps[y]?.getD undef=u1:=by simpa using hy);(have ad:tmps[z]?.getD undef=u2:=by simpa using hz);(have aa:tmps[t]?.getD undef=u3:=by simpa using h3);simp [results,hr,ab,ac,ad,aa,go_sem,c0,c1]
theorem Zde (w:World):Calls Tryz.prog 104 #[] w fun e w'=>e=.returned Sp.none.val∧Below w.heap.size w w':=by
 have HB:=hide (Zck w Sp.none);have HF:=hide (Zaa w (.cells #[.int .i64 (-1),.bool false,.bool false] 130));go_enter Tryz.func104,Tryz.ntmps104;go_wp2_with fail;refine bodyPost_ret (ZiR rfl HB.out _ rfl) rfl ?_;exact⟨rfl,HF.out⟩
theorem Zio {D:Nat→Prop}(w:World)(v:Sl)(l:List Sp)(h:Gs D w v l):Calls Tryz.prog 125 #[v.val] w fun e w'=>Below w.heap.size w w'∧∃s:Sl,e=.returned s.val∧OwnS w' s l∧s.len=v.len∧∀k,s.blk=some k→w.heap.size≤k:=by
 obtain⟨a,len,cap⟩:=v;cases a with
 | none =>
  have hc:cap=0:=h.nil rfl;(have h0:len=0:=by have:len≤cap:=h.le;omega);subst hc;subst h0;have hx:l=[]:=List.eq_nil_of_length_eq_zero h.len;subst hx;clear h;have HN:=hide (Own.nil 130 3 w);have HB:=hide (Below.refl w.heap.size w);have he:∀w:World,(binOp .eql 38 (.slice none 0 0) (.slice none 0 0)).run Tryz.prog w=.ok (.bool true) w:=fun _=>rfl;unfold Sl.val;simp only;go_enter Tryz.func125,Tryz.ntmps125;go_wp2_with fail;go_ret;exact⟨HB.out,Sl.nil,rfl,HN.out,rfl,fun k hk=>by cases hk⟩
 | some ad =>
  have HG:=hide h;have he:∀w:World,(binOp .eql 38 (.slice (some ad) len cap) (.slice none 0 0)).run Tryz.prog w=.ok (.bool false) w:=fun _=>rfl;clear h;unfold Sl.val;simp only;go_enter Tryz.func125,Tryz.ntmps125;go_wp2_with (at_builtin;refine Zcn _ rfl (.tmp 5) (.tmp 6) rfl ⟨some ad,len,cap⟩ _ rfl rfl HG.out ?_);intro v1 w1 ae ac aa ab;have ai:=hide ae;have ah:=hide ac;have af:=hide aa;have ag:=hide ab;clear ae ac aa ab HG;go_wp2_with fail;go_ret;exact⟨af.out,v1,rfl,ai.out,ah.out,ag.out⟩
def pgV (b:Nat):Value:=.func (.func 127) #[] #[.pointer (some ⟨b,0,none⟩)]
theorem ZgJ (x:Sp)(b:Nat)(p:Int)(w:World)(hb:w.cell? ⟨b,0,none⟩=some (.int .i64 p)):Calls Tryz.prog 127 #[.agg #[.int .i64 x.page,.bool x.used,.bool x.pin],.pointer (some ⟨b,0,none⟩)] w fun e w'=>e=.returned (.bool (onP p x))∧Below w.heap.size w w':=by
 have hA:=Zaa w (.cells #[.int .i64 x.page,.bool x.used,.bool x.pin] 130);have hc:=(hA.cell (p:=⟨b,0,none⟩) (World.block_lt_of_cell? w _ hb)).trans hb;have HA:=hide hA;clear hb hA;unfold onP;go_enter Tryz.func127,Tryz.ntmps127;go_wp2_with fail;go_ret;exact⟨rfl,HA.out⟩
theorem Zf4 {D:Nat→Prop}(w:World)(v:Sl)(l:List Sp)(h:Gs D w v l)(b:Nat)(p:Int)(hb:w.cell? ⟨b,0,none⟩=some (.int .i64 p)) :
    Calls Tryz.prog 126 #[v.val,pgV b] w fun e w'=>e=.returned (.int .i64 (ixP l p))∧Below w.heap.size w w':=by
  obtain⟨a,len,cap⟩:=v;have HG:=hide h;have hl:l.length=len:=h.len;have HL:=hide hl;have ag:len≤1000000:=h.big;have HC:=hide hb;have H0:=hide (Below.refl w.heap.size w);have HI:Hid (ixP l p=ixF (onP p) (l.drop 0) 0):=rfl;clear h hl hb;unfold Sl.val pgV;simp only;go_enter Tryz.func126,Tryz.ntmps126;go_wp2_with fail;go_loopw [8] (fun iv wr=>∃i:Nat,i≤len∧iv=.int .i64 (i:Nat)∧Hid (ixP l p=ixF (onP p) (l.drop i) i)∧Hid (Below w.heap.size w wr)) (fun iv _=>len-(intOf iv).toNat)
  case atStart=>exact ⟨0,Nat.zero_le _,rfl,HI,H0⟩
  case round =>
   obtain⟨i,hi,rfl,aa,ac⟩:=hrel;rcases Nat.lt_or_ge i len with af | ah
   · (have i1:(i:Int)<(len:Int):=by omega);obtain⟨bb,oo,ha,c0,c1,c2⟩:=(HG.out.below ac.out (Nat.le_refl _)).cell i af;replace ha:a=some ⟨bb,oo,none⟩:=ha;subst ha;obtain⟨x,hx⟩:∃x,x=fr l i:=⟨_,rfl⟩;rw [← hx] at c0 c1 c2;have ad:=hide (ZgJ x b p wr ((ac.out.cell (World.block_lt_of_cell? w _ HC.out)).trans HC.out));have HX:=hide hx;clear hx;cases hon:onP p x with
     | true =>
      rw [hon] at ad;have HE:Hid (ixP l p=(i:Int)):=aa.out.trans (ZgU (by rw [HL.out];exact af) (by rw [← HX.out];exact hon));clear aa;go_wp2_with fail;refine ad.out.mono ?_;rintro e w1 ⟨rfl,ab⟩;have ae:=hide (Zaf ac.out ab);clear ab;go_wp2_with fail;go_ret;exact⟨by rw [HE.out];rfl,ae.out⟩
     | false =>
      rw [hon] at ad;have HE:Hid (ixP l p=ixF (onP p) (l.drop (i+1)) (i+1)):=aa.out.trans (Zf5 (by rw [HL.out];exact af) (by rw [← HX.out];exact hon));clear aa;go_wp2_with fail;refine ad.out.mono ?_;rintro e w1 ⟨rfl,ab⟩;have ae:=hide (Zaf ac.out ab);clear ab;go_wp2_with fail;go_roundw
      case rel=>exact ⟨i+1,by omega,by go_num,HE,ae⟩
      case measure=>simp only [intOf];omega
   · have HE:Hid (ixP l p = -1):=aa.out.trans (ZgT (by rw [HL.out];exact ah));(have i1:¬(i:Int)<(len:Int):=by omega);clear aa;go_wp2_with fail;go_ret;exact⟨by rw [HE.out];rfl,ac.out⟩
def frm (l:List Sp) (p:Int):Int:=if isPg p=true then ixP l p else -1
theorem ZcP {D:Nat→Prop}(w:World)(v:Sl)(h:Int)(l:List Sp)(hg:Gs D w v l)(p:Int) :
    Calls Tryz.prog 116 #[ckV v h,.int .i64 p] w fun e w'=>e=.returned (.int .i64 (frm l p))∧Below w.heap.size w w':=by
  obtain⟨a,len,cap⟩:=v;have af:∀(fn:Fn) (first cap:Array Value) (w:World),(Instr.makeFunc fn first cap).run Tryz.prog w=.ok (.func fn first cap) w:=fun _ _ _ _=>rfl;have ab:=Zaa w (.cells #[.slice a len cap,.int .i64 h] 40);have ac:=Zaa (w.alloc (.cells #[.slice a len cap,.int .i64 h] 40)) (.cells #[.int .i64 p] 3);have hA:=Zaf ab ac;have aa:((w.alloc (.cells #[.slice a len cap,.int .i64 h] 40)).alloc (.cells #[.int .i64 p] 3)).cell? ⟨w.heap.size+1,0,none⟩=some (.int .i64 p):=by
   have hb:=heap_alloc_new (w.alloc (.cells #[.slice a len cap,.int .i64 h] 40)) (.cells #[.int .i64 p] 3);rw [ZaA] at hb;rw [cell_of_row _ _ _ _ _ _ hb];rfl
  have HI:=hide (Zf4 _ ⟨a,len,cap⟩ l (hg.below hA (Nat.le_refl _)) (w.heap.size+1) p aa);have HP:=hide (ZbI p);have HA:=hide hA;clear hg ab ac hA aa;unfold ckV pgV Sl.val at *;simp only at *;cases hp:isPg p with
  | true =>
   rw [hp] at HP;(have e:frm l p=ixP l p:=by unfold frm;rw [if_pos hp]);rw [e];clear e;go_enter Tryz.func116,Tryz.ntmps116;go_wp2_with fail;refine(HP.out _).mono ?_;rintro e w1 ⟨rfl,rfl⟩;go_wp2_with fail;refine HI.out.mono ?_;rintro e w1 ⟨rfl,ad⟩;have ae:=hide (Zaf HA.out ad);clear ad;go_wp2_with fail;go_ret;exact⟨rfl,ae.out⟩
  | false =>
   rw [hp] at HP;(have e:frm l p = -1:=by unfold frm;rw [if_neg (by rw [hp];decide)]);rw [e];clear e;go_enter Tryz.func116,Tryz.ntmps116;go_wp2_with fail;refine(HP.out _).mono ?_;rintro e w1 ⟨rfl,rfl⟩;go_wp2_with fail;go_ret;exact⟨rfl,HA.out⟩
namespace Pl
section
variable {P : Program} {ops : Array Oper} {S : World → Prop} {Q : Exit → Act → World → Prop} {n fuel : Nat} {listed : Array Bool} {f : Nat → Value} {w : World}
end
end Pl
theorem geqT (a c:Int)(x y:Operand)(h:c≤a)(w:World):(do eqGuard .geq 3 x y (.int .i64 a) (.int .i64 c);binOp .geq 3 (.int .i64 a) (.int .i64 c):Sem Value).run Tryz.prog w=.ok (.bool true) w:=by
 simp [go_sem,eqGuard];first | done | omega
theorem geqF (a c:Int)(x y:Operand)(h:¬(c≤a))(w:World):(do eqGuard .geq 3 x y (.int .i64 a) (.int .i64 c);binOp .geq 3 (.int .i64 a) (.int .i64 c):Sem Value).run Tryz.prog w=.ok (.bool false) w:=by
 simp [go_sem,eqGuard];first | done | omega
def Cell3 (w:World) (b o:Nat) (x:Sp):Prop:=w.cell? ⟨b,o,none⟩=some (.int .i64 x.page)∧w.cell? ⟨b,o+1,none⟩=some (.bool x.used)∧w.cell? ⟨b,o+2,none⟩=some (.bool x.pin)
theorem Cell3.below {b o:Nat}{x:Sp}(h:Cell3 w b o x)(hb:Below w.heap.size w w'):Cell3 w' b o x:=by
 obtain⟨c0,c1,c2⟩:=h;have aa:=World.block_lt_of_cell? w _ c0;exact⟨(hb.cell (p:=⟨b,o,none⟩) aa).trans c0,(hb.cell (p:=⟨b,o+1,none⟩) aa).trans c1,(hb.cell (p:=⟨b,o+2,none⟩) aa).trans c2⟩
theorem SpBlk.cell3 {x:Sp}(k:SpBlk w p x):Cell3 w p 0 x:=⟨k.c0,k.c1,k.c2⟩
theorem Zfx:∀args w,(callFunc 104 args).run Tryz.prog w=.ok (.enter 104 args) w:=Pl.ql Tryz.func104
theorem Zjt:∀args w,(callFunc 125 args).run Tryz.prog w=.ok (.enter 125 args) w:=Pl.ql Tryz.func125
theorem Zlf:∀args w,(callFunc 135 args).run Tryz.prog w=.ok (.enter 135 args) w:=Pl.ql Tryz.func135
theorem ZkX (v:Sl)(h:Int)(w:World):(Instr.build 40 #[(0,v.val),(1,.int .i64 h)]).run Tryz.prog w=.ok (ckV v h) w:=by
 obtain⟨a,len,cap⟩:=v;unfold ckV Sl.val;simp [go_sem,Instr.build]
theorem Zmu (w:World)(b o len cap i g:Nat)(x y:Sp)(r:Bool)(hi:i<len)(hx:SpBlk w g x)(hy:Cell3 w b (o+i*3) y)(hr:x.beq y=r)
    {Q:Exit→Act→World→Prop}(ab:A.tmps.size=19)(aa:A.defers=[])(s0:A.tmps.getD 0 undef=.slice (some ⟨b,o,none⟩) len cap)(s3:A.tmps.getD 3 undef=.pointer (some ⟨g,0,none⟩))(s5:A.tmps.getD 5 undef=.int .i64 (i:Int))
    (hend:∀(u:Nat→Value) w',Below w.heap.size w w'→Q .normal (((((((A).put (some 11) (u 11)).put (some 12) (u 12)).put (some 13) (u 13)).put (some 14) (u 14)).put (some 15) (u 15)).put (some 16) (.bool r)) w') :
    (Code.region 4 (Pl.find 4 ((Tryz.f135.body).getD .skip)) true).wp Tryz.prog Q A w:=by
  have hA:=Pl.At.same (v:=.int .i64 (i:Int)) (d:=5) (Pl.At.same (v:=.pointer (some ⟨g,0,none⟩)) (d:=3) (Pl.At.same (v:=.slice (some ⟨b,o,none⟩) len cap) (d:=0) (Pl.At.here ab aa) s0) s3) s5;refine Pl.qa (S:=(fun w'=>Below w.heap.size w w')) hA (Zae w) ?_;rw [show (Pl.find 4 ((Tryz.f135.body).getD .skip)).size=6 by kernel_rfl];refine Pl.q1 0 11 (Sp.val x) (Pl.q0) (Pl.q6 130 (.tmp 3) (fun w' hS=>ldSp g 0 x w' (hx.below hS).cell3)) (Zae w) ?_;refine Pl.q1 1 12 (.slice (some ⟨b,o,none⟩) len cap) (Pl.q0) (Pl.q2 (.tmp 0)) (Zae w) ?_;refine Pl.q1 2 13 (.int .i64 (i:Int)) (Pl.q0) (Pl.q2 (.tmp 5)) (Zae w) ?_;refine Pl.q1 3 14 (.pointer (some ⟨b,o+i*3,none⟩)) (Pl.q0) (Pl.qj 38 (.tmp 12) (.tmp 13) (ixSp b o len cap i hi)) (Zae w) ?_;refine Pl.q1 4 15 (Sp.val y) (Pl.q0) (Pl.q6 130 (.tmp 14) (fun w' hS=>ldSp b (o+i*3) y w' (hy.below hS))) (Zae w) ?_;refine Pl.q1 5 16 (.bool r) (Pl.q0) (Pl.q9 .eql 130 130 (.tmp 11) (.tmp 15) (Sp.val x) (Sp.val y) (fun w=>hr ▸ Zmp x y _ _ w)) (Zae w) ?_;refine Pl.q7 (fun A' hA'=>?_);rw [Pl.At.ext hA' ((((((hA.put 11 _).put 12 _).put 13 _).put 14 _).put 15 _).put 16 _)];exact hend hA'.fn _ (Zae w)
theorem Zh1 (w:World)(g:Nat)(x:Sp)(r:Bool)(hx:SpBlk w g x)(hr:x.beq Sp.none=r)
    {Q:Exit→Act→World→Prop}(ac:A.tmps.size=51)(ab:A.defers=[])(s5:A.tmps.getD 5 undef=.pointer (some ⟨g,0,none⟩))
    (hend:∀(u:Nat→Value) w',Below w.heap.size w w'→Q .normal ((((A).put (some 34) (u 34)).put (some 35) (u 35)).put (some 36) (.bool r)) w') :
    (Code.region 9 (Pl.find 9 ((Tryz.f114.body).getD .skip)) true).wp Tryz.prog Q A w:=by
  have hA:=Pl.At.same (v:=.pointer (some ⟨g,0,none⟩)) (d:=5) (Pl.At.here ac ab) s5;refine Pl.qa (S:=(fun w'=>Below w.heap.size w w')) hA (Zae w) ?_;rw [show (Pl.find 9 ((Tryz.f114.body).getD .skip)).size=3 by kernel_rfl];refine Pl.q1 0 34 (Sp.val x) (Pl.q0) (Pl.q6 130 (.tmp 5) (fun w' hS=>ldSp g 0 x w' (hx.below hS).cell3)) (Zae w) ?_;refine Pl.qc 1 35 104 [] #[] (Pl.q0) Zfx (Calls.mono (Zde w.drew) ?_);rintro e w1 ⟨rfl,aa⟩;refine⟨Sp.val Sp.none,rfl,(Zaf (Zae w) aa),?_⟩;refine Pl.q1 2 36 (.bool r) (Pl.q0) (Pl.q9 .eql 130 130 (.tmp 34) (.tmp 35) (Sp.val x) (Sp.val Sp.none) (fun w=>hr ▸ Zmp x Sp.none _ _ w)) (Zaf (Zae w) aa) ?_;refine Pl.q7 (fun A' hA'=>?_);rw [Pl.At.ext hA' (((hA.put 34 _).put 35 _).put 36 _)];exact hend hA'.fn _ (Zaf (Zae w) aa)
theorem ZmA {D:Nat→Prop}(w:World)(c q:Nat)(v:Sl)(h:Int)(v0:Value)(h0:Int)(l:List Sp)(hc:CkBlk w c v.val h)(hr:CkBlk w q v0 h0)(af:c≠q)(hg:Gs D w v l)
    {Q:Exit→Act→World→Prop}(ag:A.tmps.size=9)(ae:A.defers=[])(s1:A.tmps.getD 1 undef=.pointer (some ⟨c,0,none⟩))(s2:A.tmps.getD 2 undef=.pointer (some ⟨q,0,none⟩))
    (hend:∀(u:Nat→Value) w' (s:Sl),(CkBlk w' q s.val h∧OwnS w' s l∧s.len=v.len∧Frm (fun k=>k=q) w w'∧∀k,s.blk=some k→w.heap.size≤k)→Q .normal (((((((A).put (some 3) (u 3)).put (some 4) (u 4)).put (some 6) (u 6)).put (some 7) (u 7)).put (some 5) (u 5)).put (some 8) (u 8)) w') :
    (Code.region 1 (Pl.find 1 ((Tryz.f115.body).getD .skip)) true).wp Tryz.prog Q A w:=by
  have hA:=Pl.At.same (v:=.pointer (some ⟨q,0,none⟩)) (d:=2) (Pl.At.same (v:=.pointer (some ⟨c,0,none⟩)) (d:=1) (Pl.At.here ag ae) s1) s2;refine Pl.qa (S:=(fun w'=>CkBlk w' c v.val h)) hA (hc.below (Zae w)) ?_;rw [show (Pl.find 1 ((Tryz.f115.body).getD .skip)).size=7 by kernel_rfl];refine Pl.q1 0 3 (.pointer (some ⟨c,0,none⟩)) (Pl.q0) (Pl.q4 40 (.tmp 1) 0 (ZmH c)) (hc.below (Zae w)) ?_;refine Pl.q1 1 4 (Sl.val v) (Pl.q0) (Pl.q6 38 (.tmp 3) (fun w' hS=>ZmY c v h w' hS)) (hc.below (Zae w)) ?_;refine Pl.q1 3 6 (.pointer (some ⟨c,1,none⟩)) (Pl.q0) (Pl.q4 40 (.tmp 1) 1 (ZoR c)) (hc.below (Zae w)) ?_;refine Pl.q1 4 7 (.int .i64 h) (Pl.q0) (Pl.q6 3 (.tmp 6) (fun w' hS=>Zoi c v.val h w' hS)) (hc.below (Zae w)) ?_;refine Pl.qc 2 5 125 [(.tmp 4)] #[38] (Pl.q0) Zjt (Calls.mono (Zio w.drew v l (hg.below (Zae w) (Nat.le_refl _))) ?_);rintro e w1 ⟨ab,s,rfl,ho,hl,hk⟩;have aa:CkBlk w1 c v.val h:=hc.below (Zaf (Zae w) ab);have ac:CkBlk w1 q v0 h0:=hr.below (Zaf (Zae w) ab);refine⟨Sl.val s,rfl,aa,?_⟩;refine Pl.q1 5 8 (ckV s h) (Pl.q0) (Pl.q_38 40 [(0,.tmp 5),(1,.tmp 7)] (fun w=>ZkX s h w)) aa ?_;have ad:CkBlk (setCk w1 q s.val h) c v.val h:=aa.at ((ZbC w1 q s.val h).block c aa.lt af);refine Pl.qd 6 (setCk w1 q s.val h) (Pl.q0) (Pl.qh 40 (.tmp 2) (.tmp 8) _ (ZdP q s h w1 ac)) ad ?_;refine Pl.q7 (fun A' hA'=>?_);rw [Pl.At.ext hA' ((((((hA.put 3 _).put 4 _).put 6 _).put 7 _).put 5 _).put 8 _)];exact hend hA'.fn _ s ⟨ac.set s.val h,ho.frame (fun k hk'=>(ZbC w1 q s.val h).block k (Own.lt ho hk') (by have e1:=hk k hk';have e2:=hr.lt;have e3:w.drew.heap.size=w.heap.size:=rfl;omega)),hl,(Frm.ofBelow (F:=fun k=>k=q) (Zaf (Zae w) ab)).trans (ZbC w1 q s.val h) (fun _ _ e=>e),hk⟩
theorem ZnR (w:World)(c:Nat)(v:Sl)(h:Int)(l:List Sp)(hc:CkBlk w c v.val h)(hI:∀w1,Below w.heap.size w w1→Calls Tryz.prog 135 #[v.val,Sp.none.val] w1 fun e w2=>e=.returned (.int .i64 (ixN l))∧Below w1.heap.size w1 w2)
    {Q:Exit→Act→World→Prop}(ad:A.tmps.size=59)(ac:A.defers=[])(s0:A.tmps.getD 0 undef=.pointer (some ⟨c,0,none⟩))
    (hend:∀(u:Nat→Value) w',Below w.heap.size w w'→Q .normal ((((((((A).put (some 6) (u 6)).put (some 7) (u 7)).put (some 8) (u 8)).put (some 9) (u 9)).put (some 10) (u 10)).put (some 11) (u 11)).put (some 3) (.int .i64 (ixN l))) w') :
    (Code.region 1 (Pl.find 1 ((Tryz.f128.body).getD .skip)) true).wp Tryz.prog Q A w:=by
  have hA:=Pl.At.same (v:=.pointer (some ⟨c,0,none⟩)) (d:=0) (Pl.At.here ad ac) s0;refine Pl.qa (S:=(fun w'=>Below w.heap.size w w')) hA (Zae w) ?_;rw [show (Pl.find 1 ((Tryz.f128.body).getD .skip)).size=7 by kernel_rfl];refine Pl.q1 0 6 (.pointer (some ⟨c,0,none⟩)) (Pl.q0) (Pl.q2 (.tmp 0)) (Zae w) ?_;refine Pl.q1 1 7 (.pointer (some ⟨c,0,none⟩)) (Pl.q0) (Pl.qg (.tmp 6)) (Zae w) ?_;refine Pl.q1 2 8 (.pointer (some ⟨c,0,none⟩)) (Pl.q0) (Pl.q4 40 (.tmp 7) 0 (ZmH c)) (Zae w) ?_;refine Pl.q1 3 9 (Sl.val v) (Pl.q0) (Pl.q6 38 (.tmp 8) (fun w' hS=>ZmY c v h w' (hc.below hS))) (Zae w) ?_;refine Pl.qc 4 10 104 [] #[] (Pl.q0) Zfx (Calls.mono (Zde w.drew) ?_);rintro e w1 ⟨rfl,aa⟩;refine⟨Sp.val Sp.none,rfl,(Zaf (Zae w) aa),?_⟩;refine Pl.qc 5 11 135 [(.tmp 9),(.tmp 10)] #[38,130] (Pl.q0) Zlf (Calls.mono (hI w1 (Zaf (Zae w) aa)) ?_);rintro e w2 ⟨rfl,ab⟩;refine⟨.int .i64 (ixN l),rfl,(Zaf (Zaf (Zae w) aa) ab),?_⟩;refine Pl.q1 6 3 (.int .i64 (ixN l)) (Pl.q0) (Pl.qm (.tmp 11)) (Zaf (Zaf (Zae w) aa) ab) ?_;refine Pl.q7 (fun A' hA'=>?_);rw [Pl.At.ext hA' (((((((hA.put 6 _).put 7 _).put 8 _).put 9 _).put 10 _).put 11 _).put 3 _)];exact hend hA'.fn _ (Zaf (Zaf (Zae w) aa) ab)
theorem ZnJ (w:World)(c b o len cap i:Nat)(h:Int)(l:List Sp)(hc:CkBlk w c (.slice (some ⟨b,o,none⟩) len cap) h)(ho:OwnS w ⟨some ⟨b,o,none⟩,len,cap⟩ l)(hi:i<len)(af:c≠b)
    {Q:Exit→Act→World→Prop}(ag:A.tmps.size=36)(ae:A.defers=[])(s7:A.tmps.getD 7 undef=.pointer (some ⟨c,0,none⟩))(s8:A.tmps.getD 8 undef=.int .i64 (i:Int))
    (hend:∀(u:Nat→Value) w',(CkBlk w' c (.slice (some ⟨b,o,none⟩) len cap) h∧OwnS w' ⟨some ⟨b,o,none⟩,len,cap⟩ (l.set i Sp.none)∧Frm (fun k=>k=b) w w')→Q .normal ((((((A).put (some 30) (u 30)).put (some 31) (u 31)).put (some 32) (u 32)).put (some 33) (u 33)).put (some 34) (u 34)) w') :
    (Code.region 10 (Pl.find 10 ((Tryz.f94.body).getD .skip)) true).wp Tryz.prog Q A w:=by
  have hA:=Pl.At.same (v:=.int .i64 (i:Int)) (d:=8) (Pl.At.same (v:=.pointer (some ⟨c,0,none⟩)) (d:=7) (Pl.At.here ag ae) s7) s8;refine Pl.qa (S:=(fun w'=>CkBlk w' c (.slice (some ⟨b,o,none⟩) len cap) h)) hA (hc.below (Zae w)) ?_;rw [show (Pl.find 10 ((Tryz.f94.body).getD .skip)).size=6 by kernel_rfl];refine Pl.q1 0 30 (.pointer (some ⟨c,0,none⟩)) (Pl.q0) (Pl.q4 40 (.tmp 7) 0 (ZmH c)) (hc.below (Zae w)) ?_;refine Pl.q1 1 31 (.slice (some ⟨b,o,none⟩) len cap) (Pl.q0) (Pl.q6 38 (.tmp 30) (fun w' hS=>ZmY c ⟨some ⟨b,o,none⟩,len,cap⟩ h w' hS)) (hc.below (Zae w)) ?_;refine Pl.q1 2 32 (.int .i64 (i:Int)) (Pl.q0) (Pl.q2 (.tmp 8)) (hc.below (Zae w)) ?_;refine Pl.qc 3 33 104 [] #[] (Pl.q0) Zfx (Calls.mono (Zde w.drew) ?_);rintro e w1 ⟨rfl,ac⟩;have ab:CkBlk w1 c (.slice (some ⟨b,o,none⟩) len cap) h:=hc.below (Zaf (Zae w) ac);have aa:=ho.below (Zaf (Zae w) ac);refine⟨Sp.val Sp.none,rfl,ab,?_⟩;refine Pl.q1 4 34 (.pointer (some ⟨b,o+i*3,none⟩)) (Pl.q0) (Pl.qj 38 (.tmp 31) (.tmp 32) (ixSp b o len cap i hi)) ab ?_;obtain⟨k0,k1,k2⟩:=aa.cells rfl hi;have ad:CkBlk (setSp w1 b (o+i*3) Sp.none) c (.slice (some ⟨b,o,none⟩) len cap) h:=ab.at ((Ze1 w1 b _ Sp.none).block c ab.lt af);refine Pl.qd 5 (setSp w1 b (o+i*3) Sp.none) (Pl.q0) (Pl.qh 130 (.tmp 34) (.tmp 33) _ (ZhY b (o+i*3) Sp.none w1 k0 k1 k2 (aa.frozen rfl _) (aa.frozen rfl _) (aa.frozen rfl _))) ad ?_;refine Pl.q7 (fun A' hA'=>?_);rw [Pl.At.ext hA' (((((hA.put 30 _).put 31 _).put 32 _).put 33 _).put 34 _)];exact hend hA'.fn _ ⟨ad,aa.store rfl i Sp.none,(Frm.ofBelow (F:=fun k=>k=b) (Zaf (Zae w) ac)).trans (Ze1 w1 b _ Sp.none) (fun _ _ e=>e)⟩
theorem ZjM {D:Nat→Prop}(w:World)(v:Sl)(l:List Sp)(h:Gs D w v l) :
    Calls Tryz.prog 135 #[v.val,Sp.none.val] w fun e w'=>e=.returned (.int .i64 (ixN l))∧Below w.heap.size w w':=by
  obtain⟨a,len,cap⟩:=v;have hl:l.length=len:=h.len;have HL:=hide hl;have ai:len≤1000000:=h.big;have hA:=Zaa w (.cells #[.int .i64 (-1),.bool false,.bool false] 130);have HG:=hide (h.below hA (Nat.le_refl _));have H0:=hide (Below.refl (w.alloc (.cells #[.int .i64 (-1),.bool false,.bool false] 130)).heap.size (w.alloc (.cells #[.int .i64 (-1),.bool false,.bool false] 130)));have HB:=hide (Zck w Sp.none);have HA:=hide hA;have HI:Hid (ixN l=ixF (fun s=>Sp.none.beq s) (l.drop 0) 0):=rfl;clear h hl hA;unfold Sl.val Sp.val Sp.none;simp only;go_enter Tryz.func135,Tryz.ntmps135;go_wp2_with fail;generalize hW:w.alloc (.cells #[.int .i64 (-1),.bool false,.bool false] 130)=W at *;have HB':Hid (SpBlk W w.heap.size Sp.none):=hide (by have:=HB.out;unfold Sp.none at this;simp only at this;rw [hW] at this;exact this);clear hW HB;go_loopw [8] (fun iv wr=>∃i:Nat,i≤len∧iv=.int .i64 (i:Nat)∧Hid (ixN l=ixF (fun s=>Sp.none.beq s) (l.drop i) i)∧Hid (Below W.heap.size W wr)) (fun iv _=>len-(intOf iv).toNat)
  case atStart=>exact ⟨0,Nat.zero_le _,rfl,HI,H0⟩
  case round =>
   obtain⟨i,hi,rfl,aa,ad⟩:=hrel;rcases Nat.lt_or_ge i len with ae | aj
   · (have i1:(i:Int)<(len:Int):=by omega);obtain⟨bb,oo,ha,c0,c1,c2⟩:=(HG.out.below ad.out (Nat.le_refl _)).cell i ae;replace ha:a=some ⟨bb,oo,none⟩:=ha;subst ha;have ag:Hid (Cell3 wr bb (oo+i*3) (fr l i)):=⟨c0,c1,c2⟩;have af:=hide (HB'.out.below ad.out);clear c0 c1 c2;cases hon:Sp.none.beq (fr l i) with
     | true =>
      have HE:Hid (ixN l=(i:Int)):=aa.out.trans (ZgU (by rw [HL.out];exact ae) hon);have ah:=hide hon;clear aa hon;go_wp2_with fail;refine Pl.q8 (ops:=Pl.find 4 ((Tryz.f135.body).getD .skip)) ?_;refine Zmu _ bb oo len cap i w.heap.size Sp.none (fr l i) true ae af.out ag.out ah.out (by rfl) rfl (by rfl) (by rfl) (by rfl) ?_;intro u w1 ac;simp only [Act.put,List.setIfInBounds_toArray,List.set_cons_zero,List.set_cons_succ];have ab:=hide (Zaf HA.out (Zaf ad.out ac));clear ac ag af;go_wp2_with fail;go_ret;exact⟨by rw [HE.out];rfl,ab.out⟩
     | false =>
      have HE:Hid (ixN l=ixF (fun s=>Sp.none.beq s) (l.drop (i+1)) (i+1)):=aa.out.trans (Zf5 (by rw [HL.out];exact ae) hon);have ah:=hide hon;clear aa hon;go_wp2_with fail;refine Pl.q8 (ops:=Pl.find 4 ((Tryz.f135.body).getD .skip)) ?_;refine Zmu _ bb oo len cap i w.heap.size Sp.none (fr l i) false ae af.out ag.out ah.out (by rfl) rfl (by rfl) (by rfl) (by rfl) ?_;intro u w1 ac;simp only [Act.put,List.setIfInBounds_toArray,List.set_cons_zero,List.set_cons_succ];have ab:=hide (Zaf ad.out ac);clear ac ag af;go_wp2_with fail;go_roundw
      case rel=>exact ⟨i+1,by omega,by go_num,HE,ab⟩
      case measure=>simp only [intOf];omega
   · have HE:Hid (ixN l = -1):=aa.out.trans (ZgT (by rw [HL.out];exact aj));(have i1:¬(i:Int)<(len:Int):=by omega);have ab:=hide (Zaf HA.out ad.out);clear aa;go_wp2_with fail;go_ret;exact⟨by rw [HE.out];rfl,ab.out⟩
theorem ZcA {D:Nat→Prop}(w:World)(v:Sl)(h:Int)(l:List Sp)(hg:Gs D w v l) :
    Calls Tryz.prog 115 #[ckV v h] w fun e w'=>Below w.heap.size w w'∧∃s:Sl,e=.returned (ckV s h)∧OwnS w' s l∧s.len=v.len∧∀k,s.blk=some k→w.heap.size≤k:=by
  have ac:=Zaa w (.cells #[v.val,.int .i64 h] 40);have aa:=Zaa (w.alloc (.cells #[v.val,.int .i64 h] 40)) (.cells #[.slice none 0 0,.int .i64 0] 40);have ad:=(Zbf w v.val h).below aa;have ab:=Zbf (w.alloc (.cells #[v.val,.int .i64 h] 40)) (.slice none 0 0) 0;rw [ZaA] at ab;have ae:=hide ad;have af:=hide ab;have hA:=Zaf ac aa;have HG:=hide (hg.below hA (Nat.le_refl _));have HA:=hide hA;(have HS:Hid (w.heap.size≠w.heap.size+1):=by show _≠_;omega);clear hg ac aa ad ab hA;obtain⟨a,len,cap⟩:=v;unfold ckV Sl.val;simp only;go_enter Tryz.func115,Tryz.ntmps115;go_wp2_with fail;refine Pl.q8 (ops:=Pl.find 1 ((Tryz.f115.body).getD .skip)) ?_;refine ZmA _ w.heap.size (w.heap.size+1) ⟨a,len,cap⟩ h _ _ l ae.out af.out HS.out HG.out (by rfl) rfl (by rfl) (by rfl) ?_;intro u w1 s ⟨hr,ho,hl,hf,hk⟩;simp only [Act.put,List.setIfInBounds_toArray,List.set_cons_zero,List.set_cons_succ];have HR:=hide hr;have HF:Hid (Below w.heap.size w w1):=HA.out.trans (hf.below HA.out.size (fun k hk=>by rw [hk];exact Nat.le_succ _));have HO:=hide ho;have HL:=hide hl;have HK:Hid (∀k,s.blk=some k→w.heap.size≤k):=fun k h9=>Nat.le_trans HA.out.size (hk k h9);clear hr ho hl hf hk;go_wp2_with fail;refine bodyPost_ret (ZeW rfl HR.out _ rfl) rfl ?_;exact⟨HF.out,s,rfl,HO.out,HL.out,HK.out⟩
theorem ZeR {D:Nat→Prop}(w:World)(v:Sl)(h:Int)(l:List Sp)(hg:Gs D w v l)(p:Int) :
    Calls Tryz.prog 97 #[ckV v h,.int .i64 p] w fun e w'=>e=.returned (.int .i64 (ixP l p))∧Below w.heap.size w w':=by
  obtain⟨a,len,cap⟩:=v;have hl:l.length=len:=hg.len;have HL:=hide hl;have ad:len≤1000000:=hg.big;have hA:=Zaa w (.cells #[.slice a len cap,.int .i64 h] 40);have HG:=hide (hg.below hA (Nat.le_refl _));have HA:=hide hA;have HI:Hid (ixP l p=ixF (onP p) (l.drop 0) 0):=rfl;clear hg hl hA;unfold ckV Sl.val;simp only;go_enter Tryz.func97,Tryz.ntmps97;go_wp2_with fail;go_loopw [5] (fun iv wr=>wr=w.alloc (.cells #[.slice a len cap,.int .i64 h] 40)∧∃i:Nat,i≤len∧iv=.int .i64 (i:Nat)∧Hid (ixP l p=ixF (onP p) (l.drop i) i)) (fun iv _=>len-(intOf iv).toNat)
  case atStart=>exact ⟨rfl,0,Nat.zero_le _,rfl,HI⟩
  case round =>
   obtain⟨rfl,i,hi,rfl,aa⟩:=hrel;rcases Nat.lt_or_ge i len with ab | ae
   · (have i1:(i:Int)<(len:Int):=by omega);obtain⟨bb,oo,ha,c0,c1,c2⟩:=HG.out.cell i ab;replace ha:a=some ⟨bb,oo,none⟩:=ha;subst ha;by_cases ac:(fr l i).page=p
     · have HE:Hid (ixP l p=(i:Int)):=aa.out.trans (ZgU (by rw [HL.out];exact ab) (by simpa [onP] using ac));clear aa;go_wp2_with fail;go_ret;exact⟨by rw [HE.out];rfl,HA.out⟩
     · have HE:Hid (ixP l p=ixF (onP p) (l.drop (i+1)) (i+1)):=aa.out.trans (Zf5 (by rw [HL.out];exact ab) (by simpa [onP] using ac));clear aa;go_wp2_with fail;go_roundw
       case rel=>exact ⟨trivial,i+1,by omega,by go_num,HE⟩
       case measure=>simp only [intOf];omega
   · have HE:Hid (ixP l p = -1):=aa.out.trans (ZgT (by rw [HL.out];exact ae));(have i1:¬(i:Int)<(len:Int):=by omega);clear aa;go_wp2_with fail;go_ret;exact⟨by rw [HE.out];rfl,HA.out⟩
def Zex (l:List Sp) (i:Nat) (p:Nat):Bool:=(l.take i).any (onP ((p:Nat):Int))
def seenC (l:List Sp) (i:Nat):List Value:=(List.range 64).map fun p=>Value.bool (Zex l i p)
def Th (w:World) (g:Nat) (l:List Sp) (i:Nat):Prop:=w.heap[g]? = some (Obj.cells (seenC l i).toArray 174 (0,0))
theorem Zey (l:List Sp)(i p:Nat)(hp:p<64):(seenC l i)[p]? = some (.bool (Zex l i p)):=by
 unfold seenC;rw [List.getElem?_map,List.getElem?_range hp];rfl
theorem Th.cell {l:List Sp}(h:Th w g l i)(p:Nat)(hp:p<64):w.cell? ⟨g,p,none⟩=some (.bool (Zex l i p)):=by
 rw [cell_of_row _ _ _ _ _ _ h];simpa using Zey l i p hp
theorem Th.fz {l:List Sp}(h:Th w g l i)(o:Nat):w.frozen? ⟨g,o,none⟩=false:=frozen_of_row w g _ _ 174 h
theorem Th.below {l:List Sp}(h:Th w g l i)(hb:Below w.heap.size w w'):Th w' g l i:=(hb.block g (Array.getElem?_eq_some_iff.1 h).1).trans h
theorem Zg3 {l:List Sp}(hi:i<l.length)(p:Nat):Zex l (i+1) p=(Zex l i p || onP (p:Int) (fr l i)):=by
 unfold Zex;rw [List.take_succ_eq_append_getElem hi,List.any_append,← ZdC hi];simp
theorem ZiQ {l:List Sp}(hi:i<l.length)(h:(fr l i).page<0):seenC l (i+1)=seenC l i:=by
 unfold seenC;apply List.map_congr_left;intro p hp;rw [Zg3 hi p];(have:onP (p:Int) (fr l i)=false:=by unfold onP;rw [beq_eq_false_iff_ne];omega);rw [this,Bool.or_false]
theorem Zk3 {l:List Sp}(hi:i<l.length)(q:Nat)(h:(fr l i).page=(q:Int)):(seenC l i).set q (.bool true)=seenC l (i+1):=by
 apply List.ext_getElem?;intro j;by_cases hj:j<64
 · rw [Zey l (i+1) j hj,List.getElem?_set,Zg3 hi j];(have hl:(seenC l i).length=64:=by simp [seenC]);by_cases e:q=j
   · subst e;rw [if_pos rfl,if_pos (by rw [hl];exact hj)];(have:onP (q:Int) (fr l i)=true:=by unfold onP;rw [h];simp);rw [this,Bool.or_true]
   · rw [if_neg e,Zey l i j hj];(have:onP (j:Int) (fr l i)=false:=by unfold onP;rw [beq_eq_false_iff_ne];omega);rw [this,Bool.or_false]
 · (have hl:(seenC l i).length=64:=by simp [seenC]);(have aa:(seenC l (i+1)).length=64:=by simp [seenC]);rw [List.getElem?_eq_none (by rw [List.length_set,hl];omega),List.getElem?_eq_none (by rw [aa];omega)]
theorem Th.set {l:List Sp}(h:Th w g l i)(hi:i<l.length)(q:Nat)(hq:(fr l i).page=(q:Int)):Th (w.setCell ⟨g,q,none⟩ (.bool true)) g l (i+1):=by
 have h2:=heap_setCell_same _ g q _ 174 (.bool true) h;unfold Th;rw [h2,List.setIfInBounds_toArray,Zk3 hi q hq]
def Zmz:Array Value:=(List.replicate 64 (Value.bool false)).toArray
theorem ZnZ:(Tryz.prog.info? 174).map (fun i=>(i.zero,i.size,i.bytes))=some (some (.agg Zmz),64,64):=by kernel_rfl
theorem Zm5 (l:List Sp)(w:World):(Instr.alloc 174 true (.tuple #[])).run Tryz.prog w=.ok (.pointer (some ⟨w.heap.size,0,none⟩)) (w.alloc (.cells (seenC l 0).toArray 174)):=by
 have e:(seenC l 0).toArray=Zmz:=rfl;rw [e];obtain⟨i0,hi,aa,ab,ac⟩:=info_parts ZnZ;simp [Instr.alloc,zeroValue,typeInfo,hi,aa,newVar,newRow,Value.cells]
def chk (l:List Sp) (h:Int):Int:=if may l h=true then 0 else 1
theorem ZfS {l:List Sp}(e:may l h=true):chk l h=0:=if_pos e
theorem Zjh {l:List Sp}(e:may l h=false):chk l h=1:=if_neg (by rw [e];decide)
theorem ZjX {l:List Sp}(e:¬(1≤l.length∧l.length≤64∧0≤h∧h<l.length)):may l h=false:=by
 cases hm:may l h with
 | false=>rfl
 | true =>
  obtain⟨h1,h2,h3,h4,_⟩:=ZaI.1 hm;exact absurd ⟨h1,h2,h3,h4⟩ e
theorem ZmP {l:List Sp}(h:(fr l i).beq Sp.none=true):gdB l i=true:=by
 unfold gdB;rw [h];rfl
theorem ZmQ {l:List Sp}(hq:(fr l i).page=(q:Int))(aa:q<64)(hs:Zex l i q=false):gdB l i=true:=by
 unfold gdB;unfold Zex at hs;rw [hq,hs];(have:(q:Int)<64:=by omega);simp [this]
theorem ZnX {l:List Sp}(h:(fr l i).beq Sp.none=false)(hp:isPg (fr l i).page=false):gdB l i=false:=by
 unfold gdB;rw [h];unfold isPg at hp;simp at hp ⊢;intro h1 h2;have:=hp h1;omega
theorem Zlu {l:List Sp}(h:(fr l i).beq Sp.none=false)(hq:(fr l i).page=(q:Int))(hs:Zex l i q=true):gdB l i=false:=by
 unfold gdB;unfold Zex at hs;rw [h,hq,hs];simp
theorem Zda {D:Nat→Prop}(w:World)(v:Sl)(h:Int)(l:List Sp)(hg:Gs D w v l) :
    Calls Tryz.prog 114 #[ckV v h] w fun e w'=>e=.returned (.int .i64 (chk l h))∧Below w.heap.size w w':=by
  obtain⟨a,len,cap⟩:=v
  have hl:l.length=len:=hg.len
  have hbig:len≤1000000:=hg.big
  have hA:=Zaa w (.cells #[.slice a len cap,.int .i64 h] 40)
  have HA:=hide hA
  by_cases hok:1≤len∧len≤64∧0≤h∧h<len
  · obtain⟨h1,h2,h3,h4⟩:=hok
    have i1:¬(len:Int)<1:=by omega
    have i2:¬(64:Int)<(len:Int):=by omega
    have i3:¬h<0:=by omega
    have i4:¬(len:Int)≤h:=by omega
    have hA2:=Zaa (w.alloc (.cells #[.slice a len cap,.int .i64 h] 40)) (.cells (seenC l 0).toArray 174)
    have HM:=hide (Zm5 l (w.alloc (.cells #[.slice a len cap,.int .i64 h] 40)))
    have HB:=hide (Zaf hA hA2)
    have hT:Th ((w.alloc (.cells #[.slice a len cap,.int .i64 h] 40)).alloc (.cells (seenC l 0).toArray 174)) (w.heap.size+1) l 0:=by
     have:=heap_alloc_new (w.alloc (.cells #[.slice a len cap,.int .i64 h] 40)) (.cells (seenC l 0).toArray 174)
     rw [ZaA] at this
     exact this
    have HT:=hide hT
    have HL:=hide hl
    have HG:=hide hg
    have HI:Hid (∀j,j<0→gdB l j=true):=fun j hj=>absurd hj (Nat.not_lt_zero _)
    clear hg hl hA hA2 hT h1 h2 h3 h4
    generalize hC:Obj.cells (seenC l 0).toArray 174=C at *
    clear hC
    unfold ckV Sl.val
    simp only
    go_enter Tryz.func114,Tryz.ntmps114
    go_wp2_with (refine Za2 _ rfl 174 rfl (.pointer (some ⟨w.heap.size+1,0,none⟩)) _ (by have:=HM.out;rw [ZaA] at this;exact this) ?_)
    generalize (w.alloc (.cells #[.slice a len cap,.int .i64 h] 40)).alloc C=W at *
    clear HM HA
    go_loopw [30] (fun iv wr=>∃i:Nat,i≤len∧iv=.int .i64 (i:Nat)∧Hid (∀j,j<i→gdB l j=true)∧Hid (Below w.heap.size w wr)∧Hid (Th wr (w.heap.size+1) l i)) (fun iv _=>len-(intOf iv).toNat)
    case atStart=>exact ⟨0,Nat.zero_le _,rfl,HI,HB,HT⟩
    case round =>
     obtain⟨i,hi,rfl,hix,hbr,hth⟩:=hrel
     rcases Nat.lt_or_ge i len with hlt | hge
     · have i5:(i:Int)<(len:Int):=by omega
       have hil:i<l.length:=by rw [HL.out];exact hlt
       have HIL:=hide hil
       obtain⟨bb,oo,ha,c0,c1,c2⟩:=(HG.out.below hbr.out (Nat.le_refl _)).cell i hlt
       replace ha:a=some ⟨bb,oo,none⟩:=ha
       subst ha
       obtain⟨x,hx⟩:∃x,x=fr l i:=⟨_,rfl⟩
       rw [← hx] at c0 c1 c2
       have HX:=hide hx
       have HSP:=hide (Zck wr x)
       have HAW:=hide (Zaa wr (.cells #[.int .i64 x.page,.bool x.used,.bool x.pin] 130))
       cases hon:x.beq Sp.none with
       | true =>
        have HIX:Hid (∀j,j<i+1→gdB l j=true):=by
         intro j hj
         by_cases e:j=i
         · rw [e];exact ZmP (by rw [← hx];exact hon)
         · exact hix.out j (by omega)
        have HTE:Hid (seenC l (i+1)=seenC l i):=ZiQ hil (by rw [← hx,Sp.beq_iff.1 hon];decide)
        have HON:=hide hon
        clear hon hx hil hix
        go_wp2_with fail
        refine Pl.q8 (ops:=Pl.find 9 ((Tryz.f114.body).getD .skip)) ?_
        refine Zh1 _ wr.heap.size x true HSP.out HON.out (by rfl) rfl (by rfl) ?_
        intro u w1 hb1
        simp only [Act.put,List.setIfInBounds_toArray,List.set_cons_zero,List.set_cons_succ]
        have hb2:=Zaf HAW.out hb1
        have HB2:=hide (Zaf hbr.out hb2)
        have HT2:Hid (Th w1 (w.heap.size+1) l (i+1)):=by
         have e:=hth.out.below hb2
         unfold Th at e ⊢
         rw [HTE.out]
         exact e
        clear hb1 hb2 HSP HAW HTE
        go_wp2_with fail
        go_roundw
        case rel=>exact ⟨i+1,by omega,by go_num,HIX,HB2,HT2⟩
        case measure=>simp only [intOf];omega
       | false =>
        cases hpg:isPg x.page with
        | false =>
         have HMF:=hide (Zjh (ZjY (h:=h) hil (ZnX (by rw [← hx];exact hon) (by rw [← hx];exact hpg))))
         have HP:=hide (ZbI x.page)
         rw [hpg] at HP
         have HON:=hide hon
         clear hon hx hil hix hpg
         go_wp2_with fail
         refine Pl.q8 (ops:=Pl.find 9 ((Tryz.f114.body).getD .skip)) ?_
         refine Zh1 _ wr.heap.size x false HSP.out HON.out (by rfl) rfl (by rfl) ?_
         intro u w1 hb1
         simp only [Act.put,List.setIfInBounds_toArray,List.set_cons_zero,List.set_cons_succ]
         have hb2:=Zaf HAW.out hb1
         have HB2:=hide (Zaf hbr.out hb2)
         have hs1:=HSP.out.below hb1
         have k0:=hs1.c0
         clear hb1 hb2 HSP HAW hs1 c0 c1 c2
         go_wp2_with fail
         refine(HP.out _).mono ?_
         rintro e w2 ⟨rfl,hw2⟩
         obtain rfl:=hw2.symm
         go_wp2_with fail
         go_ret
         exact⟨by rw [HMF.out];rfl,HB2.out⟩
        | true =>
         have hpp:0≤x.page∧x.page<64:=by unfold isPg at hpg;simpa using hpg
         obtain⟨q,hq⟩:=Int.eq_ofNat_of_zero_le hpp.1
         have hq64:q<64:=by omega
         have HQ:=hide hq
         have HP:=hide (ZbI x.page)
         rw [hpg] at HP
         cases hse:Zex l i q with
         | true =>
          have HMF:=hide (Zjh (ZjY (h:=h) hil (Zlu (by rw [← hx];exact hon) (by rw [← hx];exact hq) hse)))
          have HON:=hide hon
          have HSE:=hide hse
          clear hon hx hil hix hpg hse hpp hq
          go_wp2_with fail
          refine Pl.q8 (ops:=Pl.find 9 ((Tryz.f114.body).getD .skip)) ?_
          refine Zh1 _ wr.heap.size x false HSP.out HON.out (by rfl) rfl (by rfl) ?_
          intro u w1 hb1
          simp only [Act.put,List.setIfInBounds_toArray,List.set_cons_zero,List.set_cons_succ]
          have hb2:=Zaf HAW.out hb1
          have HB2:=hide (Zaf hbr.out hb2)
          have hs1:=HSP.out.below hb1
          have k0:=hs1.c0
          rw [HQ.out] at k0
          have kt:=(hth.out.below hb2).cell q hq64
          rw [HSE.out] at kt
          rw [HQ.out] at HP
          have i6:(0:Int)≤(q:Int):=by omega
          have i7:(q:Int)<64:=by omega
          clear hb1 hb2 HSP HAW hs1 c0 c1 c2
          go_wp2_with fail
          refine(HP.out _).mono ?_
          rintro e w2 ⟨rfl,hw2⟩
          obtain rfl:=hw2.symm
          go_wp2_with fail
          go_ret
          exact⟨by rw [HMF.out];rfl,HB2.out⟩
         | false =>
          have HIX:Hid (∀j,j<i+1→gdB l j=true):=by
           intro j hj
           by_cases e:j=i
           · rw [e];exact ZmQ (by rw [← hx];exact hq) hq64 hse
           · exact hix.out j (by omega)
          have HON:=hide hon
          have HSE:=hide hse
          clear hon hx hil hix hpg hse hpp hq
          go_wp2_with fail
          refine Pl.q8 (ops:=Pl.find 9 ((Tryz.f114.body).getD .skip)) ?_
          refine Zh1 _ wr.heap.size x false HSP.out HON.out (by rfl) rfl (by rfl) ?_
          intro u w1 hb1
          simp only [Act.put,List.setIfInBounds_toArray,List.set_cons_zero,List.set_cons_succ]
          have hb2:=Zaf HAW.out hb1
          have HB2:=hide ((Zaf hbr.out hb2).setCell (p:=⟨w.heap.size+1,q,none⟩) (Nat.le_succ _) (.bool true))
          have hs1:=HSP.out.below hb1
          have k0:=hs1.c0
          rw [HQ.out] at k0
          have hth1:=hth.out.below hb2
          have kt:=hth1.cell q hq64
          rw [HSE.out] at kt
          have kf:=hth1.fz q
          have HT2:=hide (hth1.set HIL.out q (by rw [← HX.out];exact HQ.out))
          rw [HQ.out] at HP
          have i6:(0:Int)≤(q:Int):=by omega
          have i7:(q:Int)<64:=by omega
          clear hb1 hb2 HSP HAW hs1 c0 c1 c2 hth1
          go_wp2_with fail
          refine(HP.out _).mono ?_
          rintro e w2 ⟨rfl,hw2⟩
          obtain rfl:=hw2.symm
          go_wp2_with fail
          go_roundw
          case rel=>exact ⟨i+1,by omega,by go_num,HIX,HB2,HT2⟩
          case measure=>simp only [intOf];omega
     · have i5:¬(i:Int)<(len:Int):=by omega
       have HE:Hid (chk l h=0):=ZfS (ZaI.2 ⟨by rw [HL.out];omega,by rw [HL.out];omega,by omega,by rw [HL.out];omega,fun j hj=>(Zf2 hj).1 (hix.out j (by rw [HL.out] at hj;omega))⟩)
       clear hix
       go_wp2_with fail
       go_ret
       exact⟨by rw [HE.out];rfl,hbr.out⟩
  · have HE:=hide (Zjh (ZjX (l:=l) (h:=h) (by rw [hl];exact hok)))
    clear hg hl hA
    unfold ckV Sl.val
    simp only
    by_cases h1:1≤len
    · by_cases h2:len≤64
      · have i1:¬(len:Int)<1:=by omega
        have i2:¬(64:Int)<(len:Int):=by omega
        by_cases h3:0≤h
        · have i3:¬h<0:=by omega
          have i4:(len:Int)≤h:=by omega
          clear hok
          go_enter Tryz.func114,Tryz.ntmps114
          go_wp2_with fail
          go_ret
          exact⟨by rw [HE.out];rfl,HA.out⟩
        · have i3:h<0:=by omega
          clear hok
          go_enter Tryz.func114,Tryz.ntmps114
          go_wp2_with fail
          go_ret
          exact⟨by rw [HE.out];rfl,HA.out⟩
      · have i1:¬(len:Int)<1:=by omega
        have i2:(64:Int)<(len:Int):=by omega
        clear hok
        go_enter Tryz.func114,Tryz.ntmps114
        go_wp2_with fail
        go_ret
        exact⟨by rw [HE.out];rfl,HA.out⟩
    · have i1:(len:Int)<1:=by omega
      clear hok
      go_enter Tryz.func114,Tryz.ntmps114
      go_wp2_with fail
      go_ret
      exact⟨by rw [HE.out];rfl,HA.out⟩
theorem ZoC (w:World)(p:Nat)(v0:Value)(h0:Int)(k:CkBlk w p v0 h0)(v:Sl):∃W,(Instr.storeAt 38 (.pointer (some ⟨p,0,none⟩)) v.val).run Tryz.prog w=.ok () W∧CkBlk W p v.val h0∧Frm (fun k=>k=p) w W:=by
 refine⟨w.setCell ⟨p,0,none⟩ v.val,?_,k.row v.val,(Frm.refl (fun k=>k=p) w).setCell (p:=⟨p,0,none⟩) rfl _⟩;have c0:=k.c0;have f0:=k.fz 0;unfold Sl.val;simp [go_sem,Instr.storeAt,c0,f0]
theorem ZkB (w:World)(p:Nat)(v0:Value)(h0:Int)(k:CkBlk w p v0 h0)(h:Int):∃W,(Instr.storeAt 3 (.pointer (some ⟨p,1,none⟩)) (.int .i64 h)).run Tryz.prog w=.ok () W∧CkBlk W p v0 h∧Frm (fun k=>k=p) w W:=by
 refine⟨w.setCell ⟨p,1,none⟩ (.int .i64 h),?_,k.hand h,(Frm.refl (fun k=>k=p) w).setCell (p:=⟨p,1,none⟩) rfl _⟩;have c0:=k.c1;have f0:=k.fz 1;simp [go_sem,Instr.storeAt,c0,f0]
theorem Zn9 (w:World)(p:Nat)(v0:Value)(h0:Int)(k:CkBlk w p v0 h0)(v:Sl)(h:Int):∃W,(Instr.storeAt 40 (.pointer (some ⟨p,0,none⟩)) (ckV v h)).run Tryz.prog w=.ok () W∧CkBlk W p v.val h∧Frm (fun k=>k=p) w W:=
 ⟨_,ZdP p v h w k,k.set v.val h,ZbC w p v.val h⟩
theorem ZoD (w:World)(g off len cap:Nat)(l:List Sp)(o:OwnS w ⟨some ⟨g,off,none⟩,len,cap⟩ l)(i:Nat)(hi:i<len)(x:Sp):∃W,(Instr.storeAt 130 (.pointer (some ⟨g,off+i*3,none⟩)) x.val).run Tryz.prog w=.ok () W∧OwnS W ⟨some ⟨g,off,none⟩,len,cap⟩ (l.set i x)∧Frm (fun k=>k=g) w W:=by
 obtain⟨k0,k1,k2⟩:=o.cells rfl hi;exact⟨_,ZhY g (off+i*3) x w k0 k1 k2 (o.frozen rfl _) (o.frozen rfl _) (o.frozen rfl _),o.store rfl i x,Ze1 w g _ x⟩
theorem ZoE (w:World)(g off len cap:Nat)(l:List Sp)(o:OwnS w ⟨some ⟨g,off,none⟩,len,cap⟩ l)(i:Nat)(hi:i<len)(u:Bool):∃W,(Instr.storeAt 4 (.pointer (some ⟨g,off+i*3+1,none⟩)) (.bool u)).run Tryz.prog w=.ok () W∧OwnS W ⟨some ⟨g,off,none⟩,len,cap⟩ (l.set i ⟨(fr l i).page,u,(fr l i).pin⟩)∧Frm (fun k=>k=g) w W:=by
 obtain⟨k0,k1,k2⟩:=o.cells rfl hi;have f1:=o.frozen rfl (off+i*3+1);refine⟨w.setCell ⟨g,off+i*3+1,none⟩ (.bool u),?_,o.use rfl i u,(Frm.refl (fun k=>k=g) w).setCell (p:=⟨g,off+i*3+1,none⟩) rfl _⟩;simp [go_sem,Instr.storeAt,k1,f1]
theorem OwnS.off {b o sl sc:Nat}{l:List Sp}(ho:OwnS w ⟨some ⟨b,o,none⟩,sl,sc⟩ l)(hf:Frm (fun k=>k=p) w W)(hne:b≠p):OwnS W ⟨some ⟨b,o,none⟩,sl,sc⟩ l:=
 ho.frame (fun k hk=>hf.block k (Own.lt ho hk) (by have e:some b=some k:=hk;cases e;exact hne))
theorem CkBlk.off {v:Value}(k:CkBlk w p v h)(hf:Frm (fun k=>k=q) w W)(aa:p≠q):CkBlk W p v h:=k.at (hf.block _ k.lt aa)
theorem SpBlk.off {x:Sp}(k:SpBlk w p x)(hf:Frm (fun k=>k=q) w W)(aa:p≠q):SpBlk W p x:=(hf.block _ k.lt aa).trans k
theorem Below.more (h:Below B w w')(hf:Frm (fun k=>k=p) w' W)(hB:B≤w'.heap.size)(hp:B≤p):Below B w W:=h.trans (hf.below hB (fun k hk=>by rw [hk];exact hp))
theorem Zct {D:Nat→Prop}(w:World)(v:Sl)(h:Int)(l:List Sp)(hg:Gs D w v l)(i:Nat)(hi:i<v.len)(x:Sp) :
    Calls Tryz.prog 98 #[ckV v h,.int .i64 (i:Int),x.val] w fun e w'=>Below w.heap.size w w'∧∃s:Sl,e=.returned (ckV s h)∧Gs (fun k=>w.heap.size≤k) w' s (l.set i x):=by
  obtain⟨a,len,cap⟩:=v
  have hlen:l.length=len:=hg.len
  have hbig:len≤1000000:=hg.big
  replace hi:i<len:=hi
  have hA1:=Zaa w (.cells #[.slice a len cap,.int .i64 h] 40)
  have hA2:=Zaa (w.alloc (.cells #[.slice a len cap,.int .i64 h] 40)) (.cells #[.int .i64 x.page,.bool x.used,.bool x.pin] 130)
  have hA3:=Zaa ((w.alloc (.cells #[.slice a len cap,.int .i64 h] 40)).alloc (.cells #[.int .i64 x.page,.bool x.used,.bool x.pin] 130)) (.cells #[.slice none 0 0,.int .i64 0] 40)
  have hk:=((Zbf w (.slice a len cap) h).below hA2).below hA3
  have hs:=(Zck (w.alloc (.cells #[.slice a len cap,.int .i64 h] 40)) x).below hA3
  have hr:=Zbf ((w.alloc (.cells #[.slice a len cap,.int .i64 h] 40)).alloc (.cells #[.int .i64 x.page,.bool x.used,.bool x.pin] 130)) (.slice none 0 0) 0
  have hA:=Zaf hA1 (Zaf hA2 hA3)
  have HG:=hide (hg.below hA (Nat.le_refl _))
  rw [ZaA] at hs
  rw [ZaA,ZaA] at hr
  have HSZ:Hid ((((w.alloc (.cells #[.slice a len cap,.int .i64 h] 40)).alloc (.cells #[.int .i64 x.page,.bool x.used,.bool x.pin] 130)).alloc (.cells #[.slice none 0 0,.int .i64 0] 40)).heap.size=w.heap.size+1+1+1):=by
   show _=_
   rw [ZaA,ZaA,ZaA]
  have HK:=hide hk
  have HS:=hide hs
  have HR:=hide hr
  have HA:=hide hA
  have HLEN:=hide hlen
  clear hg hA1 hA2 hA3 hA hk hs hr hlen
  unfold ckV Sl.val Sp.val
  simp only
  go_enter Tryz.func98,Tryz.ntmps98
  go_wp2_with (at_builtin;refine Zcn _ rfl (.tmp 7) (.tmp 9) rfl ⟨a,len,cap⟩ l (by show Value.slice (some ⟨w.heap.size+1+1+1,0,none⟩) 0 0=_;rw [HSZ.out]) rfl HG.out ?_)
  generalize ((w.alloc (.cells #[.slice a len cap,.int .i64 h] 40)).alloc (.cells #[.int .i64 x.page,.bool x.used,.bool x.pin] 130)).alloc (.cells #[.slice none 0 0,.int .i64 0] 40)=W at *
  intro v1 w1 ho hl1 hb1 hk1
  obtain⟨b,o,ha⟩:=ho.pos (by rw [hl1];show 0<len;omega)
  obtain⟨sa,sl,sc⟩:=v1
  replace ha:sa=some ⟨b,o,none⟩:=ha
  replace hl1:len=sl:=hl1.symm
  subst ha
  subst hl1
  have hbw:w.heap.size+1+1+1≤b:=hk1 b rfl
  rw [← HSZ.out] at hb1
  have k1:=HK.out.below hb1
  have s1:=HS.out.below hb1
  have r1:=HR.out.below hb1
  have e1:Below w.heap.size w w1:=HA.out.trans (hb1.mono HA.out.size)
  obtain⟨W2,hst2,k2,fr2⟩:=ZoC w1 _ _ _ k1 ⟨some ⟨b,o,none⟩,len,sc⟩
  have o2:=ho.off fr2 (by omega)
  have s2:=s1.off fr2 (by omega)
  have r2:=r1.off fr2 (by omega)
  have e2:=Below.more e1 fr2 e1.size (Nat.le_refl _)
  have hil:i<len:=hi
  obtain⟨W3,hst3,o3,fr3⟩:=ZoD W2 b o len sc l o2 i hil x
  have k3:=k2.off fr3 (by omega)
  have r3:=r2.off fr3 (by omega)
  have e3:=Below.more e2 fr3 e2.size (by omega)
  obtain⟨W4,hst4,r4,fr4⟩:=Zn9 W3 _ _ _ r3 ⟨some ⟨b,o,none⟩,len,sc⟩ h
  have o4:=o3.off fr4 (by omega)
  have HF:=hide (Below.more e3 fr4 e3.size (by omega))
  have HST2:=hide hst2
  have HST3:=hide hst3
  have HST4:=hide hst4
  have g0:=k2.c0
  have q0:=s2.c0
  have q1:=s2.c1
  have q2:=s2.c2
  have m0:=k3.c0
  have m1:=k3.c1
  have HR4:=hide r4
  have HG4:=hide (o4.gs (D:=fun k=>w.heap.size≤k) (fun k hk=>by have e:some b=some k:=hk;cases e;omega) (by show len≤_;omega))
  clear ho hb1 hk1 k1 s1 r1 k2 fr2 o2 s2 r2 fr3 o3 k3 r3 r4 fr4 o4 HG HK HS HR HSZ HA e1 e2 e3 hst2 hst3 hst4
  unfold ckV Sl.val Sp.val at *
  simp only at *
  go_wp2_with (first | refine Zab _ rfl rfl 38 (.tmp 11) (.tmp 10) rfl (.pointer (some ⟨w.heap.size,0,none⟩)) (.slice (some ⟨b,o,none⟩) len sc) rfl rfl W2 HST2.out ?_ | refine Zab _ rfl rfl 130 (.tmp 16) (.tmp 15) rfl (.pointer (some ⟨b,o+i*3,none⟩)) (.agg #[.int .i64 x.page,.bool x.used,.bool x.pin]) rfl rfl W3 HST3.out ?_ | refine Zab _ rfl rfl 40 (.tmp 6) (.tmp 17) rfl (.pointer (some ⟨w.heap.size+1+1,0,none⟩)) (.agg #[.slice (some ⟨b,o,none⟩) len sc,.int .i64 h]) rfl rfl W4 HST4.out ?_)
  refine bodyPost_ret (ZeW (v:=⟨some ⟨b,o,none⟩,len,sc⟩) rfl HR4.out _ rfl) rfl ?_
  exact⟨HF.out,_,rfl,HG4.out⟩
end Go.Proofs.YtpnlebpnhmibfaaGreat
