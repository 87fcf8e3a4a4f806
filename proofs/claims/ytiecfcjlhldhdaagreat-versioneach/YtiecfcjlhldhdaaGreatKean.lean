/-
  Lemmas.
-/
import Derived.Test.YtiecfcjlhldhdaaGreatKeaa
import Derived.Test.YtiecfcjlhldhdaaGreatKeab
import Derived.Laws.MakeOwn
import Derived.Laws.StructEq
namespace Go.Proofs.YtiecfcjlhldhdaaGreat
open Go.RowKit
set_option linter.unusedVariables false
set_option linter.unusedSimpArgs false
set_option maxRecDepth 100000
set_option maxHeartbeats 4000000
variable {w w':World}{v:Sl}{p:Nat}
structure En where
  tx:Int
  st:Int
  last:Int
  com:Int
deriving DecidableEq
def En.zero:En:=⟨0,0,0,0⟩
structure Tbl where
  nx:Int
  no:Int
  cm:Int
  es:List En
deriving DecidableEq
def Tbl.zero:Tbl:=⟨0,0,0,[]⟩
def Zar:Tbl:=⟨1,1,0,List.replicate 12 En.zero⟩
def Tbl.en (t:Tbl) (i:Nat):En:=t.es.getD i En.zero
theorem ZgP {l:List En}{i:Nat}(h:i<l.length):l.getD i En.zero=l[i]:=by simp [List.getD,h]
structure EntOk (t:Tbl) (i:Nat):Prop where
  st:0≤(t.en i).st∧(t.en i).st≤2
  free:(t.en i).st=0→t.en i=En.zero
  tx:(t.en i).st≠0→1≤(t.en i).tx∧(t.en i).tx<t.nx
  last:(t.en i).st≠0→0≤(t.en i).last∧(t.en i).last≤65535
  act:(t.en i).st=1→(t.en i).com=0
  done:(t.en i).st=2→1≤(t.en i).com∧(t.en i).com≤t.cm
  one:(t.en i).st≠0→∀k,k<i→(t.en k).tx≠(t.en i).tx∧(0<(t.en i).com→(t.en k).com≠(t.en i).com)
structure Tbl.May (t:Tbl):Prop where
  nx:1≤t.nx∧t.nx≤2147483647
  no:1≤t.no∧t.no≤2147483647
  cm:0≤t.cm∧t.cm≤2147483647
  len:t.es.length=12
  ok:∀i,i<12→EntOk t i
theorem Zl3:Zar.May:=by
 have hz:∀i,Zar.en i=En.zero:=fun i=>by
  show (List.replicate 12 En.zero).getD i En.zero=En.zero;rw [List.getD_eq_getElem?_getD,List.getElem?_replicate];split <;> rfl
 have h0:En.zero.st=0:=rfl;refine⟨by decide,by decide,by decide,rfl,fun i _=>?_⟩;constructor <;> rw [hz i]
 · decide
 · exact fun _=>rfl
 · exact fun h=>absurd h0 h
 · exact fun h=>absurd h0 h
 · exact fun _=>rfl
 · exact fun h=>by cases h
 · exact fun h=>absurd h0 h
def ixN:Option Nat→Int
  | none=>-1
  | some i=>((i:Nat):Int)
theorem Zqj {p:En→Bool}{l:List En}{i:Nat}(hi:i<l.length)(h1:p (l.getD i En.zero)=true)(h2:∀j,j<i→p (l.getD j En.zero)=false):l.findIdx? p=some i:=by
 refine List.findIdx?_eq_some_iff_getElem.2 ⟨hi,by rw [ZgP hi] at h1;exact h1,fun j hj=>?_⟩;have:=h2 j hj;rw [ZgP (by omega)] at this;simpa using this
theorem Zqk {p:En→Bool}{l:List En}(h:∀j,j<l.length→p (l.getD j En.zero)=false):l.findIdx? p=none:=by
 refine List.findIdx?_eq_none_iff.2 (fun x hx=>?_);obtain⟨j,hj,rfl⟩:=List.getElem_of_mem hx;have:=h j hj;rw [ZgP hj] at this;exact this
namespace Pl
section
variable {P : Program} {ops : Array Oper} {S : World → Prop} {Q : Exit → Act → World → Prop} {n fuel : Nat} {listed : Array Bool} {f : Nat → Value} {w : World}
theorem extr (i:Nat)(x:Operand)(k:Nat)(v:Value)(h:(op ops i).op=.extract x k)(hx:inB n x=true)(hv:∀w,(Instr.extract (ev f x) k).run P w=.ok v w) :
    ∀A,At n A f→∀w,S w→(execOp A.eval (op ops i)).run P w=.ok (.value v) w:=by
  intro A hA w _;have e:execOp A.eval (op ops i)=(do pure (.value (← Instr.extract (A.eval x) k))):=by
   unfold execOp;rw [h]
  rw [e,hA.ev x hx];simp [hv w]
theorem qf {i:Nat}{v:Value}(x:Operand)(k:Nat)(hv:∀w,(Instr.extract (ev f x) k).run P w=.ok v w)(h:(op ops i).op=.extract x k:=by kernel_rfl)(hx:inB n x=true:=by decide):∀A,At n A f→∀w,S w→(execOp A.eval (op ops i)).run P w=.ok (.value v) w:=extr i x k v h hx hv
theorem allocV (i:Nat)(t:TypeId)(v:Value)(w':World)(h:(op ops i).op=.alloc t)(hv:(Instr.alloc t true (.tuple #[])).run P w=.ok v w') :
    ∀A,At n A f→(execOp A.eval (op ops i)).run P w=.ok (.value v) w':=by
  intro A _;have e:execOp A.eval (op ops i)=(do pure (.value (← Instr.alloc t true (.tuple #[])))):=by
   unfold execOp;rw [h]
  rw [e];simp [hv]

theorem qw {i:Nat}{v:Value}{w':World}(t:TypeId)(hv:(Instr.alloc t true (.tuple #[])).run P w=.ok v w')(h:(op ops i).op=.alloc t:=by kernel_rfl):∀A,At n A f→(execOp A.eval (op ops i)).run P w=.ok (.value v) w':=allocV i t v w' h hv
theorem buildV (i:Nat)(t:TypeId)(parts:List (Nat × Operand))(v:Value)(h:(op ops i).op=.build t parts.toArray)(hx:parts.all (fun p=>inB n p.2)=true)(hv:∀w,(Instr.build t (parts.map fun p=>(p.1,ev f p.2)).toArray).run P w=.ok v w) :
    ∀A,At n A f→∀w,S w→(execOp A.eval (op ops i)).run P w=.ok (.value v) w:=by
  intro A hA w _;have e:execOp A.eval (op ops i)=(do pure (.value (← Instr.build t (parts.toArray.map fun p=>(p.1,A.eval p.2))))):=by
   unfold execOp;rw [h]
  have hm:(parts.toArray.map fun p=>(p.1,A.eval p.2))=(parts.map fun p=>(p.1,ev f p.2)).toArray:=by
   simp only [List.map_toArray];congr 1;apply List.map_congr_left;intro p hp;rw [hA.ev p.2 (List.all_eq_true.1 hx p hp)]
  rw [e,hm];simp [hv w]
theorem q_38 {i:Nat}{v:Value}(t:TypeId)(parts:List (Nat × Operand))(hv:∀w,(Instr.build t (parts.map fun p=>(p.1,ev f p.2)).toArray).run P w=.ok v w)(h:(op ops i).op=.build t parts.toArray:=by kernel_rfl)(hx:parts.all (fun p=>inB n p.2)=true:=by decide):∀A,At n A f→∀w,S w→(execOp A.eval (op ops i)).run P w=.ok (.value v) w:=buildV i t parts v h hx hv
theorem mkV (i:Nat)(t:TypeId)(x y:Operand)(v:Value)(w':World)(h:(op ops i).op=.makeSlice t x y)(hx:inB n x=true)(hy:inB n y=true)
    (hv:(Instr.makeSlice t (ev f x) (ev f y)).run P w=.ok v w'):∀A,At n A f→(execOp A.eval (op ops i)).run P w=.ok (.value v) w':=by
  intro A hA;have e:execOp A.eval (op ops i)=(do pure (.value (← Instr.makeSlice t (A.eval x) (A.eval y)))):=by
   unfold execOp;rw [h]
  rw [e,hA.ev x hx,hA.ev y hy];simp [hv]
theorem bsV (i:Nat)(t:TypeId)(m:Nat)(parts:List (Nat × Operand))(v:Value)(w':World)(h:(op ops i).op=.buildSlice t m parts.toArray)(hx:parts.all (fun p=>inB n p.2)=true)(hv:(Instr.buildSlice t m (parts.map fun p=>(p.1,ev f p.2)).toArray).run P w=.ok v w') :
    ∀A,At n A f→(execOp A.eval (op ops i)).run P w=.ok (.value v) w':=by
  intro A hA;have e:execOp A.eval (op ops i)=(do pure (.value (← Instr.buildSlice t m (parts.toArray.map fun p=>(p.1,A.eval p.2))))):=by
   unfold execOp;rw [h]
  have hm:(parts.toArray.map fun p=>(p.1,A.eval p.2))=(parts.map fun p=>(p.1,ev f p.2)).toArray:=by
   simp only [List.map_toArray];congr 1;apply List.map_congr_left;intro p hp;rw [hA.ev p.2 (List.all_eq_true.1 hx p hp)]
  rw [e,hm];simp [hv]
end
end Pl
def En.val (e:En):Value:=.agg #[.int .i64 e.tx,.int .i64 e.st,.int .i64 e.last,.int .i64 e.com]
def En.cells (e:En):List Value:=[.int .i64 e.tx,.int .i64 e.st,.int .i64 e.last,.int .i64 e.com]
def Zca (l:List En):List Value:=l.flatMap En.cells
def Tbl.val (t:Tbl) (v:Sl):Value:=.agg #[.int .i64 t.nx,.int .i64 t.no,.int .i64 t.cm,.slice v.a v.len v.cap]
theorem Zc9 (e:En)(l:List En):Zca (e :: l)=e.cells ++ Zca l:=rfl
theorem Zfn:∀l:List En,(Zca l).length=l.length*4
 | []=>rfl
 | e :: l=>by
  rw [Zc9,List.length_append,Zfn l,List.length_cons]
  have:e.cells.length=4:=rfl
  omega
theorem Zfm:∀(l:List En)(j t:Nat),j<l.length→t<4→(Zca l)[j*4+t]? = (l.getD j En.zero).cells[t]?
 | [],j,t,hj,_=>by simp at hj
 | e :: l,0,t,_,ht=>by
  have hl:e.cells.length=4:=rfl
  rw [Zc9,Nat.zero_mul,Nat.zero_add,List.getElem?_append_left (by omega)]
  rfl
 | e :: l,j+1,t,hj,ht=>by
  have hl:e.cells.length=4:=rfl
  rw [Zc9,List.getElem?_append_right (by omega),hl,show (j+1)*4+t-4=j*4+t by omega]
  exact Zfm l j t (by simpa using hj) ht
structure EnAt (w:World) (b o:Nat) (e:En):Prop where
  c0:w.cell? ⟨b,o,none⟩=some (.int .i64 e.tx)
  c1:w.cell? ⟨b,o+1,none⟩=some (.int .i64 e.st)
  c2:w.cell? ⟨b,o+2,none⟩=some (.int .i64 e.last)
  c3:w.cell? ⟨b,o+3,none⟩=some (.int .i64 e.com)
theorem EnAt.keep {B b o:Nat}{e:En}(h:EnAt w b o e)(hb:Below B w w')(hB:w.heap.size≤B):EnAt w' b o e:=by
 have k:∀{p:Addr} {v:Value},w.cell? p=some v→w'.cell? p=some v:=fun {p v} hc=>(hb.cell (Nat.lt_of_lt_of_le (World.block_lt_of_cell? w _ hc) hB)).trans hc;exact⟨k h.c0,k h.c1,k h.c2,k h.c3⟩
theorem EnAt.of {b o:Nat}{e:En}(h:∀t,t<4→w.cell? ⟨b,o+t,none⟩=e.cells[t]?):EnAt w b o e:=
 ⟨h 0 (by decide),h 1 (by decide),h 2 (by decide),h 3 (by decide)⟩
theorem Zii (b o:Nat)(e:En)(w:World)(h:EnAt w b o e):(Instr.loadAt 127 (.pointer (some ⟨b,o,none⟩))).run Tryz.prog w=.ok e.val w:=by
 have c0:=h.c0;have c1:=h.c1;have c2:=h.c2;have c3:=h.c3;simp [go_sem,c0,c1,c2,c3,En.val]
theorem ixEn (b o len cap k:Nat)(hk:k<len)(w:World):(Instr.indexAt 22 (.slice (some ⟨b,o,none⟩) len cap) (.int .i64 (k:Nat))).run Tryz.prog w=.ok (.pointer (some ⟨b,o+k*4,none⟩)) w:=by
 (have aa:Tryz.prog.underlying 22=some (.slice (Tryz.prog.elem 22)):=by kernel_rfl);(have h1:(0:Int)≤(k:Int):=by omega);simp [go_sem,Instr.indexAt,run_underlying aa,h1,Addr.add_lit];omega
structure Es (w:World) (v:Sl) (l:List En):Prop where
  len:l.length=v.len
  nil:v.a=none→v.cap=0
  le:v.len≤v.cap
  big:v.len≤9223372036854775807
  at':∀j,j<v.len→∃b off,v.a=some ⟨b,off,none⟩∧EnAt w b (off+j*4) (l.getD j En.zero)
theorem Es.keep {B:Nat}{l:List En}(h:Es w v l)(hb:Below B w w')(hB:w.heap.size≤B):Es w' v l:=by
 refine⟨h.len,h.nil,h.le,h.big,fun j hj=>?_⟩;obtain⟨b,off,ha,hu⟩:=h.at' j hj;exact⟨b,off,ha,hu.keep hb hB⟩
theorem Es.none (w:World):Es w Sl.nil []:=⟨rfl,fun _=>rfl,Nat.le_refl _,by decide,fun _ h=>absurd h (Nat.not_lt_zero _)⟩
theorem Zo3:(Tryz.prog.info? 127).map (fun i=>(i.zero,i.size,i.bytes))=some (some (.agg #[.int .i64 0,.int .i64 0,.int .i64 0,.int .i64 0]),4,32):=by kernel_rfl
def OwnE (w:World) (v:Sl) (l:List En):Prop:=Own 127 4 w v (Zca l)
theorem OwnE.len {l:List En}(h:OwnE w v l):l.length=v.len:=by
 have:=h.1;rw [Zfn] at this;omega
theorem OwnE.enAt {l:List En}(h:OwnE w v l){g off:Nat}(ha:v.a=some ⟨g,off,none⟩)(i:Nat)(hi:i<l.length):EnAt w g (off+i*4) (l.getD i En.zero):=by
 refine EnAt.of (fun t ht=>?_);have hg:=Zfm l i t hi ht;have aa:t<(l.getD i En.zero).cells.length:=ht;obtain⟨u,hu⟩:∃u,(l.getD i En.zero).cells[t]? = some u:=⟨_,List.getElem?_eq_getElem aa⟩;rw [hu] at hg;have:=Own.cell h ha (i*4+t) u hg;rw [Addr.add_lit,← Nat.add_assoc] at this;rw [this,hu]
theorem OwnE.es {l:List En}(h:OwnE w v l):Es w v l:=by
 have hl:=h.len;refine⟨hl,Own.nilcap h,Own.lecap h,by have h1:=Own.capmax h;have h2:=Own.lecap h;unfold maxLen at h1;omega,fun j hj=>?_⟩;rcases h.2 with ⟨h0,_⟩ | ⟨g,off,cur,ha,_⟩
 · rw [h0] at hj;exact absurd hj (Nat.not_lt_zero _)
 · exact⟨g,off,ha,h.enAt ha j (by omega)⟩
theorem OwnE.keep {l:List En}(h:OwnE w v l)(hb:Below w.heap.size w w'):OwnE w' v l:=Own.frame h (fun k hk=>hb.block k (Own.lt h hk))
theorem OwnE.other {F:Nat→Prop}{l:List En}(h:OwnE w v l)(hf:Frm F w w')(hn:∀k,v.blk=some k→¬F k):OwnE w' v l:=Own.frame h (fun k hk=>hf.block k (Own.lt h hk) (hn k hk))
def Zc4 (w:World) (p:Nat) (e:En):Prop:=w.heap[p]? = some (Obj.cells #[.int .i64 e.tx,.int .i64 e.st,.int .i64 e.last,.int .i64 e.com] 127 (0,0))
theorem Zc4.lt {e:En}(h:Zc4 w p e):p<w.heap.size:=(Array.getElem?_eq_some_iff.1 h).1
theorem Zc4.new (w:World)(e:En):Zc4 (w.alloc (.cells #[.int .i64 e.tx,.int .i64 e.st,.int .i64 e.last,.int .i64 e.com] 127)) w.heap.size e:=heap_alloc_new w _
theorem Zc4.keep {e:En}(h:Zc4 w p e)(hb:Below w.heap.size w w'):Zc4 w' p e:=(hb.block p h.lt).trans h
theorem Zc4.at {e:En}(h:Zc4 w p e):EnAt w p 0 e:=by
 refine EnAt.of (fun t _=>?_);rw [cell_of_row _ _ _ _ _ _ h,Nat.zero_add];simp [En.cells]
def ZaJ (w:World) (p:Nat) (t:Tbl) (v:Sl):Prop:=w.heap[p]? = some (Obj.cells #[.int .i64 t.nx,.int .i64 t.no,.int .i64 t.cm,.slice v.a v.len v.cap] 24 (0,0))
theorem ZaJ.lt {t:Tbl}(h:ZaJ w p t v):p<w.heap.size:=(Array.getElem?_eq_some_iff.1 h).1
theorem ZaJ.new (w:World)(t:Tbl)(v:Sl):ZaJ (w.alloc (.cells #[.int .i64 t.nx,.int .i64 t.no,.int .i64 t.cm,.slice v.a v.len v.cap] 24)) w.heap.size t v:=heap_alloc_new w _
theorem ZaJ.keep {t:Tbl}(h:ZaJ w p t v)(hb:Below w.heap.size w w'):ZaJ w' p t v:=(hb.block p h.lt).trans h
theorem ZaJ.c0 {t:Tbl}(h:ZaJ w p t v):w.cell? ⟨p,0,none⟩=some (.int .i64 t.nx):=by unfold ZaJ at h;simp [World.cell?,h]
theorem ZaJ.c1 {t:Tbl}(h:ZaJ w p t v):w.cell? ⟨p,1,none⟩=some (.int .i64 t.no):=by unfold ZaJ at h;simp [World.cell?,h]
theorem ZaJ.c2 {t:Tbl}(h:ZaJ w p t v):w.cell? ⟨p,2,none⟩=some (.int .i64 t.cm):=by unfold ZaJ at h;simp [World.cell?,h]
theorem ZaJ.c3 {t:Tbl}(h:ZaJ w p t v):w.cell? ⟨p,3,none⟩=some (.slice v.a v.len v.cap):=by unfold ZaJ at h;simp [World.cell?,h]
theorem ZaJ.fz {t:Tbl}(h:ZaJ w p t v)(o:Nat):w.frozen? ⟨p,o,none⟩=false:=frozen_of_row w p _ _ _ h
theorem Zpl (b:Nat)(t:Tbl)(v:Sl)(w:World)(h:ZaJ w b t v):(Instr.loadAt 24 (.pointer (some ⟨b,0,none⟩))).run Tryz.prog w=.ok (t.val v) w:=by
 have c0:=h.c0;have c1:=h.c1;have c2:=h.c2;have c3:=h.c3;simp [go_sem,c0,c1,c2,c3,Tbl.val]
def Zp8 (w:World) (p:Nat) (t:Tbl) (v:Sl):World:=(((w.setCell ⟨p,0,none⟩ (.int .i64 t.nx)).setCell ⟨p,1,none⟩ (.int .i64 t.no)).setCell ⟨p,2,none⟩ (.int .i64 t.cm)).setCell ⟨p,3,none⟩ (.slice v.a v.len v.cap)
theorem ZaJ.store {t0:Tbl}{v0:Sl}(h:ZaJ w p t0 v0)(t:Tbl)(v:Sl):∃W,(Instr.storeAt 24 (.pointer (some ⟨p,0,none⟩)) (t.val v)).run Tryz.prog w=.ok () W∧ZaJ W p t v∧Frm (fun k=>k=p) w W∧W.heap.size=w.heap.size:=by
 have c0:=h.c0;have c1:=h.c1;have c2:=h.c2;have c3:=h.c3;have f0:=h.fz;refine⟨Zp8 w p t v,by simp [go_sem,Instr.storeAt,stored,c0,c1,c2,c3,f0,Tbl.val,Zp8],?_,((((Frm.refl (fun k=>k=p) w).setCell (p:=⟨p,0,none⟩) rfl _).setCell (p:=⟨p,1,none⟩) rfl _).setCell (p:=⟨p,2,none⟩) rfl _).setCell (p:=⟨p,3,none⟩) rfl _,by simp only [Zp8,Zh6]⟩;have s0:=heap_setCell_same w p 0 _ 24 (.int .i64 t.nx) h;have s1:=heap_setCell_same _ p 1 _ 24 (.int .i64 t.no) s0;have s2:=heap_setCell_same _ p 2 _ 24 (.int .i64 t.cm) s1;have s3:=heap_setCell_same _ p 3 _ 24 (.slice v.a v.len v.cap) s2;exact s3
theorem Zjj (p:Nat)(w:World):(Instr.fieldAt 127 (.pointer (some ⟨p,0,none⟩)) 0).run Tryz.prog w=.ok (.pointer (some ⟨p,0,none⟩)) w:=by simp [go_sem,Instr.fieldAt]
theorem Zny (p o:Nat)(w:World):(Instr.fieldAt 127 (.pointer (some ⟨p,o,none⟩)) 0).run Tryz.prog w=.ok (.pointer (some ⟨p,o,none⟩)) w:=by simp [go_sem,Instr.fieldAt,Addr.add_lit]
theorem ZjW (p:Nat)(w:World):(Instr.fieldAt 24 (.pointer (some ⟨p,0,none⟩)) 3).run Tryz.prog w=.ok (.pointer (some ⟨p,3,none⟩)) w:=by simp [go_sem,Instr.fieldAt]
theorem ZgU (p:Nat)(w:World):(Instr.fieldAt 127 (.pointer (some ⟨p,0,none⟩)) 3).run Tryz.prog w=.ok (.pointer (some ⟨p,3,none⟩)) w:=by simp [go_sem,Instr.fieldAt]
theorem Zqe (p o:Nat)(w:World):(Instr.fieldAt 127 (.pointer (some ⟨p,o,none⟩)) 3).run Tryz.prog w=.ok (.pointer (some ⟨p,o+3,none⟩)) w:=by simp [go_sem,Instr.fieldAt,Addr.add_lit]
theorem ZcC (b o:Nat)(x:Int)(w:World)(h:w.cell? ⟨b,o,none⟩=some (.int .i64 x)):(Instr.loadAt 3 (.pointer (some ⟨b,o,none⟩))).run Tryz.prog w=.ok (.int .i64 x) w:=by simp [go_sem,h]
theorem ldEs (b o:Nat)(a:Option Addr)(n c:Nat)(w:World)(h:w.cell? ⟨b,o,none⟩=some (.slice a n c)):(Instr.loadAt 22 (.pointer (some ⟨b,o,none⟩))).run Tryz.prog w=.ok (.slice a n c) w:=by simp [go_sem,h]
end Go.Proofs.YtiecfcjlhldhdaaGreat
