/-
  Lemmas.
-/
import Derived.Test.YtiecfcjlhldhdaaGreatKear
import Derived.Lib.SmallJoins
import Derived.Laws.Cover2
import Derived.Deep.Slices
namespace Go.Proofs.YtiecfcjlhldhdaaGreat
open Go.RowKit
set_option linter.unusedVariables false
set_option linter.unusedSimpArgs false
set_option maxRecDepth 100000
set_option maxHeartbeats 4000000
variable {w w0 w':World}{s:Sl}{r:Rw}{a:Option Addr}{i n b:Nat}
theorem Zid {s:List (List Nat)}{y:List Nat}(h:(insA s y).e=0):insA s y=⟨insS s y,((atE s:Nat):Int),0⟩∧1≤y.length∧y.length≤255∧(insS s y).length≤64∧need (insS s y)≤508:=by
 unfold insA at h ⊢;split at h
 · cases h
 · split at h
   · cases h
   · rename_i h1 h2;rw [if_neg h1,if_neg h2];exact⟨rfl,by omega,by omega,by omega,by omega⟩
theorem ZlR {t:List Int}(ht:t.length=4){w:Int}(h1:1≤w)(h2:w≤2147483647):(joinI t w []).e=0:=by
 unfold joinI;rw [if_neg (by omega)];split
 · rfl
 · have hx:t.getD 0 0∈t:=Zdj (by omega);have:=Zkb (live:=[]) hx (.inr (by simp));rw [if_neg (by omega)]
theorem MayL.put {f:Lf}(h:MayL f)(live:List Int)(hi:(insA f.slots (hpB r)).e=0):MayL (putL f r live):=by
 obtain⟨e,h1,h2,h3,h4⟩:=Zid hi;unfold putL;rw [e];exact⟨ZnG h.itl _ _,Zpa h.slots h1 h2 h3,h4⟩
theorem Zkr {l:List Lf}(h:∀f∈l,MayL f){f:Lf}(hf:MayL f):∀g∈l.set i f,MayL g:=by
 intro g hg;rcases List.mem_or_eq_of_mem_set hg with h1 | rfl
 · exact h g h1
 · exact hf
theorem Zj9 {l:List Lf}(hi:i<l.length)(live:List Int)(he:(insA (lf l i).slots (hpB r)).e=0):Zld l (l.set i (putL (lf l i) r live)) i (atE (lf l i).slots) (hpB r):=by
 obtain⟨e,_⟩:=Zid he;(have hs:(putL (lf l i) r live).slots=insS (lf l i).slots (hpB r):=by unfold putL;rw [e]);have t:=Zld.of (l:=l) hi (f:=putL (lf l i) r live) (k:=atE (lf l i).slots) (fun b hb=>by rw [hs,ZoA,if_neg hb]);rw [hs,ZoA,if_pos rfl] at t;exact t
structure Zg5 (l:List Lf) (r:Rw) (live:List Int) (i:Nat):Prop where
  hi:i<l.length
  room:ZbY (hpB r) l 0=some i
  ins:(insA (lf l i).slots (hpB r)).e=0
  join:(joinI (lf l i).itl r.wr live).e=0
  is:putH l r live=⟨l.set i (putL (lf l i) r live),((i:Int),((atE (lf l i).slots:Nat):Int)),0⟩
  may:r.may=true
  wr:r.wr≠0
  new:findH l r.key=none
theorem Zf4 (l:List Lf)(r:Rw)(live:List Int):((putH l r live).l=l∧(putH l r live).b=(0,0)∧(putH l r live).e≠0)∨∃i,Zg5 l r live i:=by
 unfold putH;by_cases h1:r.may=false∨r.wr=0∨(findH l r.key).isSome=true
 · rw [if_pos h1];exact .inl ⟨rfl,rfl,show (1:Int)≠0 by decide⟩
 · rw [if_neg h1];cases hr:ZbY (hpB r) l 0 with
   | none=>exact .inl ⟨rfl,rfl,show (7:Int)≠0 by decide⟩
   | some i =>
    by_cases hj:(joinI (lf l i).itl r.wr live).e=0
    · obtain⟨_,h2,h3,_⟩:=ZbF hr;simp only [Nat.sub_zero,Nat.zero_add] at h2 h3;refine .inr ⟨i,h2,hr,h3,hj,?_,?_,?_,?_⟩
      · unfold putH;rw [if_neg h1,hr];simp only [hj,if_true];rw [(Zid h3).1]
      · cases hm:r.may
        · exact absurd (.inl hm) h1
        · rfl
      · exact fun e=>h1 (.inr (.inl e))
      · cases hf:findH l r.key with
        | none=>rfl
        | some g=>exact absurd (.inr (.inr (by rw [hf];rfl))) h1
    · simp only [hj,if_false];exact .inl ⟨trivial,trivial,hj⟩
theorem Zjp (h:r.may=true):Fl.key r.key=r.key:=(Rw.may_parts h).1.symm
theorem Zg5.mayH {l:List Lf}{live:List Int}(p:Zg5 l r live i)(h:MayH l)(hf:r.fits):MayH (l.set i (putL (lf l i) r live)):=by
 refine h.turn (Zj9 p.hi live p.ins) (Zkr h.leaf (MayL.put (h.leaf _ (Zc6 p.hi)) live p.ins)) (.inr ⟨r,Zjb p.may hf,fun a b r' _ hr'=>?_⟩);have:=Zd6.1 p.new a b r' hr';rw [Zjp p.may] at this;exact this
theorem Zma {l:List Lf}(h:MayH l)(hf:r.fits)(live:List Int):MayH (putH l r live).l:=by
 rcases Zf4 l r live with ⟨e,_⟩ | ⟨i,p⟩
 · rw [e];exact h
 · rw [p.is];exact p.mayH h hf
theorem Zp1 {l:List Lf}(h:MayH l)(hm:r.may=true)(hw:r.wr≠0)(hn:findH l r.key=none):(ZbY (hpB r) l 0=none∧putH l r []=⟨l,(0,0),7⟩)∨∃i,Zg5 l r [] i:=by
 rcases Zf4 l r [] with ⟨e1,e2,e3⟩ | p
 · refine .inl ?_;have hp:=Rw.may_parts hm;have h1:¬(r.may=false∨r.wr=0∨(findH l r.key).isSome=true):=by
    rw [hm,hn];simp [hw]
   cases hr:ZbY (hpB r) l 0 with
   | none =>
    refine⟨rfl,?_⟩;unfold putH;rw [if_neg h1,hr]
   | some i =>
    exfalso;obtain⟨_,h2,_⟩:=ZbF hr;simp only [Nat.zero_add] at h2;have hj:=ZlR (h.leaf _ (Zc6 h2)).itl.1 (w:=r.wr) (by omega) (by omega);unfold putH at e3;rw [if_neg h1,hr] at e3;simp only [hj,if_true] at e3;exact e3 rfl
 · exact .inr p
open Go.ChangeShapes Go.WideShapes Go.ChangeAt Go.RowKit
section
variable {H : Type} {enc : TypeId × Value → H} {w : World} {base : Nat} {spare : Nat → Bool} {held : Bool}
theorem Zcr {v:Value}{y:DataW H × List MemPlace}(h:DataW.trod enc Tryz.prog w base spare held n 32 [v]=some y):∃b,v=.float .f64 b∧b<18446744073709551616:=by
 (have ht:Tryz.prog.underlying 32=some (.float .f64):=by kernel_rfl);cases n with
 | zero=>simp [DataW.trod] at h
 | succ n =>
  cases v <;> simp [DataW.trod,ht] at h;rename_i k b;obtain⟨⟨rfl,hw⟩,_⟩:=h;exact⟨b,rfl,by simpa [Lit.wf] using hw⟩
theorem ZnQ {len cap:Nat}{y:DataW H × List MemPlace}(h:DataW.trod enc Tryz.prog w base spare held n 35 [.slice a len cap]=some y) :
    ∃xs,Fs w a len cap xs:=by
  (have hC:Tryz.prog.cellsOf 32=1:=by kernel_rfl);rcases Go.Deep.open_slice1 Tryz.underlying35 hC h with ⟨aa,_⟩ | ⟨x,l,c,m,k,V,D,Pl,aa,hb,hl,hm,ac,_,hx⟩
  · simp only [List.cons.injEq,Value.slice.injEq,and_true] at aa;obtain⟨rfl,rfl,rfl⟩:=aa;exact⟨[],⟨⟨rfl,(fun u hu=>by cases hu),fun j hj=>by omega⟩,(fun x hx=>by cases hx),fun _=>rfl,Nat.le_refl _,by omega⟩⟩
  · simp only [List.cons.injEq,Value.slice.injEq,and_true] at aa;obtain⟨rfl,rfl,rfl⟩:=aa;(have ae:len≤m:=by rw [ac];split <;> omega);have ad:0<len→x.spot=none:=by
     intro h0;have:=World.cell?_spot (hx 0 (by omega)).1;simpa [Addr.add] using this
    have each:∀i,i<len→∃b,V i=.float .f64 b∧b<18446744073709551616:=by
     intro i hi;exact Zcr (hx i (by omega)).2
    obtain⟨f,hf⟩:=@Go.Deep.choose_lt Nat ⟨0⟩ len _ each;refine⟨(List.range len).map f,⟨⟨by simp [fVals],ZgT _,?_⟩,?_,(fun e=>by cases e),hl,by unfold maxLen at hm;omega⟩⟩
    · intro j hj;have hc:=(hx j (by omega)).1;obtain⟨b,off,spot⟩:=x;have ab:spot=none:=ad (by omega);subst ab;refine⟨b,off,rfl,?_⟩;rw [Addr.add_lit] at hc;rw [hc,(hf j hj).1];simp [fVals,hj]
    · intro z hz;obtain⟨j,hj,rfl⟩:=List.mem_map.1 hz;exact(hf j (by simpa using hj)).2
end
structure Rx where
  r:Rw
  a:Option Addr
  n:Nat
  c:Nat
def Rx.val (x:Rx):Value:=x.r.val (.slice x.a x.n x.c)
def Rx.zero:Rx:=⟨zeroR,none,0,0⟩
def Rx.cells (x:Rx):List Value:=[.float .f64 x.r.key,.bool x.r.dead,.slice x.a x.n x.c,.int .i64 x.r.wr,.int .i64 x.r.cell,.int .i64 x.r.no]
structure RwAt (w:World) (b o:Nat) (x:Rx):Prop where
  c0:w.cell? ⟨b,o,none⟩=some (.float .f64 x.r.key)
  c1:w.cell? ⟨b,o+1,none⟩=some (.bool x.r.dead)
  c2:w.cell? ⟨b,o+2,none⟩=some (.slice x.a x.n x.c)
  c3:w.cell? ⟨b,o+3,none⟩=some (.int .i64 x.r.wr)
  c4:w.cell? ⟨b,o+4,none⟩=some (.int .i64 x.r.cell)
  c5:w.cell? ⟨b,o+5,none⟩=some (.int .i64 x.r.no)
theorem RwAt.keep {B o:Nat}{x:Rx}(h:RwAt w b o x)(hb:Below B w w')(hB:w.heap.size≤B):RwAt w' b o x:=by
 have k:∀{p:Addr} {v:Value},w.cell? p=some v→w'.cell? p=some v:=fun {p v} hc=>(hb.cell (Nat.lt_of_lt_of_le (World.block_lt_of_cell? w _ hc) hB)).trans hc;exact⟨k h.c0,k h.c1,k h.c2,k h.c3,k h.c4,k h.c5⟩
theorem RwAt.of {o:Nat}{x:Rx}(h:∀t,t<6→w.cell? ⟨b,o+t,none⟩=x.cells[t]?):RwAt w b o x:=
 ⟨h 0 (by decide),h 1 (by decide),h 2 (by decide),h 3 (by decide),h 4 (by decide),h 5 (by decide)⟩
theorem ZbD (b o:Nat)(x:Rx)(w:World)(h:RwAt w b o x):(Instr.loadAt 39 (.pointer (some ⟨b,o,none⟩))).run Tryz.prog w=.ok x.val w:=by
 have c0:=h.c0;have c1:=h.c1;have c2:=h.c2;have c3:=h.c3;have c4:=h.c4;have c5:=h.c5;simp [go_sem,c0,c1,c2,c3,c4,c5,Rw.val,Rx.val]
theorem ZaW (b o len cap k:Nat)(hk:k<len)(w:World):(Instr.indexAt 49 (.slice (some ⟨b,o,none⟩) len cap) (.int .i64 (k:Nat))).run Tryz.prog w=.ok (.pointer (some ⟨b,o+k*6,none⟩)) w:=by
 (have aa:Tryz.prog.underlying 49=some (.slice (Tryz.prog.elem 49)):=by kernel_rfl);(have h1:(0:Int)≤(k:Int):=by omega);simp [go_sem,Instr.indexAt,run_underlying aa,h1,Addr.add_lit];omega
structure Rz (w:World) (a:Option Addr) (m:Nat) (l:List Rx):Prop where
  len:l.length=m
  at':∀j,j<m→∃b off,a=some ⟨b,off,none⟩∧RwAt w b (off+j*6) (l.getD j Rx.zero)
  cols:∀x∈l,Fs w x.a x.n x.c x.r.xs
  fits:∀x∈l,x.r.fits
theorem Rz.keep {B:Nat}{len:Nat}{l:List Rx}(h:Rz w a len l)(hb:Below B w w')(hB:w.heap.size≤B):Rz w' a len l:=by
 refine⟨h.len,fun j hj=>?_,fun x hx=>(h.cols x hx).keep hb hB,h.fits⟩;obtain⟨b,off,ha,hu⟩:=h.at' j hj;exact⟨b,off,ha,hu.keep hb hB⟩
theorem Rz.mem {len:Nat}{l:List Rx}(h:Rz w a len l){j:Nat}(hj:j<len):l.getD j Rx.zero∈l:=by
 (have:j<l.length:=by rw [h.len];exact hj);simp [List.getD,this]
def rws (l:List Rx):List Rw:=l.map Rx.r
theorem ZaX (l:List Rx):(rws l).length=l.length:=by simp [rws]
theorem ZcF (l:List Rx)(j:Nat):(rws l).getD j zeroR=(l.getD j Rx.zero).r:=by
 unfold rws;by_cases h:j<l.length
 · simp [List.getD,h]
 · have h':l.length≤j:=Nat.le_of_not_lt h;simp [List.getD,h',Rx.zero]
def Zau (l:List Rx):List Value:=l.flatMap Rx.cells
theorem Zbn:∀l:List Rx,(Zau l).length=l.length*6
 | []=>rfl
 | x :: l=>by
  have e:Zau (x :: l)=x.cells ++ Zau l:=rfl
  rw [e,List.length_append,Zbn l,List.length_cons]
  have:x.cells.length=6:=rfl
  omega
theorem ZfV (l m:List Rx):Zau (l ++ m)=Zau l ++ Zau m:=by simp [Zau]
theorem Zbo (l:List Rx):∀u∈Zau l,u.oneCell'=true:=by
 intro u hu;obtain⟨x,_,hx⟩:=List.mem_flatMap.1 hu;simp only [Rx.cells,List.mem_cons,List.not_mem_nil,or_false] at hx;rcases hx with rfl | rfl | rfl | rfl | rfl | rfl <;> rfl
theorem Zcu:∀(l:List Rx)(j t:Nat),j<l.length→t<6→(Zau l)[j*6+t]? = (l.getD j Rx.zero).cells[t]?
 | [],j,t,hj,_=>by simp at hj
 | x :: l,0,t,_,ht=>by
  have e:Zau (x :: l)=x.cells ++ Zau l:=rfl
  have hl:x.cells.length=6:=rfl
  rw [e,Nat.zero_mul,Nat.zero_add,List.getElem?_append_left (by omega)]
  rfl
 | x :: l,j+1,t,hj,ht=>by
  have e:Zau (x :: l)=x.cells ++ Zau l:=rfl
  have hl:x.cells.length=6:=rfl
  rw [e,List.getElem?_append_right (by omega),hl,show (j+1)*6+t-6=j*6+t by omega]
  exact Zcu l j t (by simpa using hj) ht
theorem ZlJ:(Tryz.prog.info? 39).map (fun i=>(i.zero,i.size,i.bytes))=some (some (.agg #[.float .f64 0,.bool false,.slice none 0 0,.int .i64 0,.int .i64 0,.int .i64 0]),6,64):=by kernel_rfl
structure ColR (w0 w:World) (x:Rx):Prop where
  fs:Fs w x.a x.n x.c x.r.xs
  home:∀b off,x.a=some ⟨b,off,none⟩→0<x.n→b<w0.heap.size∨∃C fr,w.heap[b]? = some (Obj.cells C 32 fr)
theorem ColR.keep {x:Rx}(h:ColR w0 w x)(hb:Below w.heap.size w w'):ColR w0 w' x:=by
 refine⟨h.fs.keep hb (Nat.le_refl _),fun b off ha hn=>?_⟩;rcases h.home b off ha hn with k | ⟨C,fr,k⟩
 · exact .inl k
 · exact .inr ⟨C,fr,(hb.block b (Array.getElem?_eq_some_iff.1 k).1).trans k⟩
theorem Fs.same {W:World}{c:Nat}{xs:List Nat}(h:Fs w a n c xs)(hs:∀b off,a=some ⟨b,off,none⟩→0<n→W.heap[b]? = w.heap[b]?):Fs W a n c xs:=by
 refine⟨⟨h.vs.1,h.vs.2.1,fun j hj=>?_⟩,h.fit,h.nil,h.le,h.big⟩;obtain⟨b,off,ha,hc⟩:=h.vs.2.2 j hj;refine⟨b,off,ha,?_⟩;rw [← hc];simp only [World.cell?,hs b off ha (by omega)]
structure Rq (w0 w:World) (s:Sl) (l:List Rx):Prop where
  own:Own 39 6 w s (Zau l)
  new:∀k,s.blk=some k→w0.heap.size≤k
  below:Below w0.heap.size w0 w
  cols:∀x∈l,ColR w0 w x
  fits:∀x∈l,x.r.fits
theorem Rq.len {l:List Rx}(h:Rq w0 w s l):l.length=s.len:=by
 have:=h.own.1;rw [Zbn] at this;omega
theorem Rq.keep {l:List Rx}(h:Rq w0 w s l)(hb:Below w.heap.size w w'):Rq w0 w' s l:=
 ⟨h.own.frame (fun k hk=>hb.block k (h.own.lt hk)),h.new,Zac h.below hb,fun x hx=>(h.cols x hx).keep hb,h.fits⟩
theorem Own.rwAt {l:List Rx}(h:Own 39 6 w s (Zau l)){off:Nat}(ha:s.a=some ⟨b,off,none⟩)(j:Nat)(hj:j<l.length):RwAt w b (off+j*6) (l.getD j Rx.zero):=by
 refine RwAt.of fun t ht=>?_;have hg:=Zcu l j t hj ht;have aa:t<(l.getD j Rx.zero).cells.length:=ht;rw [List.getElem?_eq_getElem aa] at hg ⊢;have:=h.cell ha (j*6+t) _ hg;rwa [Addr.add_lit,← Nat.add_assoc] at this
theorem Rq.rz {l:List Rx}(h:Rq w0 w s l):Rz w s.a s.len l:=by
 refine⟨h.len,fun j hj=>?_,fun x hx=>(h.cols x hx).fs,h.fits⟩;rcases h.own.2 with ⟨h0,_⟩ | ⟨g,off,cur,ha,_⟩
 · rw [h0] at hj;exact absurd hj (Nat.not_lt_zero _)
 · exact⟨g,off,ha,h.own.rwAt ha j (by rw [h.len];exact hj)⟩
theorem Rq.nil (w0 w:World)(hb:Below w0.heap.size w0 w):Rq w0 w Sl.nil []:=
 ⟨⟨rfl,.inl ⟨rfl,rfl⟩⟩,(fun k hk=>by cases hk),hb,(fun x hx=>by cases hx),fun x hx=>by cases hx⟩
theorem Rq.new0 (w0 w:World)(hb:Below w0.heap.size w0 w):Rq w0 (w.alloc (.cells #[] 39)) ⟨some ⟨w.heap.size,0,none⟩,0,0⟩ []:=by
 refine⟨⟨rfl,.inr ⟨w.heap.size,0,_,rfl,heap_alloc_new w _,by simp,Nat.le_refl _,by simp,rfl⟩⟩,fun k hk=>?_,Zac hb (Zaa w _),(fun x hx=>by cases hx),fun x hx=>by cases hx⟩;have e:some w.heap.size=some k:=hk;cases e;exact hb.size
theorem ZoB (w:World)(x:Rx):Src Tryz.prog 6 49 (.slice (some ⟨w.heap.size,0,none⟩) 1 1) 1 (Zau [x]) (w.alloc (.cells #[.float .f64 x.r.key,.bool x.r.dead,.slice x.a x.n x.c,.int .i64 x.r.wr,.int .i64 x.r.cell,.int .i64 x.r.no] 39)):=by
 refine Src.ofSlice _ Tryz.underlying49 ⟨w.heap.size,0,none⟩ 1 1 (Zau [x]) rfl (fun j u hj=>?_) (Zbo _);have hb:(w.alloc (.cells #[.float .f64 x.r.key,.bool x.r.dead,.slice x.a x.n x.c,.int .i64 x.r.wr,.int .i64 x.r.cell,.int .i64 x.r.no] 39)).heap[w.heap.size]? = some (.cells #[.float .f64 x.r.key,.bool x.r.dead,.slice x.a x.n x.c,.int .i64 x.r.wr,.int .i64 x.r.cell,.int .i64 x.r.no] 39):=heap_alloc_new w _;rw [Addr.add_lit,cell_of_row _ _ _ _ _ _ hb];simpa [Zau,Rx.cells] using hj
theorem Rz.src {m c:Nat}{l:List Rx}(h:Rz w a m l)(h0:a=none→m=0∧c=0):Src Tryz.prog 6 49 (.slice a m c) m (Zau l) w:=by
 cases a with
 | none =>
  obtain⟨rfl,rfl⟩:=h0 rfl;have hl:l=[]:=List.eq_nil_of_length_eq_zero h.len;subst hl;exact Src.ofNil w Tryz.underlying49 0
 | some ad =>
  refine Src.ofSlice _ Tryz.underlying49 ad m c (Zau l) (by rw [Zbn,h.len]) (fun j u hj=>?_) (Zbo _);have ab:j<l.length*6:=by
   have:=(List.getElem?_eq_some_iff.1 hj).1;rwa [Zbn] at this
  (have hq:j / 6<m:=by rw [← h.len];omega);obtain⟨b,off,ha,aa⟩:=h.at' (j / 6) hq;cases ha;have hg:=Zcu l (j / 6) (j % 6) (by rw [h.len];exact hq) (Nat.mod_lt _ (by decide));rw [show j / 6*6+j % 6=j by omega] at hg;rw [hg] at hj;rw [Addr.add_lit];(have hm:j % 6=0∨j % 6=1∨j % 6=2∨j % 6=3∨j % 6=4∨j % 6=5:=by omega);rcases hm with e | e | e | e | e | e <;> rw [e] at hj <;> simp only [Rx.cells,List.getElem?_cons_zero,List.getElem?_cons_succ,Option.some.injEq] at hj <;> subst hj
  · rw [show off+j=off+j / 6*6 by omega];exact aa.c0
  · rw [show off+j=off+j / 6*6+1 by omega];exact aa.c1
  · rw [show off+j=off+j / 6*6+2 by omega];exact aa.c2
  · rw [show off+j=off+j / 6*6+3 by omega];exact aa.c3
  · rw [show off+j=off+j / 6*6+4 by omega];exact aa.c4
  · rw [show off+j=off+j / 6*6+5 by omega];exact aa.c5
theorem Rq.app {l:List Rx}(h:Rq w0 w s l){v:Value}{m:Nat}{k:List Rx}(af:Src Tryz.prog 6 49 v m (Zau k) w)(hk:k.length=m)(hc:∀x∈k,ColR w0 w x)(hf:∀x∈k,x.r.fits)(hl:l.length+k.length≤1000000) :
    ∃s' W,(∀ty,(Builtin.append_ #[49,49] ty #[s.val,v]).run Tryz.prog w=.ok s'.val W)∧Rq w0 W s' (l ++ k)∧Frm (fun k=>s.blk=some k) w W:=by
  obtain⟨s',W,ae,ho,ah,ad,ag⟩:=Zax Tryz.underlying49 ZlJ rfl (by decide) _ s (Zau l) h.own (Zbo l) v m (Zau k) af (by rw [← h.len,← hk];exact hl) 0;have ac:∀y,ColR w0 w y→ColR w0 W y:=by
   intro y hy;have aa:∀b off,y.a=some ⟨b,off,none⟩→0<y.n→W.heap[b]? = w.heap[b]?:=by
    intro b off ha hn;obtain⟨b',off',ha',hc,_,_⟩:=hy.fs.at 0 hn;rw [ha'] at ha;cases ha;refine ad.block b (World.block_lt_of_cell? _ _ hc) ?_;intro e;rcases hy.home b off ha' hn with k | ⟨C,fr,k⟩
    · have:=h.new b e;omega
    · obtain⟨cur,ab⟩:=h.own.kind e;rw [k] at ab;simp only [Option.some.injEq,Obj.cells.injEq] at ab;exact absurd ab.2.1 (by decide)
   refine⟨hy.fs.same aa,fun b off ha hn=>?_⟩;rcases hy.home b off ha hn with k | ⟨C,fr,k⟩
   · exact .inl k
   · exact .inr ⟨C,fr,(aa b off ha hn).trans k⟩
  refine⟨s',W,fun ty=>ae,⟨by rw [ZfV];exact ho,fun k e=>?_,?_,fun y hy=>?_,fun y hy=>?_⟩,ad⟩
  · rcases ag with e' | ⟨e',_⟩
    · exact h.new k (by rw [← e'];exact e)
    · rw [e'] at e;cases e;exact h.below.size
  · exact h.below.trans (ad.below h.below.size (fun k e=>h.new k e))
  · rcases List.mem_append.1 hy with hy | hy
    · exact ac y (h.cols y hy)
    · exact ac y (hc y hy)
  · rcases List.mem_append.1 hy with hy | hy
    · exact h.fits y hy
    · exact hf y hy
theorem Rq.one {l:List Rx}(h:Rq w0 w s l)(x:Rx)(hx:ColR w0 w x)(hf:x.r.fits)(hl:l.length+1≤1000000) :
    ∃s' W,(∀ty,(Builtin.append_ #[49,49] ty #[s.val,.slice (some ⟨w.heap.size,0,none⟩) 1 1]).run Tryz.prog (w.alloc (.cells #[.float .f64 x.r.key,.bool x.r.dead,.slice x.a x.n x.c,.int .i64 x.r.wr,.int .i64 x.r.cell,.int .i64 x.r.no] 39))=.ok s'.val W)∧Rq w0 W s' (l ++ [x])∧Frm (fun k=>s.blk=some k) w W:=by
  have hB:=Zaa w (.cells #[.float .f64 x.r.key,.bool x.r.dead,.slice x.a x.n x.c,.int .i64 x.r.wr,.int .i64 x.r.cell,.int .i64 x.r.no] 39);obtain⟨s',W,aa,hq,ab⟩:=(h.keep hB).app (ZoB w x) rfl (fun y hy=>by rw [List.mem_singleton.1 hy];exact hx.keep hB) (fun y hy=>by rw [List.mem_singleton.1 hy];exact hf) hl;exact⟨s',W,aa,hq,(Frm.ofBelow hB).trans ab (fun i _ h=>h)⟩
abbrev Bt:=Int × Int
def btV (x:Bt):Value:=.agg #[.int .i64 x.1,.int .i64 x.2]
def ZaV (l:List Bt):List Value:=l.flatMap fun x=>[.int .i64 x.1,.int .i64 x.2]
theorem Zfs:∀l:List Bt,(ZaV l).length=l.length*2
 | []=>rfl
 | x :: l=>by
  have e:ZaV (x :: l)=[.int .i64 x.1,.int .i64 x.2] ++ ZaV l:=rfl
  rw [e,List.length_append,Zfs l,List.length_cons]
  simp only [List.length_cons,List.length_nil]
  omega
theorem ZfX (l m:List Bt):ZaV (l ++ m)=ZaV l ++ ZaV m:=by simp [ZaV]
theorem Zft (l:List Bt):∀u∈ZaV l,u.oneCell'=true:=by
 intro u hu;obtain⟨x,_,hx⟩:=List.mem_flatMap.1 hu;simp only [List.mem_cons,List.not_mem_nil,or_false] at hx;rcases hx with rfl | rfl <;> rfl
theorem Zd3:∀(l:List Bt)(j t:Nat),j<l.length→t<2→(ZaV l)[j*2+t]? = ([Value.int .i64 (l.getD j (0,0)).1,Value.int .i64 (l.getD j (0,0)).2]:List Value)[t]?
 | [],j,t,hj,_=>by simp at hj
 | x :: l,0,t,_,ht=>by
  have e:ZaV (x :: l)=[.int .i64 x.1,.int .i64 x.2] ++ ZaV l:=rfl
  rw [e,Nat.zero_mul,Nat.zero_add,List.getElem?_append_left (by simpa using ht)]
  rfl
 | x :: l,j+1,t,hj,ht=>by
  have e:ZaV (x :: l)=[.int .i64 x.1,.int .i64 x.2] ++ ZaV l:=rfl
  rw [e,List.getElem?_append_right (by simp only [List.length_cons,List.length_nil];omega)]
  simp only [List.length_cons,List.length_nil]
  rw [show (j+1)*2+t-(0+1+1)=j*2+t by omega]
  exact Zd3 l j t (by simpa using hj) ht
theorem Zqm:(Tryz.prog.info? 67).map (fun i=>(i.zero,i.size,i.bytes))=some (some (.agg #[.int .i64 0,.int .i64 0]),2,16):=by kernel_rfl
def Zc8 (w:World) (s:Sl) (l:List Bt):Prop:=Own 67 2 w s (ZaV l)
theorem Zc8.len {l:List Bt}(h:Zc8 w s l):l.length=s.len:=by
 have:=h.1;rw [Zfs] at this;omega
theorem Zc8.at {l:List Bt}(h:Zc8 w s l){j:Nat}(hj:j<s.len):∃b off,s.a=some ⟨b,off,none⟩∧w.cell? ⟨b,off+j*2,none⟩=some (.int .i64 (l.getD j (0,0)).1)∧w.cell? ⟨b,off+j*2+1,none⟩=some (.int .i64 (l.getD j (0,0)).2):=by
 rcases h.2 with ⟨h0,_⟩ | ⟨g,off,cur,ha,_⟩
 · rw [h0] at hj;exact absurd hj (Nat.not_lt_zero _)
 · (have hl:j<l.length:=by rw [h.len];exact hj);have e0:=Zd3 l j 0 hl (by decide);have e1:=Zd3 l j 1 hl (by decide);have k0:=Own.cell h ha _ _ e0;have k1:=Own.cell h ha _ _ e1;rw [Addr.add_lit] at k0 k1;exact⟨g,off,ha,by simpa using k0,by rw [Nat.add_assoc];simpa using k1⟩
theorem Zc8.new0 (w:World):Zc8 (w.alloc (.cells #[] 67)) ⟨some ⟨w.heap.size,0,none⟩,0,0⟩ []:=
 ⟨rfl,.inr ⟨w.heap.size,0,_,rfl,heap_alloc_new w _,by simp,Nat.le_refl _,by simp,rfl⟩⟩
theorem ZqO (w:World)(x:Bt):Src Tryz.prog 2 84 (.slice (some ⟨w.heap.size,0,none⟩) 1 1) 1 (ZaV [x]) (w.alloc (.cells #[.int .i64 x.1,.int .i64 x.2] 67)):=by
 refine Src.ofSlice _ Tryz.underlying84 ⟨w.heap.size,0,none⟩ 1 1 (ZaV [x]) rfl (fun j u hj=>?_) (Zft _);have hb:(w.alloc (.cells #[.int .i64 x.1,.int .i64 x.2] 67)).heap[w.heap.size]? = some (.cells #[.int .i64 x.1,.int .i64 x.2] 67):=heap_alloc_new w _;rw [Addr.add_lit,cell_of_row _ _ _ _ _ _ hb];simpa [ZaV] using hj
theorem Zc8.one {l:List Bt}(h:Zc8 w s l)(x:Bt)(hl:l.length+1≤1000000) :
    ∃s' W,(∀ty,(Builtin.append_ #[84,84] ty #[s.val,.slice (some ⟨w.heap.size,0,none⟩) 1 1]).run Tryz.prog (w.alloc (.cells #[.int .i64 x.1,.int .i64 x.2] 67))=.ok s'.val W)∧Zc8 W s' (l ++ [x])∧Frm (fun k=>s.blk=some k) w W∧(s'.blk=s.blk∨∀k,s'.blk=some k→w.heap.size≤k):=by
  have hB:=Zaa w (.cells #[.int .i64 x.1,.int .i64 x.2] 67);have hk:Own 67 2 (w.alloc (.cells #[.int .i64 x.1,.int .i64 x.2] 67)) s (ZaV l):=Own.frame h (fun k hk=>hB.block k (Own.lt h hk));obtain⟨s',W,aa,ho,ad,ac,ab⟩:=Zax Tryz.underlying84 Zqm rfl (by decide) _ s (ZaV l) hk (Zft l) _ 1 (ZaV [x]) (ZqO w x) (by rw [← Zc8.len h];exact hl) 0;refine⟨s',W,fun ty=>aa,by unfold Zc8;rw [ZfX];exact ho,?_,?_⟩
  · exact(Frm.ofBelow hB).trans ac (fun i _ h=>h)
  · rcases ab with e | ⟨e,_⟩
    · exact .inl e
    · refine .inr fun k hk=>?_;rw [e] at hk;cases hk;rw [Zae];omega
end Go.Proofs.YtiecfcjlhldhdaaGreat
