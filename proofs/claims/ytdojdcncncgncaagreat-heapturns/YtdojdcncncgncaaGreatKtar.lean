/-
  Lemmas.
-/
import Derived.Test.YtdojdcncncgncaaGreatKtaq
import Derived.Test.YtdojdcncncgncaaGreatKtan
import Derived.Lib.SmallJoins
import Derived.Laws.Cover2
import Derived.Deep.Slices
namespace Go.Proofs.YtdojdcncncgncaaGreat
open Go.RowKit
set_option linter.unusedVariables false
set_option maxRecDepth 100000
set_option maxHeartbeats 4000000
variable {w w0 w':World}{r was:Rw}{l:List Lf}{s:Sl}{i k n:Nat}{live:List Int}{b:Int × Int}{joins:Bool}{a:Option Addr}{f:Lf}{v:Value}
theorem ZhR {s:List (List Nat)}{y:List Nat}(h:(insA s y).e=0):insA s y=⟨insS s y,((atE s:Nat):Int),0⟩∧1≤y.length∧y.length≤255∧(insS s y).length≤64∧need (insS s y)≤508:=by
 unfold insA at h ⊢;split at h
 · cases h
 · split at h
   · cases h
   · rename_i h1 h2;rw [if_neg h1,if_neg h2];exact⟨rfl,by omega,by omega,by omega,by omega⟩
theorem Zlh {t:List Int}(ht:t.length=4){w:Int}(h1:1≤w)(h2:w≤2147483647):(joinI t w []).e=0:=by
 unfold joinI;rw [if_neg (by omega)];split
 · rfl
 · have hx:t.getD 0 0∈t:=Zd2 (by omega);have:=Zj2 (live:=[]) hx (.inr (by simp));rw [if_neg (by omega)]
theorem MayL.put (h:MayL f)(live:List Int)(hi:(insA f.slots (hpB r)).e=0):MayL (putL f r live):=by
 obtain⟨e,h1,h2,h3,h4⟩:=ZhR hi;unfold putL;rw [e];exact⟨Zgv h.itl _ _,ZkZ h.slots h1 h2 h3,h4⟩
theorem ZfB (h:∀f∈l,MayL f)(hf:MayL f):∀g∈l.set i f,MayL g:=by
 intro g hg;rcases List.mem_or_eq_of_mem_set hg with h1 | rfl
 · exact h g h1
 · exact hf
theorem ZmY (hi:i<l.length)(live:List Int)(he:(insA (lf l i).slots (hpB r)).e=0):ZhC l (l.set i (putL (lf l i) r live)) i (atE (lf l i).slots) (hpB r):=by
 obtain⟨e,_⟩:=ZhR he;(have hs:(putL (lf l i) r live).slots=insS (lf l i).slots (hpB r):=by unfold putL;rw [e]);have t:=ZhC.of (l:=l) hi (f:=putL (lf l i) r live) (k:=atE (lf l i).slots) (fun b hb=>by rw [hs,Znr,if_neg hb]);rw [hs,Znr,if_pos rfl] at t;exact t
structure Zkq (l:List Lf) (r:Rw) (live:List Int) (i:Nat):Prop where
  hi:i<l.length
  room:roomH (hpB r) l 0=some i
  ins:(insA (lf l i).slots (hpB r)).e=0
  join:(joinI (lf l i).itl r.wr live).e=0
  is:putH l r live=⟨l.set i (putL (lf l i) r live),((i:Int),((atE (lf l i).slots:Nat):Int)),0⟩
  may:r.may=true
  wr:r.wr≠0
  new:findH l r.key=none
theorem ZfH (l:List Lf)(r:Rw)(live:List Int):((putH l r live).l=l∧(putH l r live).b=(0,0)∧(putH l r live).e≠0)∨∃i,Zkq l r live i:=by
 unfold putH;by_cases h1:r.may=false∨r.wr=0∨(findH l r.key).isSome=true
 · rw [if_pos h1];exact .inl ⟨rfl,rfl,show (1:Int)≠0 by decide⟩
 · rw [if_neg h1];cases hr:roomH (hpB r) l 0 with
   | none=>exact .inl ⟨rfl,rfl,show (7:Int)≠0 by decide⟩
   | some i =>
    by_cases hj:(joinI (lf l i).itl r.wr live).e=0
    · obtain⟨_,h2,h3,_⟩:=Zb1 hr;simp only [Nat.sub_zero,Nat.zero_add] at h2 h3;refine .inr ⟨i,h2,hr,h3,hj,?_,?_,?_,?_⟩
      · unfold putH;rw [if_neg h1,hr];simp only [hj,if_true];rw [(ZhR h3).1]
      · cases hm:r.may
        · exact absurd (.inl hm) h1
        · rfl
      · exact fun e=>h1 (.inr (.inl e))
      · cases hf:findH l r.key with
        | none=>rfl
        | some g=>exact absurd (.inr (.inr (by rw [hf];rfl))) h1
    · simp only [hj,if_false];exact .inl ⟨trivial,trivial,hj⟩
theorem Zgx (h:r.may=true):Fl.key r.key=r.key:=(Rw.may_parts h).1.symm
theorem Zkq.mayH (p:Zkq l r live i)(h:MayH l)(hf:r.fits):MayH (l.set i (putL (lf l i) r live)):=by
 refine h.turn (ZmY p.hi live p.ins) (ZfB h.leaf (MayL.put (h.leaf _ (Zbe p.hi)) live p.ins)) (.inr ⟨r,Zgn p.may hf,fun a b r' _ hr'=>?_⟩);have:=Zf0.1 p.new a b r' hr';rw [Zgx p.may] at this;exact this
theorem Zhl (h:MayH l)(hf:r.fits)(live:List Int):MayH (putH l r live).l:=by
 rcases ZfH l r live with ⟨e,_⟩ | ⟨i,p⟩
 · rw [e];exact h
 · rw [p.is];exact p.mayH h hf
theorem Zh8 {s:List (List Nat)}(h:sl s k ≠ []):Zap s (k:Int)=true:=by
 have hk:=ZlM h;have hl:0<(sl s k).length:=List.length_pos_iff.2 h;unfold Zap;simp [hk,hl]
theorem ZlI (h:MayL f)(hw:decH (sl f.slots k)=some was)(hm:r.may=true):setA f.slots (k:Int) (hpB r)=⟨f.slots.set k (hpB r),0⟩:=by
 have hk:=ZlM (Zbv hw);have hl:=(ZbI hw).1;have ab:=ZbC hm;have hn:=Zd4 f.slots k (hpB r) hk;have aa:=h.need;refine Zij (Zh8 (Zbv hw)) (by omega) (by omega) ?_;simp only [Int.toNat_natCast];unfold need at aa ⊢;omega
structure Ze3 (l:List Lf) (b:Int × Int) (r:Rw) (joins:Bool) (live:List Int) (i k:Nat) (was:Rw):Prop where
  hb:b=((i:Int),(k:Int))
  hw:decH (cellH l i k)=some was
  may:r.may=true
  key:was.key=r.key
  wr:joins=true→r.wr≠0
  join:joins=true→(joinI (lf l i).itl r.wr live).e=0
  is:layH l b r joins live=⟨l.set i (layL (lf l i) (k:Int) r joins live),0⟩
theorem ZjE (l:List Lf)(b:Int × Int)(r:Rw)(joins:Bool)(live:List Int):((layH l b r joins live).l=l∧(layH l b r joins live).e≠0)∨∃i k was,Ze3 l b r joins live i k was:=by
 cases hg:getH l b with
 | none=>exact .inl (by unfold layH;rw [hg];exact ⟨rfl,show (3:Int)≠0 by decide⟩)
 | some was =>
  obtain⟨i,k,rfl,hw⟩:=ZeE hg;by_cases h1:r.may=false∨(joins=true∧r.wr=0)∨was.key≠r.key
  · exact .inl (by unfold layH;rw [hg];simp only [if_pos h1];exact ⟨trivial,by decide⟩)
  · by_cases h2:joins=true∧(joinI (lf l i).itl r.wr live).e≠0
    · refine .inl ?_;unfold layH;rw [hg];simp only [if_neg h1,Int.toNat_natCast,if_pos h2];exact⟨trivial,h2.2⟩
    · refine .inr ⟨i,k,was,rfl,hw,?_,?_,?_,?_,?_⟩
      · cases hm:r.may
        · exact absurd (.inl hm) h1
        · rfl
      · exact Decidable.byContradiction fun e=>h1 (.inr (.inr e))
      · exact fun e e0=>h1 (.inr (.inl ⟨e,e0⟩))
      · exact fun e=>Decidable.byContradiction fun e0=>h2 ⟨e,e0⟩
      · unfold layH;rw [hg];simp only [if_neg h1,Int.toNat_natCast,if_neg h2]
theorem Ze3.in (p:Ze3 l b r joins live i k was):i<l.length:=(ZbV (Zbv p.hw)).1
theorem Ze3.slots (p : Ze3 l b r joins live i k was) (h : ∀ f ∈ l, MayL f) : (layL (lf l i) (k : Int) r joins live).slots = (lf l i).slots.set k (hpB r) := by
 unfold layL
 rw [ZlI (h _ (Zbe p.in)) p.hw p.may]
theorem Ze3.turn (p : Ze3 l b r joins live i k was) (h : ∀ f ∈ l, MayL f) : ZhC l (l.set i (layL (lf l i) (k : Int) r joins live)) i k (hpB r) := by
 have hs := p.slots h
 have hk := (ZbV (Zbv p.hw)).2
 have t := ZhC.of (l := l) p.in (f := layL (lf l i) (k : Int) r joins live) (k := k) (fun b hb => by rw [hs, ZlN hk, if_neg hb])
 rw [hs, ZlN hk, if_pos rfl] at t
 exact t
theorem Ze3.leaf (p : Ze3 l b r joins live i k was) (h : ∀ f ∈ l, MayL f) : MayL (layL (lf l i) (k : Int) r joins live) := by
 have hf := h _ (Zbe p.in)
 have hk := (ZbV (Zbv p.hw)).2
 have h52 := ZbC p.may
 have hw52 := (ZbI p.hw).1
 have hn := Zd4 (lf l i).slots k (hpB r) hk
 refine ⟨?_, ?_, ?_⟩
 · unfold layL
   simp only
   split
   · exact Zgv hf.itl _ _
   · exact hf.itl
 · rw [p.slots h]
   exact hf.slots.set hk (by omega) (by omega)
 · rw [p.slots h]
   have := hf.need
   unfold need at *
   unfold cellH at hw52
   omega
theorem Ze3.mayH {l : List Lf} {b : Int × Int} {r : Rw} {joins : Bool} {live : List Int} {i k : Nat} {was : Rw} (p : Ze3 l b r joins live i k was) (h : MayH l) (hf : r.fits) : MayH (l.set i (layL (lf l i) (k : Int) r joins live)) := by
  refine h.turn (p.turn h.leaf) (ZfB h.leaf (p.leaf h.leaf)) (.inr ⟨r, Zgn p.may hf, fun a b r' hn hr' e => hn ?_⟩)
  exact (Zd1.1 h).2.2.1 _ _ _ _ _ _ hr' p.hw (by rw [e, p.key])
theorem Zlq {l : List Lf} (h : MayH l) {r : Rw} (hf : r.fits) (b : Int × Int) (joins : Bool) (live : List Int) : MayH (layH l b r joins live).l := by
  rcases ZjE l b r joins live with ⟨e, _⟩ | ⟨i, k, was, p⟩
  · rw [e]; exact h
  · rw [p.is]; exact p.mayH h hf
theorem Zog (h:MayH l)(hm:r.may=true)(hw:r.wr≠0)(hn:findH l r.key=none):(roomH (hpB r) l 0=none∧putH l r []=⟨l,(0,0),7⟩)∨∃i,Zkq l r [] i:=by
 rcases ZfH l r [] with ⟨e1,e2,e3⟩ | p
 · refine .inl ?_;have hp:=Rw.may_parts hm;have h1:¬(r.may=false∨r.wr=0∨(findH l r.key).isSome=true):=by
    rw [hm,hn];simp [hw]
   cases hr:roomH (hpB r) l 0 with
   | none =>
    refine⟨rfl,?_⟩;unfold putH;rw [if_neg h1,hr]
   | some i =>
    exfalso;obtain⟨_,h2,_⟩:=Zb1 hr;simp only [Nat.zero_add] at h2;have hj:=Zlh (h.leaf _ (Zbe h2)).itl.1 (w:=r.wr) (by omega) (by omega);unfold putH at e3;rw [if_neg h1,hr] at e3;simp only [hj,if_true] at e3;exact e3 rfl
 · exact .inr p
open Go.ChangeShapes Go.WideShapes Go.ChangeAt Go.RowKit
section
variable {H : Type} {enc : TypeId × Value → H} {w : World} {base : Nat} {spare : Nat → Bool} {held : Bool}
theorem Zfp {y:DataW H × List MemPlace}(h:DataW.trod enc Tryz.prog w base spare held n 23 [v]=some y):∃b,v=.float .f64 b∧b<18446744073709551616:=by
 (have ht:Tryz.prog.underlying 23=some (.float .f64):=by kernel_rfl);cases n with
 | zero=>simp [DataW.trod] at h
 | succ n =>
  cases v <;> simp [DataW.trod,ht] at h;rename_i k b;obtain⟨⟨rfl,hw⟩,_⟩:=h;exact⟨b,rfl,by simpa [Lit.wf] using hw⟩
theorem ZmC {len cap:Nat}{y:DataW H × List MemPlace}(h:DataW.trod enc Tryz.prog w base spare held n 29 [.slice a len cap]=some y) :
    ∃xs,Fs w a len cap xs:=by
  (have hC:Tryz.prog.cellsOf 23=1:=by kernel_rfl);rcases Go.Deep.open_slice1 Tryz.underlying29 hC h with ⟨aa,_⟩ | ⟨x,l,c,m,k,V,D,Pl,aa,hb,hl,hm,ac,_,hx⟩
  · simp only [List.cons.injEq,Value.slice.injEq,and_true] at aa;obtain⟨rfl,rfl,rfl⟩:=aa;exact⟨[],⟨⟨rfl,(fun u hu=>by cases hu),fun j hj=>by omega⟩,(fun x hx=>by cases hx),fun _=>rfl,Nat.le_refl _,by omega⟩⟩
  · simp only [List.cons.injEq,Value.slice.injEq,and_true] at aa;obtain⟨rfl,rfl,rfl⟩:=aa;(have ae:len≤m:=by rw [ac];split <;> omega);have ad:0<len→x.spot=none:=by
     intro h0;have:=World.cell?_spot (hx 0 (by omega)).1;simpa [Addr.add] using this
    have each:∀i,i<len→∃b,V i=.float .f64 b∧b<18446744073709551616:=by
     intro i hi;exact Zfp (hx i (by omega)).2
    obtain⟨f,hf⟩:=@Go.Deep.choose_lt Nat ⟨0⟩ len _ each;refine⟨(List.range len).map f,⟨⟨by simp [fVals],ZgT _,?_⟩,?_,(fun e=>by cases e),hl,by unfold maxLen at hm;omega⟩⟩
    · intro j hj;have hc:=(hx j (by omega)).1;obtain⟨b,off,spot⟩:=x;have ab:spot=none:=ad (by omega);subst ab;refine⟨b,off,rfl,?_⟩;rw [Addr.add_lit] at hc;rw [hc,(hf j hj).1];simp [fVals,hj]
    · intro z hz;obtain⟨j,hj,rfl⟩:=List.mem_map.1 hz;exact(hf j (by simpa using hj)).2
theorem Zpl {r:Reach}{b0:Nat}{d:DataW H}{p:List MemPlace}(hv:Value.okWide Tryz.prog w r b0 33 v)(h:DataW.Trod enc Tryz.prog w base spare held 33 v d p) :
    ∃(R:Rw) (a:Option Addr) (len cap:Nat),v=R.val (.slice a len cap)∧Fs w a len cap R.xs∧R.fits:=by
  (have hC:Tryz.prog.cellsOf 33=6:=by kernel_rfl);(have hR:Tryz.prog.cellsOf 31=2:=by kernel_rfl);(have h1:Tryz.prog.cellsOf 23=1:=by kernel_rfl);(have h2:Tryz.prog.cellsOf 4=1:=by kernel_rfl);(have h3:Tryz.prog.cellsOf 29=1:=by kernel_rfl);(have h4:Tryz.prog.cellsOf 3=1:=by kernel_rfl);obtain⟨cs,rfl,ad⟩:=okWide_struct Tryz.underlying33 hv;rw [hC] at ad;obtain⟨l⟩:=cs
  match l,ad with
  | [c0,c1,c2,c3,c4,c5],_ =>
   obtain⟨fuel,hf⟩:=h;obtain⟨xs,n,_,_,_,ab,aa⟩:=DataW.trod_struct Tryz.underlying33 hf
   match xs,ab with
   | [y0,y1,y2,y3,y4],_ =>
    (have t0:DataW.trod enc Tryz.prog w base spare held n 23 [c0]=some y0:=by simpa [Value.cells,h1] using aa 0 _ rfl);(have t1:DataW.trod enc Tryz.prog w base spare held n 4 [c1]=some y1:=by simpa [Value.cells,h2] using aa 1 _ rfl);(have t2:DataW.trod enc Tryz.prog w base spare held n 29 [c2]=some y2:=by simpa [Value.cells,h3] using aa 2 _ rfl);(have t3:DataW.trod enc Tryz.prog w base spare held n 3 [c3]=some y3:=by simpa [Value.cells,h4] using aa 3 _ rfl);(have t4:DataW.trod enc Tryz.prog w base spare held n 31 [c4,c5]=some y4:=by simpa [Value.cells,hR] using aa 4 _ rfl);obtain⟨b,e0,l0⟩:=Zfp t0;obtain⟨bb,e1,_⟩:=DataW.trod_bool (by kernel_rfl:Tryz.prog.underlying 4=some .bool) t1;obtain⟨k3,e3,_,w3⟩:=DataW.trod_int Tryz.underlying3 t3;obtain⟨z0,z1,n',_,_,u0,u1⟩:=trod_struct2 Tryz.underlying31 t4;(replace u0:DataW.trod enc Tryz.prog w base spare held n' 3 [c4]=some z0:=by simpa [h4] using u0);(replace u1:DataW.trod enc Tryz.prog w base spare held n' 3 [c5]=some z1:=by simpa [h4] using u1);obtain⟨k4,e4,_,w4⟩:=DataW.trod_int Tryz.underlying3 u0;obtain⟨k5,e5,_,w5⟩:=DataW.trod_int Tryz.underlying3 u1;obtain⟨a,len,cap,e2⟩:=Go.Joins.slice_form Tryz.underlying29 t2;simp only [List.cons.injEq,and_true] at e1 e2 e3 e4 e5;subst e0 e1 e2 e3 e4 e5;obtain⟨fl,ac⟩:=ZmC t2;exact⟨⟨b,bb,fl,k3,k4,k5⟩,a,len,cap,rfl,ac,⟨l0,ac.fit,w3,w4,w5⟩⟩
end
structure Rx where
  r:Rw
  a:Option Addr
  n:Nat
  c:Nat
def Rx.val (x:Rx):Value:=x.r.val (.slice x.a x.n x.c)
def Rx.zero:Rx:=⟨zeroR,none,0,0⟩
def Rx.cells (x:Rx):List Value:=[.float .f64 x.r.key,.bool x.r.dead,.slice x.a x.n x.c,.int .i64 x.r.wr,.int .i64 x.r.cell,.int .i64 x.r.no]
structure RwAt (w:World) (b o:Nat) (x:Rx):Prop where
  c0:w.cell? ⟨b,o,none⟩=some (.float .f64 x.r.key)
  c1:w.cell? ⟨b,o+1,none⟩=some (.bool x.r.dead)
  c2:w.cell? ⟨b,o+2,none⟩=some (.slice x.a x.n x.c)
  c3:w.cell? ⟨b,o+3,none⟩=some (.int .i64 x.r.wr)
  c4:w.cell? ⟨b,o+4,none⟩=some (.int .i64 x.r.cell)
  c5:w.cell? ⟨b,o+5,none⟩=some (.int .i64 x.r.no)
theorem RwAt.keep {B b o:Nat}{x:Rx}(h:RwAt w b o x)(hb:Below B w w')(hB:w.heap.size≤B):RwAt w' b o x:=by
 have k:∀{p:Addr} {v:Value},w.cell? p=some v→w'.cell? p=some v:=fun {p v} hc=>(hb.cell (Nat.lt_of_lt_of_le (World.block_lt_of_cell? w _ hc) hB)).trans hc;exact⟨k h.c0,k h.c1,k h.c2,k h.c3,k h.c4,k h.c5⟩
theorem RwAt.of {b o:Nat}{x:Rx}(h:∀t,t<6→w.cell? ⟨b,o+t,none⟩=x.cells[t]?):RwAt w b o x:=
 ⟨h 0 (by decide),h 1 (by decide),h 2 (by decide),h 3 (by decide),h 4 (by decide),h 5 (by decide)⟩
theorem Zc2 (b o:Nat)(x:Rx)(w:World)(h:RwAt w b o x):(Instr.loadAt 33 (.pointer (some ⟨b,o,none⟩))).run Tryz.prog w=.ok x.val w:=by
 have c0:=h.c0;have c1:=h.c1;have c2:=h.c2;have c3:=h.c3;have c4:=h.c4;have c5:=h.c5;simp [go_sem,c0,c1,c2,c3,c4,c5,Rw.val,Rx.val]
theorem Zcb (b o len cap k:Nat)(hk:k<len)(w:World):(Instr.indexAt 38 (.slice (some ⟨b,o,none⟩) len cap) (.int .i64 (k:Nat))).run Tryz.prog w=.ok (.pointer (some ⟨b,o+k*6,none⟩)) w:=by
 (have aa:Tryz.prog.underlying 38=some (.slice (Tryz.prog.elem 38)):=by kernel_rfl);(have h1:(0:Int)≤(k:Int):=by omega);simp [go_sem,Instr.indexAt,run_underlying aa,h1,Addr.add_lit];omega
structure Rz (w:World) (a:Option Addr) (m:Nat) (l:List Rx):Prop where
  len:l.length=m
  at':∀j,j<m→∃b off,a=some ⟨b,off,none⟩∧RwAt w b (off+j*6) (l.getD j Rx.zero)
  cols:∀x∈l,Fs w x.a x.n x.c x.r.xs
  fits:∀x∈l,x.r.fits
theorem Rz.keep {B:Nat}{len:Nat}{l:List Rx}(h:Rz w a len l)(hb:Below B w w')(hB:w.heap.size≤B):Rz w' a len l:=by
 refine⟨h.len,fun j hj=>?_,fun x hx=>(h.cols x hx).keep hb hB,h.fits⟩;obtain⟨b,off,ha,hu⟩:=h.at' j hj;exact⟨b,off,ha,hu.keep hb hB⟩
theorem Rz.mem {len:Nat}{l:List Rx}(h:Rz w a len l){j:Nat}(hj:j<len):l.getD j Rx.zero∈l:=by
 (have:j<l.length:=by rw [h.len];exact hj);simp [List.getD,this]
def rws (l:List Rx):List Rw:=l.map Rx.r
theorem ZlH (l:List Rx):(rws l).length=l.length:=by simp [rws]
def ZaQ (l:List Rx):List Value:=l.flatMap Rx.cells
theorem ZcH:∀l:List Rx,(ZaQ l).length=l.length*6
 | []=>rfl
 | x :: l=>by
  have e:ZaQ (x :: l)=x.cells ++ ZaQ l:=rfl
  rw [e,List.length_append,ZcH l,List.length_cons]
  have:x.cells.length=6:=rfl
  omega
theorem Zgh (l m:List Rx):ZaQ (l ++ m)=ZaQ l ++ ZaQ m:=by simp [ZaQ]
theorem ZdO (l:List Rx):∀u∈ZaQ l,u.oneCell'=true:=by
 intro u hu;obtain⟨x,_,hx⟩:=List.mem_flatMap.1 hu;simp only [Rx.cells,List.mem_cons,List.not_mem_nil,or_false] at hx;rcases hx with rfl | rfl | rfl | rfl | rfl | rfl <;> rfl
theorem ZdN:∀(l:List Rx)(j t:Nat),j<l.length→t<6→(ZaQ l)[j*6+t]? = (l.getD j Rx.zero).cells[t]?
 | [],j,t,hj,_=>by simp at hj
 | x :: l,0,t,_,ht=>by
  have e:ZaQ (x :: l)=x.cells ++ ZaQ l:=rfl
  have hl:x.cells.length=6:=rfl
  rw [e,Nat.zero_mul,Nat.zero_add,List.getElem?_append_left (by omega)]
  rfl
 | x :: l,j+1,t,hj,ht=>by
  have e:ZaQ (x :: l)=x.cells ++ ZaQ l:=rfl
  have hl:x.cells.length=6:=rfl
  rw [e,List.getElem?_append_right (by omega),hl,show (j+1)*6+t-6=j*6+t by omega]
  exact ZdN l j t (by simpa using hj) ht
theorem ZoD:(Tryz.prog.info? 33).map (fun i=>(i.zero,i.size,i.bytes))=some (some (.agg #[.float .f64 0,.bool false,.slice none 0 0,.int .i64 0,.int .i64 0,.int .i64 0]),6,64):=by kernel_rfl
structure ColR (w0 w:World) (x:Rx):Prop where
  fs:Fs w x.a x.n x.c x.r.xs
  home:∀b off,x.a=some ⟨b,off,none⟩→0<x.n→b<w0.heap.size∨∃C fr,w.heap[b]? = some (Obj.cells C 23 fr)
theorem ColR.keep {x:Rx}(h:ColR w0 w x)(hb:Below w.heap.size w w'):ColR w0 w' x:=by
 refine⟨h.fs.keep hb (Nat.le_refl _),fun b off ha hn=>?_⟩;rcases h.home b off ha hn with k | ⟨C,fr,k⟩
 · exact .inl k
 · exact .inr ⟨C,fr,(hb.block b (Array.getElem?_eq_some_iff.1 k).1).trans k⟩
theorem Fs.same {W:World}{c:Nat}{xs:List Nat}(h:Fs w a n c xs)(hs:∀b off,a=some ⟨b,off,none⟩→0<n→W.heap[b]? = w.heap[b]?):Fs W a n c xs:=by
 refine⟨⟨h.vs.1,h.vs.2.1,fun j hj=>?_⟩,h.fit,h.nil,h.le,h.big⟩;obtain⟨b,off,ha,hc⟩:=h.vs.2.2 j hj;refine⟨b,off,ha,?_⟩;rw [← hc];simp only [World.cell?,hs b off ha (by omega)]
structure Rq (w0 w:World) (s:Sl) (l:List Rx):Prop where
  own:Own 33 6 w s (ZaQ l)
  new:∀k,s.blk=some k→w0.heap.size≤k
  below:Below w0.heap.size w0 w
  cols:∀x∈l,ColR w0 w x
  fits:∀x∈l,x.r.fits
theorem Rq.len {l:List Rx}(h:Rq w0 w s l):l.length=s.len:=by
 have:=h.own.1;rw [ZcH] at this;omega
theorem Rq.keep {l:List Rx}(h:Rq w0 w s l)(hb:Below w.heap.size w w'):Rq w0 w' s l:=
 ⟨h.own.frame (fun k hk=>hb.block k (h.own.lt hk)),h.new,Zad h.below hb,fun x hx=>(h.cols x hx).keep hb,h.fits⟩
theorem Own.rwAt {l:List Rx}(h:Own 33 6 w s (ZaQ l)){b off:Nat}(ha:s.a=some ⟨b,off,none⟩)(j:Nat)(hj:j<l.length):RwAt w b (off+j*6) (l.getD j Rx.zero):=by
 refine RwAt.of fun t ht=>?_;have hg:=ZdN l j t hj ht;have aa:t<(l.getD j Rx.zero).cells.length:=ht;rw [List.getElem?_eq_getElem aa] at hg ⊢;have:=h.cell ha (j*6+t) _ hg;rwa [Addr.add_lit,← Nat.add_assoc] at this
theorem Rq.rz {l:List Rx}(h:Rq w0 w s l):Rz w s.a s.len l:=by
 refine⟨h.len,fun j hj=>?_,fun x hx=>(h.cols x hx).fs,h.fits⟩;rcases h.own.2 with ⟨h0,_⟩ | ⟨g,off,cur,ha,_⟩
 · rw [h0] at hj;exact absurd hj (Nat.not_lt_zero _)
 · exact⟨g,off,ha,h.own.rwAt ha j (by rw [h.len];exact hj)⟩
theorem Rq.new0 (w0 w:World)(hb:Below w0.heap.size w0 w):Rq w0 (w.alloc (.cells #[] 33)) ⟨some ⟨w.heap.size,0,none⟩,0,0⟩ []:=by
 refine⟨⟨rfl,.inr ⟨w.heap.size,0,_,rfl,heap_alloc_new w _,by simp,Nat.le_refl _,by simp,rfl⟩⟩,fun k hk=>?_,Zad hb (Zaa w _),(fun x hx=>by cases hx),fun x hx=>by cases hx⟩;have e:some w.heap.size=some k:=hk;cases e;exact hb.size
theorem Zpd (w:World)(x:Rx):Src Tryz.prog 6 38 (.slice (some ⟨w.heap.size,0,none⟩) 1 1) 1 (ZaQ [x]) (w.alloc (.cells #[.float .f64 x.r.key,.bool x.r.dead,.slice x.a x.n x.c,.int .i64 x.r.wr,.int .i64 x.r.cell,.int .i64 x.r.no] 33)):=by
 refine Src.ofSlice _ Tryz.underlying38 ⟨w.heap.size,0,none⟩ 1 1 (ZaQ [x]) rfl (fun j u hj=>?_) (ZdO _);have hb:(w.alloc (.cells #[.float .f64 x.r.key,.bool x.r.dead,.slice x.a x.n x.c,.int .i64 x.r.wr,.int .i64 x.r.cell,.int .i64 x.r.no] 33)).heap[w.heap.size]? = some (.cells #[.float .f64 x.r.key,.bool x.r.dead,.slice x.a x.n x.c,.int .i64 x.r.wr,.int .i64 x.r.cell,.int .i64 x.r.no] 33):=heap_alloc_new w _;rw [Addr.add_lit,cell_of_row _ _ _ _ _ _ hb];simpa [ZaQ,Rx.cells] using hj
theorem Rq.app {l:List Rx}(h:Rq w0 w s l){m:Nat}{k:List Rx}(af:Src Tryz.prog 6 38 v m (ZaQ k) w)(hk:k.length=m)(hc:∀x∈k,ColR w0 w x)(hf:∀x∈k,x.r.fits)(hl:l.length+k.length≤1000000) :
    ∃s' W,(∀ty,(Builtin.append_ #[38,38] ty #[s.val,v]).run Tryz.prog w=.ok s'.val W)∧Rq w0 W s' (l ++ k)∧Frm (fun k=>s.blk=some k) w W:=by
  obtain⟨s',W,ae,ho,ah,ad,ag⟩:=ZaA Tryz.underlying38 ZoD rfl (by decide) _ s (ZaQ l) h.own (ZdO l) v m (ZaQ k) af (by rw [← h.len,← hk];exact hl) 0;have ac:∀y,ColR w0 w y→ColR w0 W y:=by
   intro y hy;have aa:∀b off,y.a=some ⟨b,off,none⟩→0<y.n→W.heap[b]? = w.heap[b]?:=by
    intro b off ha hn;obtain⟨b',off',ha',hc,_,_⟩:=hy.fs.at 0 hn;rw [ha'] at ha;cases ha;refine ad.block b (World.block_lt_of_cell? _ _ hc) ?_;intro e;rcases hy.home b off ha' hn with k | ⟨C,fr,k⟩
    · have:=h.new b e;omega
    · obtain⟨cur,ab⟩:=h.own.kind e;rw [k] at ab;simp only [Option.some.injEq,Obj.cells.injEq] at ab;exact absurd ab.2.1 (by decide)
   refine⟨hy.fs.same aa,fun b off ha hn=>?_⟩;rcases hy.home b off ha hn with k | ⟨C,fr,k⟩
   · exact .inl k
   · exact .inr ⟨C,fr,(aa b off ha hn).trans k⟩
  refine⟨s',W,fun ty=>ae,⟨by rw [Zgh];exact ho,fun k e=>?_,?_,fun y hy=>?_,fun y hy=>?_⟩,ad⟩
  · rcases ag with e' | ⟨e',_⟩
    · exact h.new k (by rw [← e'];exact e)
    · rw [e'] at e;cases e;exact h.below.size
  · exact h.below.trans (ad.below h.below.size (fun k e=>h.new k e))
  · rcases List.mem_append.1 hy with hy | hy
    · exact ac y (h.cols y hy)
    · exact ac y (hc y hy)
  · rcases List.mem_append.1 hy with hy | hy
    · exact h.fits y hy
    · exact hf y hy
theorem Rq.one {l:List Rx}(h:Rq w0 w s l)(x:Rx)(hx:ColR w0 w x)(hf:x.r.fits)(hl:l.length+1≤1000000) :
    ∃s' W,(∀ty,(Builtin.append_ #[38,38] ty #[s.val,.slice (some ⟨w.heap.size,0,none⟩) 1 1]).run Tryz.prog (w.alloc (.cells #[.float .f64 x.r.key,.bool x.r.dead,.slice x.a x.n x.c,.int .i64 x.r.wr,.int .i64 x.r.cell,.int .i64 x.r.no] 33))=.ok s'.val W)∧Rq w0 W s' (l ++ [x])∧Frm (fun k=>s.blk=some k) w W:=by
  have hB:=Zaa w (.cells #[.float .f64 x.r.key,.bool x.r.dead,.slice x.a x.n x.c,.int .i64 x.r.wr,.int .i64 x.r.cell,.int .i64 x.r.no] 33);obtain⟨s',W,aa,hq,ab⟩:=(h.keep hB).app (Zpd w x) rfl (fun y hy=>by rw [List.mem_singleton.1 hy];exact hx.keep hB) (fun y hy=>by rw [List.mem_singleton.1 hy];exact hf) hl;exact⟨s',W,aa,hq,(Frm.ofBelow hB).trans ab (fun i _ h=>h)⟩
abbrev Bt:=Int × Int
def btV (x:Bt):Value:=.agg #[.int .i64 x.1,.int .i64 x.2]
def ZaY (l:List Bt):List Value:=l.flatMap fun x=>[.int .i64 x.1,.int .i64 x.2]
theorem Zfu:∀l:List Bt,(ZaY l).length=l.length*2
 | []=>rfl
 | x :: l=>by
  have e:ZaY (x :: l)=[.int .i64 x.1,.int .i64 x.2] ++ ZaY l:=rfl
  rw [e,List.length_append,Zfu l,List.length_cons]
  simp only [List.length_cons,List.length_nil]
  omega
theorem Zgj (l m:List Bt):ZaY (l ++ m)=ZaY l ++ ZaY m:=by simp [ZaY]
theorem Zfv (l:List Bt):∀u∈ZaY l,u.oneCell'=true:=by
 intro u hu;obtain⟨x,_,hx⟩:=List.mem_flatMap.1 hu;simp only [List.mem_cons,List.not_mem_nil,or_false] at hx;rcases hx with rfl | rfl <;> rfl
theorem ZdP:∀(l:List Bt)(j t:Nat),j<l.length→t<2→(ZaY l)[j*2+t]? = ([Value.int .i64 (l.getD j (0,0)).1,Value.int .i64 (l.getD j (0,0)).2]:List Value)[t]?
 | [],j,t,hj,_=>by simp at hj
 | x :: l,0,t,_,ht=>by
  have e:ZaY (x :: l)=[.int .i64 x.1,.int .i64 x.2] ++ ZaY l:=rfl
  rw [e,Nat.zero_mul,Nat.zero_add,List.getElem?_append_left (by simpa using ht)]
  rfl
 | x :: l,j+1,t,hj,ht=>by
  have e:ZaY (x :: l)=[.int .i64 x.1,.int .i64 x.2] ++ ZaY l:=rfl
  rw [e,List.getElem?_append_right (by simp only [List.length_cons,List.length_nil];omega)]
  simp only [List.length_cons,List.length_nil]
  rw [show (j+1)*2+t-(0+1+1)=j*2+t by omega]
  exact ZdP l j t (by simpa using hj) ht
theorem ZoC:(Tryz.prog.info? 26).map (fun i=>(i.zero,i.size,i.bytes))=some (some (.agg #[.int .i64 0,.int .i64 0]),2,16):=by kernel_rfl
def ZcV (w:World) (s:Sl) (l:List Bt):Prop:=Own 26 2 w s (ZaY l)
theorem ZcV.len {l:List Bt}(h:ZcV w s l):l.length=s.len:=by
 have:=h.1;rw [Zfu] at this;omega
theorem ZcV.at {l:List Bt}(h:ZcV w s l){j:Nat}(hj:j<s.len):∃b off,s.a=some ⟨b,off,none⟩∧w.cell? ⟨b,off+j*2,none⟩=some (.int .i64 (l.getD j (0,0)).1)∧w.cell? ⟨b,off+j*2+1,none⟩=some (.int .i64 (l.getD j (0,0)).2):=by
 rcases h.2 with ⟨h0,_⟩ | ⟨g,off,cur,ha,_⟩
 · rw [h0] at hj;exact absurd hj (Nat.not_lt_zero _)
 · (have hl:j<l.length:=by rw [h.len];exact hj);have e0:=ZdP l j 0 hl (by decide);have e1:=ZdP l j 1 hl (by decide);have k0:=Own.cell h ha _ _ e0;have k1:=Own.cell h ha _ _ e1;rw [Addr.add_lit] at k0 k1;exact⟨g,off,ha,by simpa using k0,by rw [Nat.add_assoc];simpa using k1⟩
theorem ZcV.new0 (w:World):ZcV (w.alloc (.cells #[] 26)) ⟨some ⟨w.heap.size,0,none⟩,0,0⟩ []:=
 ⟨rfl,.inr ⟨w.heap.size,0,_,rfl,heap_alloc_new w _,by simp,Nat.le_refl _,by simp,rfl⟩⟩
theorem Zpc (w:World)(x:Bt):Src Tryz.prog 2 82 (.slice (some ⟨w.heap.size,0,none⟩) 1 1) 1 (ZaY [x]) (w.alloc (.cells #[.int .i64 x.1,.int .i64 x.2] 26)):=by
 refine Src.ofSlice _ Tryz.underlying82 ⟨w.heap.size,0,none⟩ 1 1 (ZaY [x]) rfl (fun j u hj=>?_) (Zfv _);have hb:(w.alloc (.cells #[.int .i64 x.1,.int .i64 x.2] 26)).heap[w.heap.size]? = some (.cells #[.int .i64 x.1,.int .i64 x.2] 26):=heap_alloc_new w _;rw [Addr.add_lit,cell_of_row _ _ _ _ _ _ hb];simpa [ZaY] using hj
theorem ZcV.one {l:List Bt}(h:ZcV w s l)(x:Bt)(hl:l.length+1≤1000000) :
    ∃s' W,(∀ty,(Builtin.append_ #[82,82] ty #[s.val,.slice (some ⟨w.heap.size,0,none⟩) 1 1]).run Tryz.prog (w.alloc (.cells #[.int .i64 x.1,.int .i64 x.2] 26))=.ok s'.val W)∧ZcV W s' (l ++ [x])∧Frm (fun k=>s.blk=some k) w W∧(s'.blk=s.blk∨∀k,s'.blk=some k→w.heap.size≤k):=by
  have hB:=Zaa w (.cells #[.int .i64 x.1,.int .i64 x.2] 26);have hk:Own 26 2 (w.alloc (.cells #[.int .i64 x.1,.int .i64 x.2] 26)) s (ZaY l):=Own.frame h (fun k hk=>hB.block k (Own.lt h hk));obtain⟨s',W,aa,ho,ad,ac,ab⟩:=ZaA Tryz.underlying82 ZoC rfl (by decide) _ s (ZaY l) hk (Zfv l) _ 1 (ZaY [x]) (Zpc w x) (by rw [← ZcV.len h];exact hl) 0;refine⟨s',W,fun ty=>aa,by unfold ZcV;rw [Zgj];exact ho,?_,?_⟩
  · exact(Frm.ofBelow hB).trans ac (fun i _ h=>h)
  · rcases ab with e | ⟨e,_⟩
    · exact .inl e
    · refine .inr fun k hk=>?_;rw [e] at hk;cases hk;rw [Zae];omega
end Go.Proofs.YtdojdcncncgncaaGreat
