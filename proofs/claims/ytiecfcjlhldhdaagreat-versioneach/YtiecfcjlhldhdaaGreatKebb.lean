/-
  Lemmas.
-/
import Derived.Test.YtiecfcjlhldhdaaGreatKeba
import Derived.Test.YtiecfcjlhldhdaaGreatKeas
import Derived.Test.YtiecfcjlhldhdaaGreatKear
namespace Go.Proofs.YtiecfcjlhldhdaaGreat
open Go.RowKit
set_option linter.unusedVariables false
set_option linter.unusedSimpArgs false
set_option maxRecDepth 100000
set_option maxHeartbeats 4000000
variable {w w0:World}{r:Rw}{s:Sl}{L:List Lb}{n p k0 k1 a b:Nat}
open Go.ChangeShapes Go.WideShapes Go.ChangeAt Go.RowKit
structure InL (w:World) (s:Sl) (L:List Lb):Prop where
  len:L.length=s.len
  nil:s.a=none→s.cap=0
  le:s.len≤s.cap
  big:s.len≤9223372036854775807
  cell:∀i,i<s.len→∃b off,s.a=some ⟨b,off,none⟩∧w.cell? ⟨b,off+i*2,none⟩=some (L.getD i Lb.zero).u.val∧w.cell? ⟨b,off+i*2+1,none⟩=some (L.getD i Lb.zero).v.val
  it:∀x∈L,InI w x.u x.t∧InS w x.v x.l
theorem InL.gl (h:InL w s L)(hl:s.len≤8)(hp:∀x∈L,ZdQ x.u x.v x.l):Gl (fun _=>True) w s L:=
 ⟨h.len,h.nil,h.le,by omega,fun _ _ _=>trivial,h.cell,fun x hx=>⟨(h.it x hx).1.gi (by have:=(hp x hx).2.1;omega),(h.it x hx).2.gb (by have:=(hp x hx).1;omega) (fun y hy=>by have:=(hp x hx).2.2 y hy;omega)⟩⟩
section
variable {H : Type} {enc : TypeId × Value → H} {w : World} {base : Nat} {spare : Nat → Bool} {held : Bool}
theorem Zkq {k:Nat}{c0 c1:Value}{y:DataW H × List MemPlace}(hf:DataW.trod enc Tryz.prog w base spare held k 101 [c0,c1]=some y) :
    ∃x:Lb,[c0,c1]=[x.u.val,x.v.val]∧InI w x.u x.t∧InS w x.v x.l:=by
  (have h1:Tryz.prog.cellsOf 29=1:=by kernel_rfl);(have h2:Tryz.prog.cellsOf 99=1:=by kernel_rfl);obtain⟨xs,n,_,_,_,aa,ab⟩:=DataW.trod_struct Tryz.underlying101 hf
  match xs,aa with
  | [y0,y1],_ =>
   (have t0:DataW.trod enc Tryz.prog w base spare held n 29 [c0]=some y0:=by simpa [Value.cells,h1] using ab 0 _ rfl);(have t1:DataW.trod enc Tryz.prog w base spare held n 99 [c1]=some y1:=by simpa [Value.cells,h2] using ab 1 _ rfl);obtain⟨a,len,cap,e0⟩:=Go.Joins.slice_form Tryz.underlying29 t0;obtain⟨a',len',cap',e1⟩:=Go.Joins.slice_form Tryz.underlying99 t1;simp only [List.cons.injEq,and_true] at e0 e1;subst e0 e1;obtain⟨t,ht⟩:=Zk6 t0;obtain⟨l,hl⟩:=Zk8 t1;exact⟨⟨⟨a,len,cap⟩,⟨a',len',cap'⟩,t,l⟩,rfl,ht,hl⟩
theorem Zir {a:Option Addr}{len cap:Nat}{y:DataW H × List MemPlace}(h:DataW.trod enc Tryz.prog w base spare held n 26 [.slice a len cap]=some y) :
    ∃L,InL w ⟨a,len,cap⟩ L:=by
  (have hC:Tryz.prog.cellsOf 101=2:=by kernel_rfl);rcases Go.Deep.open_slice Tryz.underlying26 h with ⟨ac,_⟩ | ⟨x,l,c,m,k,D,Pl,ac,hb,hl,hm,ag,_,hx⟩
  · simp only [List.cons.injEq,Value.slice.injEq,and_true] at ac;obtain⟨rfl,rfl,rfl⟩:=ac;exact⟨[],⟨rfl,fun _=>rfl,Nat.le_refl _,Nat.zero_le _,(fun j hj=>absurd hj (Nat.not_lt_zero _)),fun x hx=>by cases hx⟩⟩
  · simp only [List.cons.injEq,Value.slice.injEq,and_true] at ac;obtain⟨rfl,rfl,rfl⟩:=ac;(have ai:len≤m:=by rw [ag];split <;> omega);have ah:0<len→x.spot=none:=by
     intro h0;obtain⟨cs,h1,_⟩:=hx 0 (by omega);rw [hC] at h1;obtain⟨_,ab,hc⟩:=World.cells?_some h1
     match cs,ab with
     | [c0,c1],_ =>
      have e0:=hc 0 (by omega);have:=World.cell?_spot (by simpa using e0);simpa [Addr.add] using this
    have each:∀i,i<len→∃t:Lb,∃b off,x=⟨b,off,none⟩∧w.cell? ⟨b,off+i*2,none⟩=some t.u.val∧w.cell? ⟨b,off+i*2+1,none⟩=some t.v.val∧InI w t.u t.t∧InS w t.v t.l:=by
     intro i hi;obtain⟨cs,g1,g2⟩:=hx i (by omega);rw [hC] at g1;obtain⟨_,ab,hc⟩:=World.cells?_some g1
     match cs,ab with
     | [c0,c1],_ =>
      obtain⟨t,ht,ae,af⟩:=Zkq g2;have aa:x.spot=none:=ah (by omega);obtain⟨b,off,spot⟩:=x;simp only at aa;subst aa;simp only [List.cons.injEq,and_true] at ht;have e0:=hc 0 (by omega);have e1:=hc 1 (by omega);simp only [Addr.add_lit] at e0 e1;refine⟨t,b,off,rfl,?_,?_,ae,af⟩
      · rw [← ht.1];simpa using e0
      · rw [← ht.2];simpa using e1
    obtain⟨f,hf⟩:=@Go.Deep.choose_lt Lb ⟨Lb.zero⟩ len _ each;(have ad:∀j,j<len→((List.range len).map f).getD j Lb.zero=f j:=fun j hj=>by simp [List.getD,hj]);refine⟨(List.range len).map f,⟨by simp,(fun e=>by cases e),hl,by show len≤_;unfold maxLen at hm;omega,fun j hj=>?_,fun t ht=>?_⟩⟩
    · replace hj:j<len:=hj;obtain⟨b,off,rfl,e0,e1,_⟩:=hf j hj;refine⟨b,off,rfl,?_,?_⟩
      · rw [ad j hj];exact e0
      · rw [ad j hj];exact e1
    · obtain⟨j,hj,rfl⟩:=List.mem_map.1 ht;obtain⟨_,_,_,_,_,h1,h2⟩:=hf j (by simpa using hj);exact⟨h1,h2⟩
end
def ZjE (s:Sl) (L:List Lb) (e:Ending):Prop:=e=.returned (.bool false)∨(s.len≤8∧(∀x∈L,ZdQ x.u x.v x.l)∧e=.returned (.bool true))
theorem Zku (w:World)(s:Sl)(L:List Lb)(h:InL w s L) :
    Calls Tryz.prog 26 #[s.val] w fun e w'=>ZjE s L e∧Below w.heap.size w w':=by
  obtain⟨a,len,cap⟩:=s;have HL:Hid (L.length=len):=h.len;have ai:len≤9223372036854775807:=h.big;have H:=hide h;have ag:=hide (fun (w':World) (hb:Below w.heap.size w w') (x:Lb) (hx:x∈L)=>ZlU w' x.u x.v x.l ⟨(h.it x hx).2.len,(h.it x hx).2.nil,(h.it x hx).2.le,(h.it x hx).2.big,fun i hi=>by obtain ⟨b,off,ha,hc⟩:=(h.it x hx).2.cell i hi;exact ⟨b,off,ha,Zag hc hb⟩,fun y hy=>((h.it x hx).2.bs y hy).keep hb (Nat.le_refl _)⟩ (h.it x hx).1.big);clear h;unfold Sl.val;simp only;go_enter Tryz.func26,Tryz.ntmps26;go_wp2_with fail;go_loopw [3] (fun iv wr=>∃i:Nat,i≤len∧i≤8∧iv=.int .i64 (i:Nat)∧Hid (∀j,j<i→ZdQ (L.getD j Lb.zero).u (L.getD j Lb.zero).v (L.getD j Lb.zero).l)∧Hid (Below w.heap.size w wr)) (fun iv _=>8-(intOf iv).toNat)
  case atStart=>exact ⟨0,Nat.zero_le _,Nat.zero_le _,rfl,(fun _ h=>absurd h (Nat.not_lt_zero _)),Below.refl _ _⟩
  case round =>
   obtain⟨i,hi,am,rfl,aa,hW⟩:=hrel;rcases Nat.lt_or_ge i len with af | al
   · (have i1:(i:Int)<(len:Int):=by omega);rcases Nat.lt_or_ge i 8 with h8 | h8
     · (have i8:(i:Int)<8:=by omega);obtain⟨b,off,ha,c0,c1⟩:=H.out.cell i af;replace ha:a=some ⟨b,off,none⟩:=ha;subst ha;have ab:L.getD i Lb.zero∈L:=ZgX (by rw [HL.out];exact af);have ae:=ag.out wr hW.out _ ab;obtain⟨x,hx⟩:∃x,x=L.getD i Lb.zero:=⟨_,rfl⟩;rw [← hx] at c0 c1 ae;have ah:=hide hx;obtain⟨⟨ua,un,uc⟩,⟨va,vn,vc⟩,xt,xl⟩:=x;have d0:=Zag c0 hW.out;have d1:=Zag c1 hW.out;have ad:=hide ae;have ak:=hide (Zda b off len cap i af);unfold Sl.val at d0 d1;unfold lfV Sl.val at ad;simp only at d0 d1 ad;clear c0 c1 ae hx ab;go_wp2_with fail;refine ad.out.mono ?_;rintro e w1 ⟨hl | ⟨hp,hl⟩,ac⟩
       · subst hl;have HB:=hide (Zac hW.out ac);clear ac aa;go_wp2_with fail;go_ret;exact⟨.inl rfl,HB.out⟩
       · subst hl;have HB:=hide (Zac hW.out ac);have HS:Hid (∀j,j<i+1→ZdQ (L.getD j Lb.zero).u (L.getD j Lb.zero).v (L.getD j Lb.zero).l):=by
          intro j hj;rcases Nat.lt_or_ge j i with h1 | h1
          · exact aa.out j h1
          · (obtain rfl:j=i:=by omega);rw [← ah.out];exact hp
         clear ac aa hp;go_wp2_with fail;go_roundw
         case rel=>exact ⟨i+1,by omega,by omega,by go_num,HS,HB⟩
         case measure=>simp only [intOf];omega
     · (have i8:¬(i:Int)<8:=by omega);(have i9:¬(len:Int)≤8:=by omega);clear aa;go_wp2_with fail;go_ret;exact⟨.inl rfl,hW.out⟩
   · (have i1:¬(i:Int)<(len:Int):=by omega);(have i9:(len:Int)≤8:=by omega);have HA:Hid (∀x∈L,ZdQ x.u x.v x.l):=by
      intro x hx;obtain⟨j,hj,rfl⟩:=List.getElem_of_mem hx;have:=aa.out j (by rw [HL.out] at hj;omega);simpa [List.getD,hj] using this
     (have aj:len≤8:=by omega);clear aa;go_wp2_with fail;go_ret;exact⟨.inr ⟨aj,HA.out,rfl⟩,hW.out⟩
def ZoF (l:List Lf) (e:Ending):Prop:=(MayH l∧e=.returned (.int .i64 0))∨(¬MayH l∧e=.returned (.int .i64 1))
def ZaB (n:Nat):List Lf:=List.replicate n ⟨[0,0,0,0],[]⟩
theorem Zjr (n a:Nat):(lf (ZaB n) a).slots=[]:=by
 unfold lf ZaB;rcases Nat.lt_or_ge a n with h | h
 · simp [List.getD,h]
 · simp [List.getD,h,Lf.zero]
theorem Zdz (n a b:Nat):cellH (ZaB n) a b=[]:=by
 unfold cellH;rw [Zjr];rfl
theorem Zky:MayL ⟨[0,0,0,0],[]⟩:=by
 refine⟨⟨rfl,?_,?_⟩,⟨by simp,(fun i hi=>absurd hi (Nat.not_lt_zero _)),fun h=>absurd rfl h⟩,by decide⟩
 · intro i hi;(have:i=0∨i=1∨i=2∨i=3:=by omega);rcases this with rfl | rfl | rfl | rfl <;> decide
 · intro i hi k hk h;(have:k=0∨k=1∨k=2∨k=3:=by omega);rcases this with rfl | rfl | rfl | rfl <;> exact absurd rfl h
theorem Zcy (h1:1≤n)(h2:n≤62):MayH (ZaB n):=by
 refine Zce.2 ⟨fun f hf=>?_,fun a b h=>absurd (Zdz n a b) h,fun a b a' b' r r' h=>?_,?_,?_⟩
 · rw [(List.mem_replicate.1 hf).2];exact Zky
 · rw [Zdz,ZcT] at h;cases h
 · unfold ZaB;rw [List.length_replicate];exact h1
 · unfold ZaB;rw [List.length_replicate];exact h2
structure EmI (w0 w:World) (s:Sl) (L:List Lb):Prop where
  own:OwnL w s L
  new:∀k,s.blk=some k→w0.heap.size≤k
  below:Below w0.heap.size w0 w
  it:∀x∈L,x.v=Sl.nil∧x.l=[]∧x.t=[0,0,0,0]∧∃g,x.u=⟨some ⟨g,0,none⟩,4,4⟩∧w.heap[g]? = some (Obj.cells (Zan [0,0,0,0]).toArray 3 (0,0))
theorem EmI.lfs (h:EmI w0 w s L):lfs L=ZaB L.length:=by
 unfold Go.Proofs.YtiecfcjlhldhdaaGreat.lfs ZaB;rw [List.eq_replicate_iff];refine⟨by simp,fun f hf=>?_⟩;obtain⟨x,hx,rfl⟩:=List.mem_map.1 hf;obtain⟨_,h2,h3,_⟩:=h.it x hx;unfold Lb.lf;rw [h2,h3];rfl
theorem EmI.gl (h:EmI w0 w s L)(hm:s.len≤900):Gl (fun _=>True) w s L:=by
 refine h.own.gl hm (fun _ _=>trivial) (fun x hx=>?_);obtain⟨h1,h2,h3,g,h4,h5⟩:=h.it x hx;rw [h1,h2,h3,h4];refine⟨⟨rfl,(fun e=>by cases e),Nat.le_refl _,by show 4≤1000000;decide,fun _ _ _=>trivial,fun i hi=>⟨g,0,rfl,?_⟩⟩,Gb.none w⟩;(have aa:i=0∨i=1∨i=2∨i=3:=by have:i<4:=hi;omega);rcases aa with rfl | rfl | rfl | rfl <;> (rw [cell_of_row _ _ _ _ _ _ h5];rfl)
theorem EmI.start (w:World):EmI w (w.alloc (.cells #[] 101)) ⟨some ⟨w.heap.size,0,none⟩,0,0⟩ []:=by
 refine⟨OwnL.new0 w,fun k hk=>?_,Zaa w _,fun x hx=>by cases hx⟩;have e:some w.heap.size=some k:=hk;cases e;exact Nat.le_refl _
theorem EmI.one (h:EmI w0 w s L)(hl:L.length+1≤900) :
    ∃s' W,(∀ty,(Builtin.append_ #[26,26] ty #[s.val,.slice (some ⟨w.heap.size+1,0,none⟩) 1 1]).run Tryz.prog ((w.alloc (.cells (Zan [0,0,0,0]).toArray 3)).alloc (.cells #[.slice (some ⟨w.heap.size,0,none⟩) 4 4,.slice none 0 0] 101))=.ok s'.val W)∧EmI w0 W s' (L ++ [⟨⟨some ⟨w.heap.size,0,none⟩,4,4⟩,Sl.nil,[0,0,0,0],[]⟩]):=by
  have hA:=Zaa w (.cells (Zan [0,0,0,0]).toArray 3);have hB:=Zaa (w.alloc (.cells (Zan [0,0,0,0]).toArray 3)) (.cells #[.slice (some ⟨w.heap.size,0,none⟩) 4 4,.slice none 0 0] 101);have ac:=Zac hA hB;have hk:OwnL ((w.alloc (.cells (Zan [0,0,0,0]).toArray 3)).alloc (.cells #[.slice (some ⟨w.heap.size,0,none⟩) 4 4,.slice none 0 0] 101)) s L:=Own.frame h.own (fun k hk=>ac.block k (Own.lt h.own hk));have hn:=heap_alloc_new w (.cells (Zan [0,0,0,0]).toArray 3);have ak:((w.alloc (.cells (Zan [0,0,0,0]).toArray 3)).alloc (.cells #[.slice (some ⟨w.heap.size,0,none⟩) 4 4,.slice none 0 0] 101)).heap[w.heap.size]? = some (Obj.cells (Zan [0,0,0,0]).toArray 3 (0,0)):=(hB.block _ (by rw [Zae];omega)).trans hn;have ah:=heap_alloc_new (w.alloc (.cells (Zan [0,0,0,0]).toArray 3)) (.cells #[.slice (some ⟨w.heap.size,0,none⟩) 4 4,.slice none 0 0] 101);rw [Zae] at ah;have ae:Src Tryz.prog 2 26 (.slice (some ⟨w.heap.size+1,0,none⟩) 1 1) 1 (Za1 [⟨⟨some ⟨w.heap.size,0,none⟩,4,4⟩,Sl.nil,[0,0,0,0],[]⟩]) ((w.alloc (.cells (Zan [0,0,0,0]).toArray 3)).alloc (.cells #[.slice (some ⟨w.heap.size,0,none⟩) 4 4,.slice none 0 0] 101)):=by
   refine Src.ofSlice _ Tryz.underlying26 ⟨w.heap.size+1,0,none⟩ 1 1 _ rfl (fun j u hj=>?_) (Zd1 _);rw [Addr.add_lit,cell_of_row _ _ _ _ _ _ ah];simpa [Za1,Sl.val,Sl.nil] using hj
  obtain⟨s',W,ad,ho,aj,ag,ai⟩:=Zax Tryz.underlying26 Zo4 rfl (by decide) _ s (Za1 L) hk (Zd1 L) _ 1 _ ae (by rw [← OwnL.len h.own];omega) 0;have aa:∀g:Nat,((w.alloc (.cells (Zan [0,0,0,0]).toArray 3)).alloc (.cells #[.slice (some ⟨w.heap.size,0,none⟩) 4 4,.slice none 0 0] 101)).heap[g]? = some (Obj.cells (Zan [0,0,0,0]).toArray 3 (0,0))→W.heap[g]? = some (Obj.cells (Zan [0,0,0,0]).toArray 3 (0,0)):=by
   intro g hg;refine(ag.block g (Array.getElem?_eq_some_iff.1 hg).1 (fun e=>?_)).trans hg;obtain⟨cur,ab⟩:=Own.kind hk e;rw [hg] at ab;simp only [Option.some.injEq,Obj.cells.injEq] at ab;exact absurd ab.2.1 (by decide)
  refine⟨s',W,fun ty=>ad,⟨by unfold OwnL;rw [ZfU];exact ho,fun k e=>?_,?_,fun x hx=>?_⟩⟩
  · rcases ai with e' | ⟨e',_⟩
    · exact h.new k (by rw [← e'];exact e)
    · rw [e'] at e;cases e;have:=h.below.size;rw [Zae,Zae];omega
  · have af:Below w0.heap.size w0 ((w.alloc (.cells (Zan [0,0,0,0]).toArray 3)).alloc (.cells #[.slice (some ⟨w.heap.size,0,none⟩) 4 4,.slice none 0 0] 101)):=Zac h.below ac;exact af.trans (ag.below af.size (fun k e=>h.new k e))
  · rcases List.mem_append.1 hx with hx | hx
    · obtain⟨h1,h2,h3,g,h4,h5⟩:=h.it x hx;exact⟨h1,h2,h3,g,h4,aa g ((ac.block g (Array.getElem?_eq_some_iff.1 h5).1).trans h5)⟩
    · rw [List.mem_singleton.1 hx];exact⟨rfl,rfl,rfl,w.heap.size,rfl,aa _ ak⟩
def Zot (w:World) (n:Nat) (e:Ending) (w':World):Prop:=∃(s:Sl) (L:List Lb),e=.returned (.slice s.a s.len s.cap)∧EmI w w' s L∧L.length=n
theorem Zd5 (w:World)(n:Nat)(hn:n≤800) :
    Calls Tryz.prog 59 #[.int .i64 (n:Int)] w (Zot w n):=by
  have HS:=hide (EmI.start w);go_enter Tryz.func59,Tryz.ntmps59;go_wp2_with fail;generalize w.alloc (.cells #[] 101)=W0 at *;go_loopw [3,4] (fun v iv wr=>∃(i:Nat) (s:Sl) (L:List Lb),i≤n∧iv=.int .i64 (i:Nat)∧v=.slice s.a s.len s.cap∧Hid (EmI w wr s L)∧Hid (L.length=i)) (fun _ iv _=>n-(intOf iv).toNat)
  case atStart=>exact ⟨0,_,[],Nat.zero_le _,rfl,rfl,HS,rfl⟩
  case round =>
   obtain⟨i,s,L,hi,rfl,rfl,hE,hL⟩:=hrel;rcases Nat.lt_or_ge i n with ai | ah
   · (have j1:(i:Int)<(n:Int):=by omega);obtain⟨s',W,aa,ac⟩:=hE.out.one (by rw [hL.out];omega);have HR:=hide aa;have ae:=hide ac;(have af:Hid ((L ++ [(⟨⟨some ⟨wr.heap.size,0,none⟩,4,4⟩,Sl.nil,[0,0,0,0],[]⟩:Lb)]).length=i+1):=by show _=_;rw [List.length_append,hL.out];rfl);have ad:=ZlZ 4 (by decide) wr;have ag:=hide ad;unfold Sl.val at HR;clear aa ac hE ad;go_wp2_with (first | refine ZiL _ rfl 29 (.const (.int .i64 4)) (.const (.int .i64 4)) rfl (.int .i64 4) (.int .i64 4) (.slice (some ⟨wr.heap.size,0,none⟩) 4 4) rfl rfl _ ag.out ?_ | (at_builtin;refine Zaq _ rfl 26 (.tmp 11) (.tmp 14) rfl (.slice s.a s.len s.cap) (.slice (some ⟨wr.heap.size+1,0,none⟩) 1 1) (.slice s'.a s'.len s'.cap) rfl rfl W HR.out ?_));go_roundw
     case rel=>exact ⟨i+1,s',_,by omega,by go_num,rfl,ae,af⟩
     case measure=>simp only [intOf];omega
   · (have j1:¬(i:Int)<(n:Int):=by omega);(have e0:i=n:=by omega);have ab:Hid (Zot w n (.returned (.slice s.a s.len s.cap)) wr):=⟨s,L,rfl,hE.out,by rw [hL.out,e0]⟩;clear hE hL e0;go_wp2_with fail;go_ret;exact ab.out
theorem Zkj (hm:r.may=true):insA [] (hpB r)=⟨[hpB r],0,0⟩:=by
 have h:=ZeB hm;unfold insA;rw [if_neg (by omega)];have e:insS [] (hpB r)=[hpB r]:=rfl;rw [e,if_neg (by simp [need,needS,h])];rfl
theorem Zmr (h1:1≤n)(h2:n≤62)(hm:r.may=true)(hw:r.wr≠0):Zg5 (ZaB n) r [] 0:=by
 have hn:findH (ZaB n) r.key=none:=Zd6.2 (fun a b q hq=>by rw [Zdz,ZcT] at hq;cases hq);(have h0:(insA (lf (ZaB n) 0).slots (hpB r)).e=0:=by rw [Zjr,Zkj hm]);rcases Zp1 (Zcy h1 h2) hm hw hn with ⟨hr,_⟩ | ⟨i,p⟩
 · exact absurd h0 (Zcz.1 hr 0 (by unfold ZaB;rw [List.length_replicate];exact h1))
 · obtain⟨_,_,_,h4⟩:=ZbF p.room;cases i with
   | zero=>exact p
   | succ i=>exact absurd h0 (h4 0 (by omega))
theorem Zjl (w:World)(x:Rx)(b:Bt) :
    ∃Wa W,(Instr.storeAt 39 (.pointer (some ⟨w.heap.size,0,none⟩)) (.agg #[.float .f64 x.r.key,.bool x.r.dead,.slice x.a x.n x.c,.int .i64 x.r.wr,.int .i64 x.r.cell,.int .i64 x.r.no])).run Tryz.prog ((w.alloc (.cells #[.float .f64 0,.bool false,.slice none 0 0,.int .i64 0,.int .i64 0,.int .i64 0] 39)).alloc (.cells #[.int .i64 0,.int .i64 0] 67))=.ok () Wa ∧
     (Instr.storeAt 67 (.pointer (some ⟨w.heap.size+1,0,none⟩)) (.agg #[.int .i64 b.1,.int .i64 b.2])).run Tryz.prog Wa=.ok () W∧RwBlk W w.heap.size x.r (.slice x.a x.n x.c)∧BtBlk W (w.heap.size+1) b∧Below w.heap.size w W∧(Fs w x.a x.n x.c x.r.xs→Fs W x.a x.n x.c x.r.xs):=by
 have al:=Zaa w (.cells #[.float .f64 0,.bool false,.slice none 0 0,.int .i64 0,.int .i64 0,.int .i64 0] 39);have ai:=Zaa (w.alloc (.cells #[.float .f64 0,.bool false,.slice none 0 0,.int .i64 0,.int .i64 0,.int .i64 0] 39)) (.cells #[.int .i64 0,.int .i64 0] 67);have ak:RwBlk ((w.alloc (.cells #[.float .f64 0,.bool false,.slice none 0 0,.int .i64 0,.int .i64 0,.int .i64 0] 39)).alloc (.cells #[.int .i64 0,.int .i64 0] 67)) w.heap.size zeroR (.slice none 0 0):=(Zai w zeroR (.slice none 0 0)).keep ai;have aj:BtBlk ((w.alloc (.cells #[.float .f64 0,.bool false,.slice none 0 0,.int .i64 0,.int .i64 0,.int .i64 0] 39)).alloc (.cells #[.int .i64 0,.int .i64 0] 67)) (w.heap.size+1) (0,0):=by
  have:=Zbq (w.alloc (.cells #[.float .f64 0,.bool false,.slice none 0 0,.int .i64 0,.int .i64 0,.int .i64 0] 39)) (0,0);rwa [Zae] at this
 (have am:((w.alloc (.cells #[.float .f64 0,.bool false,.slice none 0 0,.int .i64 0,.int .i64 0,.int .i64 0] 39)).alloc (.cells #[.int .i64 0,.int .i64 0] 67)).heap.size=w.heap.size+2:=by rw [Zae,Zae]);have ad:=Zfi _ w.heap.size _ _ ak x.r x.a x.n x.c;have aa:=ZaQ ((w.alloc (.cells #[.float .f64 0,.bool false,.slice none 0 0,.int .i64 0,.int .i64 0,.int .i64 0] 39)).alloc (.cells #[.int .i64 0,.int .i64 0] 67)) w.heap.size x.r (.slice x.a x.n x.c);have ah:=ZaI ak x.r (.slice x.a x.n x.c);have ac:BtBlk (setRw ((w.alloc (.cells #[.float .f64 0,.bool false,.slice none 0 0,.int .i64 0,.int .i64 0,.int .i64 0] 39)).alloc (.cells #[.int .i64 0,.int .i64 0] 67)) w.heap.size x.r (.slice x.a x.n x.c)) (w.heap.size+1) (0,0):=(aa.block _ aj.lt (by omega)).trans aj;have af:Below w.heap.size w (setRw ((w.alloc (.cells #[.float .f64 0,.bool false,.slice none 0 0,.int .i64 0,.int .i64 0,.int .i64 0] 39)).alloc (.cells #[.int .i64 0,.int .i64 0] 67)) w.heap.size x.r (.slice x.a x.n x.c)):=(Zac al ai).trans (aa.below (by omega) (fun k hk=>by rw [hk];exact Nat.le_refl _));have ae:=ZeY _ (w.heap.size+1) _ ac b;have ab:=Za8 (setRw ((w.alloc (.cells #[.float .f64 0,.bool false,.slice none 0 0,.int .i64 0,.int .i64 0,.int .i64 0] 39)).alloc (.cells #[.int .i64 0,.int .i64 0] 67)) w.heap.size x.r (.slice x.a x.n x.c)) (w.heap.size+1) b;have ag:=af.trans (ab.below af.size (fun k hk=>by rw [hk];omega));refine⟨_,_,ad,ae,(ab.block _ (Array.getElem?_eq_some_iff.1 ah).1 (by omega)).trans ah,ZaP ac b,ag,fun h=>h.keep ag (Nat.le_refl _)⟩
theorem Zl7 (w:World)(x:Rx) :
    ∃W,(Instr.storeAt 39 (.pointer (some ⟨w.heap.size,0,none⟩)) (.agg #[.float .f64 x.r.key,.bool x.r.dead,.slice x.a x.n x.c,.int .i64 x.r.wr,.int .i64 x.r.cell,.int .i64 x.r.no])).run Tryz.prog (w.alloc (.cells #[.float .f64 0,.bool false,.slice none 0 0,.int .i64 0,.int .i64 0,.int .i64 0] 39))=.ok () W∧RwBlk W w.heap.size x.r (.slice x.a x.n x.c)∧Below w.heap.size w W:=
  ⟨_,Zcl x.r.key x.r.dead x.a x.n x.c x.r.wr x.r.cell x.r.no w,Zai w x.r (.slice x.a x.n x.c),Zaa w _⟩
theorem ZkQ {x y:Rx}(h:x.r=y.r)(w:World)(hx:Fs w x.a x.n x.c x.r.xs)(hy:Fs w y.a y.n y.c y.r.xs):Calls Tryz.prog 13 #[x.val,y.val] w fun e w'=>e=.returned (.bool true)∧Below w.heap.size w w':=by
 obtain⟨r,a,n,c⟩:=x;obtain⟨q,a2,n2,c2⟩:=y;simp only at h hx hy;subst h;exact Ziy r a n c a2 n2 c2 w hx hy
theorem Zf5 (lo hi:Nat)(l:List Hr):(Zay lo hi l).length≤l.length:=by
 have:=ZeN lo hi l l.length (Nat.le_refl _);rwa [List.take_length] at this
def Zeg (w:World) (p:Nat) (k0 k1:Nat):Prop:=w.heap[p]? = some (Obj.cells #[.float .f64 k0,.float .f64 k1] 48 (0,0))
theorem Zeg.keep {w':World}(h:Zeg w p k0 k1)(hb:Below w.heap.size w w'):Zeg w' p k0 k1:=(hb.block p (Array.getElem?_eq_some_iff.1 h).1).trans h
theorem Zeg.c0 (h:Zeg w p k0 k1):w.cell? ⟨p,0,none⟩=some (.float .f64 k0):=by unfold Zeg at h;rw [cell_of_row _ _ _ _ _ _ h];rfl
theorem Zeg.c1 (h:Zeg w p k0 k1):w.cell? ⟨p,1,none⟩=some (.float .f64 k1):=by unfold Zeg at h;rw [cell_of_row _ _ _ _ _ _ h];rfl
theorem Zlf (w:World)(k0 k1:Nat):Zeg (w.alloc (.cells #[.float .f64 k0,.float .f64 k1] 48)) w.heap.size k0 k1:=heap_alloc_new w _
def upK (a b:Rw):Prop:=Fl.rk a.key<Fl.rk b.key
theorem Zgm (ha:a<18446744073709551616)(hb:b<18446744073709551616):Fl.less a b=true↔Fl.rk a<Fl.rk b:=by
 rw [← Fl.rk_less a b ha hb];simp
theorem ZnH (ha:a<18446744073709551616)(hb:b<18446744073709551616):Fl.less a b=false↔Fl.rk b≤Fl.rk a:=by
 rw [← Fl.rk_less a b ha hb];simp
theorem Zo9 (ha:a<18446744073709551616)(hb:b<18446744073709551616)(ka:Fl.key a=a)(kb:Fl.key b=b)(h:Fl.rk a=Fl.rk b):a=b:=by
 rw [← ka,← kb,← Fl.of_rk a ha,← Fl.of_rk b hb,h]
structure Zeh (r:Rw):Prop where
  fit:r.key<18446744073709551616
  key:Fl.key r.key=r.key
theorem Zjn (r:Rw):insK [] r=[r]:=rfl
theorem ZgZ (x:Rw)(l:List Rw)(r:Rw):insK (x :: l) r=if Fl.less x.key r.key=true then x :: insK l r else r :: x :: l:=by
 unfold insK;by_cases h:Fl.less x.key r.key=true
 · rw [if_pos h,show posK r.key (x :: l)=posK r.key l+1 by rw [posK,if_pos h]];simp
 · rw [if_neg h,show posK r.key (x :: l)=0 by rw [posK,if_neg h]];simp
theorem Zdb {z:Rw}:∀{l:List Rw},z∈insK l r↔z=r∨z∈l
 | []=>by simp [Zjn]
 | x :: l=>by
  rw [ZgZ]
  split
  · rw [List.mem_cons,Zdb (l:=l),List.mem_cons]
    constructor
    · rintro (h | h | h)
      · exact .inr (.inl h)
      · exact .inl h
      · exact .inr (.inr h)
    · rintro (h | h | h)
      · exact .inr (.inl h)
      · exact .inl h
      · exact .inr (.inr h)
  · rw [List.mem_cons]
theorem ZlL (hr:Zeh r):∀{l:List Rw},(∀x∈l,Zeh x∧x.key≠r.key)→l.Pairwise upK→(insK l r).Pairwise upK
 | [],_,_=>by rw [Zjn];exact List.pairwise_singleton _ _
 | x :: l,hg,hp=>by
  obtain⟨hx,hl⟩:=List.pairwise_cons.1 hp
  have aa:=hg x List.mem_cons_self
  rw [ZgZ]
  split
  · rename_i h
    refine List.pairwise_cons.2 ⟨fun z hz=>?_,ZlL hr (fun y hy=>hg y (List.mem_cons_of_mem _ hy)) hl⟩
    rcases Zdb.1 hz with rfl | hz
    · exact(Zgm aa.1.fit hr.fit).1 h
    · exact hx z hz
  · rename_i h
    have h1:Fl.rk r.key≤Fl.rk x.key:=(ZnH aa.1.fit hr.fit).1 (by simpa using h)
    have h2:Fl.rk r.key≠Fl.rk x.key:=fun e=>aa.2 (Zo9 hr.fit aa.1.fit hr.key aa.1.key e).symm
    have h3:upK r x:=Nat.lt_of_le_of_ne h1 h2
    refine List.pairwise_cons.2 ⟨fun z hz=>?_,hp⟩
    rcases List.mem_cons.1 hz with rfl | hz
    · exact h3
    · exact Nat.lt_trans h3 (hx z hz)
theorem ZmQ:∀{l m:List Rw},l.Pairwise upK→m.Pairwise upK→(∀z,z∈l↔z∈m)→l=m
 | [],[],_,_,_=>rfl
 | [],y :: m,_,_,h=>by have:=(h y).2 List.mem_cons_self;cases this
 | x :: l,[],_,_,h=>by have:=(h x).1 List.mem_cons_self;cases this
 | x :: l,y :: m,h1,h2,h=>by
  obtain⟨hx,hl⟩:=List.pairwise_cons.1 h1
  obtain⟨hy,hm⟩:=List.pairwise_cons.1 h2
  have irr:∀z:Rw,¬upK z z:=fun z=>Nat.lt_irrefl _
  have e:x=y:=by
   rcases List.mem_cons.1 ((h x).1 List.mem_cons_self) with e | hx'
   · exact e
   · rcases List.mem_cons.1 ((h y).2 List.mem_cons_self) with e | hy'
     · exact e.symm
     · exact absurd (Nat.lt_trans (hx y hy') (hy x hx')) (irr x)
  subst e;rw [ZmQ hl hm (fun z=>⟨fun hz=>?_,fun hz=>?_⟩)]
  · rcases List.mem_cons.1 ((h z).1 (List.mem_cons_of_mem _ hz)) with e | h'
    · subst e;exact absurd (hx z hz) (irr z)
    · exact h'
  · rcases List.mem_cons.1 ((h z).2 (List.mem_cons_of_mem _ hz)) with e | h'
    · subst e;exact absurd (hy z hz) (irr z)
    · exact h'
def inK (lo hi:Nat) (r:Rw):Prop:=Fl.less r.key lo=false∧Fl.less r.key hi=true
theorem ZoU {lo hi:Nat}:∀(l:List Hr)(o:List Rw),(∀h∈l,Zeh h.r)→ZbE l→(∀x∈o,Zeh x)→o.Pairwise upK→(∀x∈o,∀h∈l,x.key≠h.r.key) →
    (l.foldl (Zei lo hi) o).Pairwise upK∧(∀x∈l.foldl (Zei lo hi) o,Zeh x)∧∀z,z∈l.foldl (Zei lo hi) o↔z∈o∨∃h∈l,h.r=z∧inK lo hi z
  | [],o,_,_,hg,hp,_=>⟨hp,hg,fun z=>by simp⟩
  | h :: l,o,hl,h1,hg,hp,hd=>by
   obtain⟨hh,h1'⟩:=List.pairwise_cons.1 h1
   have aa:=hl h List.mem_cons_self
   rw [List.foldl_cons]
   by_cases hc:(Fl.less h.r.key lo || !(Fl.less h.r.key hi))=true
   · rw [show Zei lo hi o h=o by rw [Zei,if_pos hc]]
     obtain⟨a,b,c⟩:=ZoU l o (fun x hx=>hl x (List.mem_cons_of_mem _ hx)) h1' hg hp (fun x hx g hg'=>hd x hx g (List.mem_cons_of_mem _ hg'))
     refine⟨a,b,fun z=>?_⟩
     rw [c z]
     constructor
     · rintro (hz | ⟨g,hg',rfl,hi'⟩)
       · exact .inl hz
       · exact .inr ⟨g,List.mem_cons_of_mem _ hg',rfl,hi'⟩
     · rintro (hz | ⟨g,hg',rfl,hi'⟩)
       · exact .inl hz
       · rcases List.mem_cons.1 hg' with rfl | hg'
         · rw [hi'.1,hi'.2] at hc;cases hc
         · exact .inr ⟨g,hg',rfl,hi'⟩
   · rw [show Zei lo hi o h=insK o h.r by rw [Zei,if_neg hc]]
     have ab:inK lo hi h.r:=by
      cases q1:Fl.less h.r.key lo <;> cases q2:Fl.less h.r.key hi <;> rw [q1,q2] at hc <;> first | exact ⟨q1,q2⟩ | exact absurd rfl hc
     obtain⟨a,b,c⟩:=ZoU l (insK o h.r) (fun x hx=>hl x (List.mem_cons_of_mem _ hx)) h1' (fun x hx=>by rcases Zdb.1 hx with rfl | hx;exact aa;exact hg x hx) (ZlL aa (fun x hx=>⟨hg x hx,hd x hx h List.mem_cons_self⟩) hp) (fun x hx g hg'=>by
      rcases Zdb.1 hx with rfl | hx
      · exact hh g hg'
      · exact hd x hx g (List.mem_cons_of_mem _ hg'))
     refine⟨a,b,fun z=>?_⟩;rw [c z,Zdb];constructor
     · rintro ((rfl | hz) | ⟨g,hg',rfl,hi'⟩)
       · exact .inr ⟨h,List.mem_cons_self,rfl,ab⟩
       · exact .inl hz
       · exact .inr ⟨g,List.mem_cons_of_mem _ hg',rfl,hi'⟩
     · rintro (hz | ⟨g,hg',rfl,hi'⟩)
       · exact .inl (.inr hz)
       · rcases List.mem_cons.1 hg' with rfl | hg'
         · exact .inl (.inl rfl)
         · exact .inr ⟨g,hg',rfl,hi'⟩
theorem Zhy {lo hi:Nat}{l:List Hr}(hl:∀h∈l,Zeh h.r)(h1:ZbE l):(Zay lo hi l).Pairwise upK∧(∀x∈Zay lo hi l,Zeh x)∧∀z,z∈Zay lo hi l↔∃h∈l,h.r=z∧inK lo hi z:=by
 obtain⟨a,b,c⟩:=ZoU (lo:=lo) (hi:=hi) l [] hl h1 (fun x hx=>by cases hx) List.Pairwise.nil (fun x hx=>by cases hx);exact⟨a,b,fun z=>by rw [show Zay lo hi l=l.foldl (Zei lo hi) [] from rfl,c z];simp⟩
theorem Zbp:zeroR.fits:=⟨by decide,by decide,by decide,by decide,by decide⟩
section
variable {ops : Array Oper} {rest : List Oper} {o : Oper} {a : Act} {Q : Exit → Act → World → Prop}
end
structure Un where
  tx:Int
  no:Int
  prev:Int
  kind:Int
  page:Int
  slot:Int
  row:Rw
def Un.val (u:Un) (c:Value):Value:=.agg #[.int .i64 u.tx,.int .i64 u.no,.int .i64 u.prev,.int .i64 u.kind,.int .i64 u.page,.int .i64 u.slot,.float .f64 u.row.key,.bool u.row.dead,c,.int .i64 u.row.wr,.int .i64 u.row.cell,.int .i64 u.row.no]
structure Un.fits (u:Un):Prop where
  tx:(Lit.int .i64 u.tx).wf=true
  no:(Lit.int .i64 u.no).wf=true
  prev:(Lit.int .i64 u.prev).wf=true
  kind:(Lit.int .i64 u.kind).wf=true
  page:(Lit.int .i64 u.page).wf=true
  slot:(Lit.int .i64 u.slot).wf=true
  row:u.row.fits
def witB (n lo hi:Int):Bool:=decide (lo≤n) && decide (n≤hi)
def undoB (k:Int) (r:Rw):Bool:=if k=1 then r.same zeroR else if k=2 then r.may else false
def Un.may (u:Un):Bool:=witB u.tx 1 2147483647 && witB u.no 1 2147483647 && witB u.prev 0 65535 && witB u.page 0 255 && witB u.slot 0 255 && undoB u.kind u.row
def Un.same (a b:Un):Bool:=a.tx == b.tx && a.no == b.no && a.prev == b.prev && a.kind == b.kind && a.page == b.page && a.slot == b.slot && a.row.same b.row
theorem Un.same_self (a:Un):a.same a=true:=by simp [Un.same,Rw.same_self]
theorem Rw.same_eq {s:Rw}(h:r.same s=true):r=s:=by
 obtain⟨k,d,xs,t,c,n⟩:=r;obtain⟨k',d',xs',t',c',n'⟩:=s;simp only [Rw.same,Bool.and_eq_true,beq_iff_eq] at h;obtain⟨⟨⟨⟨⟨rfl,rfl⟩,rfl⟩,rfl⟩,rfl⟩,rfl⟩:=h;rfl
theorem Un.same_eq {a b:Un}(h:a.same b=true):a=b:=by
 obtain⟨t,n,p,k,g,s,r⟩:=a;obtain⟨t',n',p',k',g',s',r'⟩:=b;simp only [Un.same,Bool.and_eq_true,beq_iff_eq] at h;obtain⟨⟨⟨⟨⟨⟨rfl,rfl⟩,rfl⟩,rfl⟩,rfl⟩,rfl⟩,hr⟩:=h;rw [Rw.same_eq hr]
theorem Un.same_iff (a b:Un):a.same b=true↔a=b:=⟨Un.same_eq,fun h=>by rw [h];exact Un.same_self b⟩
structure Un.Parts (u:Un):Prop where
  tx:1≤u.tx∧u.tx≤2147483647
  no:1≤u.no∧u.no≤2147483647
  prev:0≤u.prev∧u.prev≤65535
  page:0≤u.page∧u.page≤255
  slot:0≤u.slot∧u.slot≤255
  kind:(u.kind=1∧u.row=zeroR)∨(u.kind=2∧u.row.may=true)
theorem Un.parts {u:Un}(h:u.may=true):u.Parts:=by
 simp only [Un.may,witB,Bool.and_eq_true,decide_eq_true_eq] at h;obtain⟨⟨⟨⟨⟨h1,h2⟩,h3⟩,h4⟩,h5⟩,h6⟩:=h;refine⟨h1,h2,h3,h4,h5,?_⟩;unfold undoB at h6;by_cases k1:u.kind=1
 · rw [if_pos k1] at h6;exact .inl ⟨k1,Rw.same_eq h6⟩
 · rw [if_neg k1] at h6;by_cases k2:u.kind=2
   · rw [if_pos k2] at h6;exact .inr ⟨k2,h6⟩
   · rw [if_neg k2] at h6;cases h6
end Go.Proofs.YtiecfcjlhldhdaaGreat
