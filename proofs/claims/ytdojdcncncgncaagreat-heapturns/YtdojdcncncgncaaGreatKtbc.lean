/-
  Lemmas.
-/
import Derived.Test.YtdojdcncncgncaaGreatKtbb
import Derived.Test.YtdojdcncncgncaaGreatKtar
namespace Go.Proofs.YtdojdcncncgncaaGreat
open Go.RowKit
set_option linter.unusedVariables false
set_option maxRecDepth 100000
set_option maxHeartbeats 4000000
variable {w w0:World}{s:Sl}{L:List Lb}{n:Nat}
open Go.ChangeShapes Go.WideShapes Go.ChangeAt Go.RowKit
structure InL (w:World) (s:Sl) (L:List Lb):Prop where
  len:L.length=s.len
  nil:s.a=none→s.cap=0
  le:s.len≤s.cap
  big:s.len≤9223372036854775807
  cell:∀i,i<s.len→∃b off,s.a=some ⟨b,off,none⟩∧w.cell? ⟨b,off+i*2,none⟩=some (L.getD i Lb.zero).u.val∧w.cell? ⟨b,off+i*2+1,none⟩=some (L.getD i Lb.zero).v.val
  it:∀x∈L,InI w x.u x.t∧InS w x.v x.l
theorem InL.gl (h:InL w s L)(hl:s.len≤8)(hp:∀x∈L,Ze4 x.u x.v x.l):Gl (fun _=>True) w s L:=
 ⟨h.len,h.nil,h.le,by omega,fun _ _ _=>trivial,h.cell,fun x hx=>⟨(h.it x hx).1.gi (by have:=(hp x hx).2.1;omega),(h.it x hx).2.gb (by have:=(hp x hx).1;omega) (fun y hy=>by have:=(hp x hx).2.2 y hy;omega)⟩⟩
section
variable {H : Type} {enc : TypeId × Value → H} {w : World} {base : Nat} {spare : Nat → Bool} {held : Bool}
theorem ZjG {k:Nat}{c0 c1:Value}{y:DataW H × List MemPlace}(hf:DataW.trod enc Tryz.prog w base spare held k 67 [c0,c1]=some y) :
    ∃x:Lb,[c0,c1]=[x.u.val,x.v.val]∧InI w x.u x.t∧InS w x.v x.l:=by
  (have h1:Tryz.prog.cellsOf 46=1:=by kernel_rfl);(have h2:Tryz.prog.cellsOf 65=1:=by kernel_rfl);obtain⟨xs,n,_,_,_,aa,ab⟩:=DataW.trod_struct Tryz.underlying67 hf
  match xs,aa with
  | [y0,y1],_ =>
   (have t0:DataW.trod enc Tryz.prog w base spare held n 46 [c0]=some y0:=by simpa [Value.cells,h1] using ab 0 _ rfl);(have t1:DataW.trod enc Tryz.prog w base spare held n 65 [c1]=some y1:=by simpa [Value.cells,h2] using ab 1 _ rfl);obtain⟨a,len,cap,e0⟩:=Go.Joins.slice_form Tryz.underlying46 t0;obtain⟨a',len',cap',e1⟩:=Go.Joins.slice_form Tryz.underlying65 t1;simp only [List.cons.injEq,and_true] at e0 e1;subst e0 e1;obtain⟨t,ht⟩:=ZjP t0;obtain⟨l,hl⟩:=ZjQ t1;exact⟨⟨⟨a,len,cap⟩,⟨a',len',cap'⟩,t,l⟩,rfl,ht,hl⟩
theorem Zoa {a:Option Addr}{len cap:Nat}{y:DataW H × List MemPlace}(h:DataW.trod enc Tryz.prog w base spare held n 22 [.slice a len cap]=some y) :
    ∃L,InL w ⟨a,len,cap⟩ L:=by
  (have hC:Tryz.prog.cellsOf 67=2:=by kernel_rfl);rcases Go.Deep.open_slice Tryz.underlying22 h with ⟨ac,_⟩ | ⟨x,l,c,m,k,D,Pl,ac,hb,hl,hm,ag,_,hx⟩
  · simp only [List.cons.injEq,Value.slice.injEq,and_true] at ac;obtain⟨rfl,rfl,rfl⟩:=ac;exact⟨[],⟨rfl,fun _=>rfl,Nat.le_refl _,Nat.zero_le _,(fun j hj=>absurd hj (Nat.not_lt_zero _)),fun x hx=>by cases hx⟩⟩
  · simp only [List.cons.injEq,Value.slice.injEq,and_true] at ac;obtain⟨rfl,rfl,rfl⟩:=ac;(have ai:len≤m:=by rw [ag];split <;> omega);have ah:0<len→x.spot=none:=by
     intro h0;obtain⟨cs,h1,_⟩:=hx 0 (by omega);rw [hC] at h1;obtain⟨_,ab,hc⟩:=World.cells?_some h1
     match cs,ab with
     | [c0,c1],_ =>
      have e0:=hc 0 (by omega);have:=World.cell?_spot (by simpa using e0);simpa [Addr.add] using this
    have each:∀i,i<len→∃t:Lb,∃b off,x=⟨b,off,none⟩∧w.cell? ⟨b,off+i*2,none⟩=some t.u.val∧w.cell? ⟨b,off+i*2+1,none⟩=some t.v.val∧InI w t.u t.t∧InS w t.v t.l:=by
     intro i hi;obtain⟨cs,g1,g2⟩:=hx i (by omega);rw [hC] at g1;obtain⟨_,ab,hc⟩:=World.cells?_some g1
     match cs,ab with
     | [c0,c1],_ =>
      obtain⟨t,ht,ae,af⟩:=ZjG g2;have aa:x.spot=none:=ah (by omega);obtain⟨b,off,spot⟩:=x;simp only at aa;subst aa;simp only [List.cons.injEq,and_true] at ht;have e0:=hc 0 (by omega);have e1:=hc 1 (by omega);simp only [Addr.add_lit] at e0 e1;refine⟨t,b,off,rfl,?_,?_,ae,af⟩
      · rw [← ht.1];simpa using e0
      · rw [← ht.2];simpa using e1
    obtain⟨f,hf⟩:=@Go.Deep.choose_lt Lb ⟨Lb.zero⟩ len _ each;(have ad:∀j,j<len→((List.range len).map f).getD j Lb.zero=f j:=fun j hj=>by simp [List.getD,hj]);refine⟨(List.range len).map f,⟨by simp,(fun e=>by cases e),hl,by show len≤_;unfold maxLen at hm;omega,fun j hj=>?_,fun t ht=>?_⟩⟩
    · replace hj:j<len:=hj;obtain⟨b,off,rfl,e0,e1,_⟩:=hf j hj;refine⟨b,off,rfl,?_,?_⟩
      · rw [ad j hj];exact e0
      · rw [ad j hj];exact e1
    · obtain⟨j,hj,rfl⟩:=List.mem_map.1 ht;obtain⟨_,_,_,_,_,h1,h2⟩:=hf j (by simpa using hj);exact⟨h1,h2⟩
end
def Zjl (s:Sl) (L:List Lb) (e:Ending):Prop:=e=.returned (.bool false)∨(s.len≤8∧(∀x∈L,Ze4 x.u x.v x.l)∧e=.returned (.bool true))
theorem ZjH (w:World)(s:Sl)(L:List Lb)(h:InL w s L) :
    Calls Tryz.prog 8 #[s.val] w fun e w'=>Zjl s L e∧Below w.heap.size w w':=by
  obtain⟨a,len,cap⟩:=s;have HL:Hid (L.length=len):=h.len;have ai:len≤9223372036854775807:=h.big;have H:=hide h;have ag:=hide (fun (w':World) (hb:Below w.heap.size w w') (x:Lb) (hx:x∈L)=>Zli w' x.u x.v x.l ⟨(h.it x hx).2.len,(h.it x hx).2.nil,(h.it x hx).2.le,(h.it x hx).2.big,fun i hi=>by obtain ⟨b,off,ha,hc⟩:=(h.it x hx).2.cell i hi;exact ⟨b,off,ha,Zaf hc hb⟩,fun y hy=>((h.it x hx).2.bs y hy).keep hb (Nat.le_refl _)⟩ (h.it x hx).1.big);clear h;unfold Sl.val;simp only;go_enter Tryz.func8,Tryz.ntmps8;go_wp2_with fail;go_loopw [3] (fun iv wr=>∃i:Nat,i≤len∧i≤8∧iv=.int .i64 (i:Nat)∧Hid (∀j,j<i→Ze4 (L.getD j Lb.zero).u (L.getD j Lb.zero).v (L.getD j Lb.zero).l)∧Hid (Below w.heap.size w wr)) (fun iv _=>8-(intOf iv).toNat)
  case atStart=>exact ⟨0,Nat.zero_le _,Nat.zero_le _,rfl,(fun _ h=>absurd h (Nat.not_lt_zero _)),Below.refl _ _⟩
  case round =>
   obtain⟨i,hi,am,rfl,aa,hW⟩:=hrel;rcases Nat.lt_or_ge i len with af | al
   · (have i1:(i:Int)<(len:Int):=by omega);rcases Nat.lt_or_ge i 8 with h8 | h8
     · (have i8:(i:Int)<8:=by omega);obtain⟨b,off,ha,c0,c1⟩:=H.out.cell i af;replace ha:a=some ⟨b,off,none⟩:=ha;subst ha;have ab:L.getD i Lb.zero∈L:=Zdt (by rw [HL.out];exact af);have ae:=ag.out wr hW.out _ ab;obtain⟨x,hx⟩:∃x,x=L.getD i Lb.zero:=⟨_,rfl⟩;rw [← hx] at c0 c1 ae;have ah:=hide hx;obtain⟨⟨ua,un,uc⟩,⟨va,vn,vc⟩,xt,xl⟩:=x;have d0:=Zaf c0 hW.out;have d1:=Zaf c1 hW.out;have ad:=hide ae;have ak:=hide (ZaF b off len cap i af);unfold Sl.val at d0 d1;unfold lfV Sl.val at ad;simp only at d0 d1 ad;clear c0 c1 ae hx ab;go_wp2_with fail;refine ad.out.mono ?_;rintro e w1 ⟨hl | ⟨hp,hl⟩,ac⟩
       · subst hl;have HB:=hide (Zad hW.out ac);clear ac aa;go_wp2_with fail;go_ret;exact⟨.inl rfl,HB.out⟩
       · subst hl;have HB:=hide (Zad hW.out ac);have HS:Hid (∀j,j<i+1→Ze4 (L.getD j Lb.zero).u (L.getD j Lb.zero).v (L.getD j Lb.zero).l):=by
          intro j hj;rcases Nat.lt_or_ge j i with h1 | h1
          · exact aa.out j h1
          · (obtain rfl:j=i:=by omega);rw [← ah.out];exact hp
         clear ac aa hp;go_wp2_with fail;go_roundw
         case rel=>exact ⟨i+1,by omega,by omega,by go_num,HS,HB⟩
         case measure=>simp only [intOf];omega
     · (have i8:¬(i:Int)<8:=by omega);(have i9:¬(len:Int)≤8:=by omega);clear aa;go_wp2_with fail;go_ret;exact⟨.inl rfl,hW.out⟩
   · (have i1:¬(i:Int)<(len:Int):=by omega);(have i9:(len:Int)≤8:=by omega);have HA:Hid (∀x∈L,Ze4 x.u x.v x.l):=by
      intro x hx;obtain⟨j,hj,rfl⟩:=List.getElem_of_mem hx;have:=aa.out j (by rw [HL.out] at hj;omega);simpa [List.getD,hj] using this
     (have aj:len≤8:=by omega);clear aa;go_wp2_with fail;go_ret;exact⟨.inr ⟨aj,HA.out,rfl⟩,hW.out⟩
def Zkm (l:List Lf) (e:Ending):Prop:=(MayH l∧e=.returned (.int .i64 0))∨(¬MayH l∧e=.returned (.int .i64 1))
structure Znv (F:Prop):Prop where
  check:∀(w:World) (s:Sl) (L:List Lb),Gl (fun _=>True) w s L→Calls Tryz.prog 14 #[s.val] w fun e w'=>Zkm (lfs L) e∧Below w.heap.size w w'
  find:∀(w:World) (s:Sl) (L:List Lb) (key:Nat),Gl (fun _=>True) w s L→key<18446744073709551616→MayH (lfs L)→Calls Tryz.prog 10 #[s.val,.float .f64 key] w (ZfY w (lfs L) key)
  findN:∀(w:World) (s:Sl) (L:List Lb) (key:Nat),Gl (fun _=>True) w s L→key<18446744073709551616→¬MayH (lfs L)→Calls Tryz.prog 10 #[s.val,.float .f64 key] w fun e w'=>e=.returned (.tuple #[Zcr,btV (0,0),.bool false])∧Below w.heap.size w w'
  get:∀(w:World) (s:Sl) (L:List Lb) (b:Bt),Gl (fun _=>True) w s L→MayH (lfs L)→Calls Tryz.prog 11 #[s.val,btV b] w (ZhA w (lfs L) b)
  getN:∀(w:World) (s:Sl) (L:List Lb) (b:Bt),Gl (fun _=>True) w s L→¬MayH (lfs L)→Calls Tryz.prog 11 #[s.val,btV b] w fun e w'=>e=.returned (.tuple #[Zcr,.bool false])∧Below w.heap.size w w'
  rows:∀(w:World) (s:Sl) (L:List Lb) (lo hi:Nat),Gl (fun _=>True) w s L→lo<18446744073709551616→hi<18446744073709551616→MayH (lfs L)→Calls Tryz.prog 12 #[s.val,.float .f64 lo,.float .f64 hi] w (Zer w (Zek lo hi (allH (lfs L))))
  rowsN:∀(w:World) (s:Sl) (L:List Lb) (lo hi:Nat),Gl (fun _=>True) w s L→lo<18446744073709551616→hi<18446744073709551616→¬MayH (lfs L)→Calls Tryz.prog 12 #[s.val,.float .f64 lo,.float .f64 hi] w (Zer w [])
  put:∀(w:World) (s:Sl) (L:List Lb) (r:Rw) (ra:Option Addr) (rn rc:Nat) (lv:Sl) (live:List Int),Gl (fun _=>True) w s L→Fs w ra rn rc r.xs→r.fits→Gi (fun _=>True) w lv live→MayH (lfs L)→Calls Tryz.prog 20 #[s.val,r.val (.slice ra rn rc),lv.val] w (Zba w (putH (lfs L) r live))
  putN:∀(w:World) (s:Sl) (L:List Lb) (r:Rw) (ra:Option Addr) (rn rc:Nat) (lv:Sl) (live:List Int),Gl (fun _=>True) w s L→Fs w ra rn rc r.xs→r.fits→Gi (fun _=>True) w lv live→¬MayH (lfs L)→Calls Tryz.prog 20 #[s.val,r.val (.slice ra rn rc),lv.val] w (Zba w ⟨[],(0,0),1⟩)
  set:F→∀(w:World) (s:Sl) (L:List Lb) (b:Bt) (r:Rw) (ra:Option Addr) (rn rc:Nat) (lv:Sl) (live:List Int),Gl (fun _=>True) w s L→Fs w ra rn rc r.xs→r.fits→Gi (fun _=>True) w lv live→MayH (lfs L)→Calls Tryz.prog 21 #[s.val,btV b,r.val (.slice ra rn rc),lv.val] w (ZaJ w (layH (lfs L) b r true live))
  setN:F→∀(w:World) (s:Sl) (L:List Lb) (b:Bt) (r:Rw) (ra:Option Addr) (rn rc:Nat) (lv:Sl) (live:List Int),Gl (fun _=>True) w s L→Fs w ra rn rc r.xs→r.fits→Gi (fun _=>True) w lv live→¬MayH (lfs L)→Calls Tryz.prog 21 #[s.val,btV b,r.val (.slice ra rn rc),lv.val] w (ZaJ w ⟨[],1⟩)
  lay:F→∀(w:World) (s:Sl) (L:List Lb) (b:Bt) (r:Rw) (ra:Option Addr) (rn rc:Nat),Gl (fun _=>True) w s L→Fs w ra rn rc r.xs→r.fits→MayH (lfs L)→Calls Tryz.prog 22 #[s.val,btV b,r.val (.slice ra rn rc)] w (ZaJ w (layH (lfs L) b r false []))
  layN:F→∀(w:World) (s:Sl) (L:List Lb) (b:Bt) (r:Rw) (ra:Option Addr) (rn rc:Nat),Gl (fun _=>True) w s L→Fs w ra rn rc r.xs→r.fits→¬MayH (lfs L)→Calls Tryz.prog 22 #[s.val,btV b,r.val (.slice ra rn rc)] w (ZaJ w ⟨[],1⟩)
  drop:∀(w:World) (s:Sl) (L:List Lb) (b:Bt),Gl (fun _=>True) w s L→MayH (lfs L)→Calls Tryz.prog 23 #[s.val,btV b] w (ZaJ w (dropH (lfs L) b))
  dropN:∀(w:World) (s:Sl) (L:List Lb) (b:Bt),Gl (fun _=>True) w s L→¬MayH (lfs L)→Calls Tryz.prog 23 #[s.val,btV b] w (ZaJ w ⟨[],1⟩)
def Zbr (n:Nat):List Lf:=List.replicate n ⟨[0,0,0,0],[]⟩
theorem ZiS (n a:Nat):(lf (Zbr n) a).slots=[]:=by
 unfold lf Zbr;rcases Nat.lt_or_ge a n with h | h
 · simp [List.getD,h]
 · simp [List.getD,h,Lf.zero]
theorem ZdK (n a b:Nat):cellH (Zbr n) a b=[]:=by
 unfold cellH;rw [ZiS];rfl
theorem ZjK:MayL ⟨[0,0,0,0],[]⟩:=by
 refine⟨⟨rfl,?_,?_⟩,⟨by simp,(fun i hi=>absurd hi (Nat.not_lt_zero _)),fun h=>absurd rfl h⟩,by decide⟩
 · intro i hi;(have:i=0∨i=1∨i=2∨i=3:=by omega);rcases this with rfl | rfl | rfl | rfl <;> decide
 · intro i hi k hk h;(have:k=0∨k=1∨k=2∨k=3:=by omega);rcases this with rfl | rfl | rfl | rfl <;> exact absurd rfl h
theorem ZdX (h1:1≤n)(h2:n≤62):MayH (Zbr n):=by
 refine Zd1.2 ⟨fun f hf=>?_,fun a b h=>absurd (ZdK n a b) h,fun a b a' b' r r' h=>?_,?_,?_⟩
 · rw [(List.mem_replicate.1 hf).2];exact ZjK
 · rw [ZdK,Zdq] at h;cases h
 · unfold Zbr;rw [List.length_replicate];exact h1
 · unfold Zbr;rw [List.length_replicate];exact h2
structure EmI (w0 w:World) (s:Sl) (L:List Lb):Prop where
  own:OwnL w s L
  new:∀k,s.blk=some k→w0.heap.size≤k
  below:Below w0.heap.size w0 w
  it:∀x∈L,x.v=Sl.nil∧x.l=[]∧x.t=[0,0,0,0]∧∃g,x.u=⟨some ⟨g,0,none⟩,4,4⟩∧w.heap[g]? = some (Obj.cells (Zax [0,0,0,0]).toArray 3 (0,0))
theorem EmI.lfs (h:EmI w0 w s L):lfs L=Zbr L.length:=by
 unfold Go.Proofs.YtdojdcncncgncaaGreat.lfs Zbr;rw [List.eq_replicate_iff];refine⟨by simp,fun f hf=>?_⟩;obtain⟨x,hx,rfl⟩:=List.mem_map.1 hf;obtain⟨_,h2,h3,_⟩:=h.it x hx;unfold Lb.lf;rw [h2,h3];rfl
theorem EmI.gl (h:EmI w0 w s L)(hm:s.len≤900):Gl (fun _=>True) w s L:=by
 refine h.own.gl hm (fun _ _=>trivial) (fun x hx=>?_);obtain⟨h1,h2,h3,g,h4,h5⟩:=h.it x hx;rw [h1,h2,h3,h4];refine⟨⟨rfl,(fun e=>by cases e),Nat.le_refl _,by show 4≤1000000;decide,fun _ _ _=>trivial,fun i hi=>⟨g,0,rfl,?_⟩⟩,Gb.none w⟩;(have aa:i=0∨i=1∨i=2∨i=3:=by have:i<4:=hi;omega);rcases aa with rfl | rfl | rfl | rfl <;> (rw [cell_of_row _ _ _ _ _ _ h5];rfl)
theorem EmI.start (w:World):EmI w (w.alloc (.cells #[] 67)) ⟨some ⟨w.heap.size,0,none⟩,0,0⟩ []:=by
 refine⟨OwnL.new0 w,fun k hk=>?_,Zaa w _,fun x hx=>by cases hx⟩;have e:some w.heap.size=some k:=hk;cases e;exact Nat.le_refl _
theorem EmI.one (h:EmI w0 w s L)(hl:L.length+1≤900) :
    ∃s' W,(∀ty,(Builtin.append_ #[22,22] ty #[s.val,.slice (some ⟨w.heap.size+1,0,none⟩) 1 1]).run Tryz.prog ((w.alloc (.cells (Zax [0,0,0,0]).toArray 3)).alloc (.cells #[.slice (some ⟨w.heap.size,0,none⟩) 4 4,.slice none 0 0] 67))=.ok s'.val W)∧EmI w0 W s' (L ++ [⟨⟨some ⟨w.heap.size,0,none⟩,4,4⟩,Sl.nil,[0,0,0,0],[]⟩]):=by
  have hA:=Zaa w (.cells (Zax [0,0,0,0]).toArray 3);have hB:=Zaa (w.alloc (.cells (Zax [0,0,0,0]).toArray 3)) (.cells #[.slice (some ⟨w.heap.size,0,none⟩) 4 4,.slice none 0 0] 67);have ac:=Zad hA hB;have hk:OwnL ((w.alloc (.cells (Zax [0,0,0,0]).toArray 3)).alloc (.cells #[.slice (some ⟨w.heap.size,0,none⟩) 4 4,.slice none 0 0] 67)) s L:=Own.frame h.own (fun k hk=>ac.block k (Own.lt h.own hk));have hn:=heap_alloc_new w (.cells (Zax [0,0,0,0]).toArray 3);have ak:((w.alloc (.cells (Zax [0,0,0,0]).toArray 3)).alloc (.cells #[.slice (some ⟨w.heap.size,0,none⟩) 4 4,.slice none 0 0] 67)).heap[w.heap.size]? = some (Obj.cells (Zax [0,0,0,0]).toArray 3 (0,0)):=(hB.block _ (by rw [Zae];omega)).trans hn;have ah:=heap_alloc_new (w.alloc (.cells (Zax [0,0,0,0]).toArray 3)) (.cells #[.slice (some ⟨w.heap.size,0,none⟩) 4 4,.slice none 0 0] 67);rw [Zae] at ah;have ae:Src Tryz.prog 2 22 (.slice (some ⟨w.heap.size+1,0,none⟩) 1 1) 1 (Za7 [⟨⟨some ⟨w.heap.size,0,none⟩,4,4⟩,Sl.nil,[0,0,0,0],[]⟩]) ((w.alloc (.cells (Zax [0,0,0,0]).toArray 3)).alloc (.cells #[.slice (some ⟨w.heap.size,0,none⟩) 4 4,.slice none 0 0] 67)):=by
   refine Src.ofSlice _ Tryz.underlying22 ⟨w.heap.size+1,0,none⟩ 1 1 _ rfl (fun j u hj=>?_) (ZdL _);rw [Addr.add_lit,cell_of_row _ _ _ _ _ _ ah];simpa [Za7,Sl.val,Sl.nil] using hj
  obtain⟨s',W,ad,ho,aj,ag,ai⟩:=ZaA Tryz.underlying22 ZkW rfl (by decide) _ s (Za7 L) hk (ZdL L) _ 1 _ ae (by rw [← OwnL.len h.own];omega) 0;have aa:∀g:Nat,((w.alloc (.cells (Zax [0,0,0,0]).toArray 3)).alloc (.cells #[.slice (some ⟨w.heap.size,0,none⟩) 4 4,.slice none 0 0] 67)).heap[g]? = some (Obj.cells (Zax [0,0,0,0]).toArray 3 (0,0))→W.heap[g]? = some (Obj.cells (Zax [0,0,0,0]).toArray 3 (0,0)):=by
   intro g hg;refine(ag.block g (Array.getElem?_eq_some_iff.1 hg).1 (fun e=>?_)).trans hg;obtain⟨cur,ab⟩:=Own.kind hk e;rw [hg] at ab;simp only [Option.some.injEq,Obj.cells.injEq] at ab;exact absurd ab.2.1 (by decide)
  refine⟨s',W,fun ty=>ad,⟨by unfold OwnL;rw [Zgg];exact ho,fun k e=>?_,?_,fun x hx=>?_⟩⟩
  · rcases ai with e' | ⟨e',_⟩
    · exact h.new k (by rw [← e'];exact e)
    · rw [e'] at e;cases e;have:=h.below.size;rw [Zae,Zae];omega
  · have af:Below w0.heap.size w0 ((w.alloc (.cells (Zax [0,0,0,0]).toArray 3)).alloc (.cells #[.slice (some ⟨w.heap.size,0,none⟩) 4 4,.slice none 0 0] 67)):=Zad h.below ac;exact af.trans (ag.below af.size (fun k e=>h.new k e))
  · rcases List.mem_append.1 hx with hx | hx
    · obtain⟨h1,h2,h3,g,h4,h5⟩:=h.it x hx;exact⟨h1,h2,h3,g,h4,aa g ((ac.block g (Array.getElem?_eq_some_iff.1 h5).1).trans h5)⟩
    · rw [List.mem_singleton.1 hx];exact⟨rfl,rfl,rfl,w.heap.size,rfl,aa _ ak⟩
def Znc (w:World) (n:Nat) (e:Ending) (w':World):Prop:=∃(s:Sl) (L:List Lb),e=.returned (.slice s.a s.len s.cap)∧EmI w w' s L∧L.length=n
theorem Zjw (w:World)(n:Nat)(hn:n≤800) :
    Calls Tryz.prog 28 #[.int .i64 (n:Int)] w (Znc w n):=by
  have HS:=hide (EmI.start w);go_enter Tryz.func28,Tryz.ntmps28;go_wp2_with fail;generalize w.alloc (.cells #[] 67)=W0 at *;go_loopw [3,4] (fun v iv wr=>∃(i:Nat) (s:Sl) (L:List Lb),i≤n∧iv=.int .i64 (i:Nat)∧v=.slice s.a s.len s.cap∧Hid (EmI w wr s L)∧Hid (L.length=i)) (fun _ iv _=>n-(intOf iv).toNat)
  case atStart=>exact ⟨0,_,[],Nat.zero_le _,rfl,rfl,HS,rfl⟩
  case round =>
   obtain⟨i,s,L,hi,rfl,rfl,hE,hL⟩:=hrel;rcases Nat.lt_or_ge i n with ai | ah
   · (have j1:(i:Int)<(n:Int):=by omega);obtain⟨s',W,aa,ac⟩:=hE.out.one (by rw [hL.out];omega);have HR:=hide aa;have ae:=hide ac;(have af:Hid ((L ++ [(⟨⟨some ⟨wr.heap.size,0,none⟩,4,4⟩,Sl.nil,[0,0,0,0],[]⟩:Lb)]).length=i+1):=by show _=_;rw [List.length_append,hL.out];rfl);have ad:=Zln 4 (by decide) wr;have ag:=hide ad;unfold Sl.val at HR;clear aa ac hE ad;go_wp2_with (first | refine Zff _ rfl 46 (.const (.int .i64 4)) (.const (.int .i64 4)) rfl (.int .i64 4) (.int .i64 4) (.slice (some ⟨wr.heap.size,0,none⟩) 4 4) rfl rfl _ ag.out ?_ | (at_builtin;refine Zam _ rfl 22 (.tmp 11) (.tmp 14) rfl (.slice s.a s.len s.cap) (.slice (some ⟨wr.heap.size+1,0,none⟩) 1 1) (.slice s'.a s'.len s'.cap) rfl rfl W HR.out ?_));go_roundw
     case rel=>exact ⟨i+1,s',_,by omega,by go_num,rfl,ae,af⟩
     case measure=>simp only [intOf];omega
   · (have j1:¬(i:Int)<(n:Int):=by omega);(have e0:i=n:=by omega);have ab:Hid (Znc w n (.returned (.slice s.a s.len s.cap)) wr):=⟨s,L,rfl,hE.out,by rw [hL.out,e0]⟩;clear hE hL e0;go_wp2_with fail;go_ret;exact ab.out
theorem Zf9 {r:Rw}(hm:r.may=true):insA [] (hpB r)=⟨[hpB r],0,0⟩:=by
 have h:=ZbC hm;unfold insA;rw [if_neg (by omega)];have e:insS [] (hpB r)=[hpB r]:=rfl;rw [e,if_neg (by simp [need,needS,h])];rfl
theorem Zl1 (h1:1≤n)(h2:n≤62){r:Rw}(hm:r.may=true)(hw:r.wr≠0):Zkq (Zbr n) r [] 0:=by
 have hn:findH (Zbr n) r.key=none:=Zf0.2 (fun a b q hq=>by rw [ZdK,Zdq] at hq;cases hq);(have h0:(insA (lf (Zbr n) 0).slots (hpB r)).e=0:=by rw [ZiS,Zf9 hm]);rcases Zog (ZdX h1 h2) hm hw hn with ⟨hr,_⟩ | ⟨i,p⟩
 · exact absurd h0 (ZbO.1 hr 0 (by unfold Zbr;rw [List.length_replicate];exact h1))
 · obtain⟨_,_,_,h4⟩:=Zb1 p.room;cases i with
   | zero=>exact p
   | succ i=>exact absurd h0 (h4 0 (by omega))
def awR:Rw:=⟨4613937818241073152,false,[],5,0,0⟩
theorem ZhH:awR.may=true:=by decide
theorem Zgc:awR.fits:=⟨by decide,(fun x hx=>by cases hx),by decide,by decide,by decide⟩
theorem Znh:putH (Zbr 2) awR []=⟨[⟨[5,0,0,0],[hpB awR]⟩,⟨[0,0,0,0],[]⟩],(0,0),0⟩:=by
 have p:=Zl1 (n:=2) (by decide) (by decide) ZhH (by decide);rw [p.is];have e:lf (Zbr 2) 0=⟨[0,0,0,0],[]⟩:=rfl;have e2:putL (lf (Zbr 2) 0) awR []=⟨[5,0,0,0],[hpB awR]⟩:=by
  unfold putL;rw [e,Zf9 ZhH];rfl
 rw [e2];rfl
def awL:List Lf:=[⟨[5,0,0,0],[hpB awR]⟩,⟨[0,0,0,0],[]⟩]
theorem Zng:MayH awL:=by
 have h:=Zhl (ZdX (n:=2) (by decide) (by decide)) Zgc [];rw [Znh] at h;exact h
theorem Znf:allH awL=[⟨awR,0,0⟩]:=by
 unfold awL allH rowsH rowsS;simp only [Zgn ZhH Zgc,rowsS,rowsH,List.append_nil]
theorem Znz:findH awL 4613937818241073152=some ⟨awR,0,0⟩:=by
 unfold findH;rw [Znf];rfl
theorem Zn0:Zek 0 4621256167635550208 (allH awL)=[awR]:=by
 rw [Znf];rfl
theorem ZcC {F:Prop}(HS:Znv F)(w:World):Calls Tryz.prog 9 #[] w fun e w'=>e=.returned (.bool true)∧Below w.heap.size w w':=by
 have bv:∀(w:World) (a:Addr) (m:Mode) (x:Nat),(store a (.float .f64 x) m).run Tryz.prog w=stored Tryz.prog w a (.float .f64 x) m:=fun w a m x=>run_store Tryz.prog w a _ m rfl;have HE:=hide (Zjw w 2 (by decide));have HH:=hide HS;clear HS;go_enter Tryz.func9,Tryz.ntmps9;go_wp2_with fail;refine HE.out.mono ?_;rintro e w1 ⟨⟨sa,sn,sc⟩,L,rfl,hE,hL⟩;(have an:lfs L=Zbr 2:=by rw [hE.lfs,hL]);(have bc:sn≤900:=by have:=hE.own.len;rw [hL] at this;simp only at this;omega);have hP:=HH.out.put w1 ⟨sa,sn,sc⟩ L awR none 0 0 Sl.nil [] (hE.gl bc) (Znj w1) Zgc (Gi.none w1) (by rw [an];exact ZdX (by decide) (by decide));rw [an,Znh] at hP;have HP:=hide hP;have bh:=hide hE.below;unfold Rw.val awR Sl.val Sl.nil at HP;simp only at HP;clear hE hL an hP bc HE;go_wp2_with fail;refine HP.out.mono ?_;rintro e w2 ⟨az,⟨ta,tn,tc⟩,M,rfl,hM,ax⟩;have bi:=hide (Zad bh.out az);have hA:=Zaa w2 (.cells #[.int .i64 0,.int .i64 0] 26);have hq:=Zaw w2 (0,0);have bd:=Zcj _ w2.heap.size _ hq (0,0);have bb:=ZaC (w2.alloc (.cells #[.int .i64 0,.int .i64 0] 26)) w2.heap.size (0,0);have am:Below w2.heap.size w2 (setBt (w2.alloc (.cells #[.int .i64 0,.int .i64 0] 26)) w2.heap.size (0,0)):=hA.trans (bb.below hA.size (fun k hk=>by rw [hk];exact Nat.le_refl _));have HQ:=hide (Zaz hq (0,0));generalize setBt (w2.alloc (.cells #[.int .i64 0,.int .i64 0] 26)) w2.heap.size (0,0)=W3 at *;have ak:=hide bd;have bj:=hide (Zad bi.out am);have HM:=hide (hM.below am (Nat.le_refl _));have ab:lfs M=awL:=ax;have hF:=HH.out.find W3 ⟨ta,tn,tc⟩ M 4613937818241073152 HM.out (by decide) (by rw [ab];exact Zng);have HF:=hide hF;have aj:=hide ab;unfold btV at ak;unfold Sl.val at HF;simp only at ak HF;clear az hM ax ab HP hA hq bd bb am hF;unfold btV;go_wp2_with (refine Zac _ rfl rfl 26 (.tmp 2) (.tmp 12) rfl (.pointer (some ⟨w2.heap.size,0,none⟩)) (.agg #[.int .i64 0,.int .i64 0]) rfl rfl W3 ak.out ?_);refine HF.out.mono ?_;intro e w4 ht;obtain⟨bp,x,bf,bq,br⟩:=ht.2.2 ⟨awR,0,0⟩ (by rw [aj.out];exact Znz);subst bq;have bk:=hide (Zad bj.out ht.1);have aw:=hide (HQ.out.keep ht.1);have bn:=hide (HM.out.below ht.1 (Nat.le_refl _));have bu:w2.heap.size<w4.heap.size:=aw.out.lt;have bg:=Zaa w4 (.cells #[.float .f64 0,.bool false,.slice none 0 0,.int .i64 0,.int .i64 0,.int .i64 0] 33);have ar:=Zaa (w4.alloc (.cells #[.float .f64 0,.bool false,.slice none 0 0,.int .i64 0,.int .i64 0,.int .i64 0] 33)) (.cells #[.int .i64 0,.int .i64 0] 26);have av:RwBlk ((w4.alloc (.cells #[.float .f64 0,.bool false,.slice none 0 0,.int .i64 0,.int .i64 0,.int .i64 0] 33)).alloc (.cells #[.int .i64 0,.int .i64 0] 26)) w4.heap.size zeroR (.slice none 0 0):=(Zak w4 zeroR (.slice none 0 0)).keep ar;have au:BtBlk ((w4.alloc (.cells #[.float .f64 0,.bool false,.slice none 0 0,.int .i64 0,.int .i64 0,.int .i64 0] 33)).alloc (.cells #[.int .i64 0,.int .i64 0] 26)) (w4.heap.size+1) (0,0):=by
  have:=Zaw (w4.alloc (.cells #[.float .f64 0,.bool false,.slice none 0 0,.int .i64 0,.int .i64 0,.int .i64 0] 33)) (0,0);rwa [Zae] at this
 (have bt:((w4.alloc (.cells #[.float .f64 0,.bool false,.slice none 0 0,.int .i64 0,.int .i64 0,.int .i64 0] 33)).alloc (.cells #[.int .i64 0,.int .i64 0] 26)).heap.size=w4.heap.size+2:=by rw [Zae,Zae]);have ag:=Zis _ w4.heap.size _ _ av x.r x.a x.n x.c;have ac:=ZbQ ((w4.alloc (.cells #[.float .f64 0,.bool false,.slice none 0 0,.int .i64 0,.int .i64 0,.int .i64 0] 33)).alloc (.cells #[.int .i64 0,.int .i64 0] 26)) w4.heap.size x.r (.slice x.a x.n x.c);have aq:=Zbp av x.r (.slice x.a x.n x.c);have ae:BtBlk (setRw ((w4.alloc (.cells #[.float .f64 0,.bool false,.slice none 0 0,.int .i64 0,.int .i64 0,.int .i64 0] 33)).alloc (.cells #[.int .i64 0,.int .i64 0] 26)) w4.heap.size x.r (.slice x.a x.n x.c)) (w4.heap.size+1) (0,0):=(ac.block _ au.lt (by omega)).trans au;have al:Below w4.heap.size w4 (setRw ((w4.alloc (.cells #[.float .f64 0,.bool false,.slice none 0 0,.int .i64 0,.int .i64 0,.int .i64 0] 33)).alloc (.cells #[.int .i64 0,.int .i64 0] 26)) w4.heap.size x.r (.slice x.a x.n x.c)):=(Zad bg ar).trans (ac.below (by omega) (fun k hk=>by rw [hk];exact Nat.le_refl _));generalize setRw ((w4.alloc (.cells #[.float .f64 0,.bool false,.slice none 0 0,.int .i64 0,.int .i64 0,.int .i64 0] 33)).alloc (.cells #[.int .i64 0,.int .i64 0] 26)) w4.heap.size x.r (.slice x.a x.n x.c)=Wa at *;have ah:=Zcj Wa (w4.heap.size+1) _ ae (0,0);have ad:=ZaC Wa (w4.heap.size+1) (0,0);have ao:=Zaz ae (0,0);have be:RwBlk (setBt Wa (w4.heap.size+1) (0,0)) w4.heap.size x.r (.slice x.a x.n x.c):=(ad.block _ (Array.getElem?_eq_some_iff.1 aq).1 (by omega)).trans aq;have ai:Below w4.heap.size w4 (setBt Wa (w4.heap.size+1) (0,0)):=al.trans (ad.below al.size (fun k hk=>by rw [hk];omega));generalize setBt Wa (w4.heap.size+1) (0,0)=W5 at *;have af:=hide ag;have aa:=hide ah;have ap:=aw.out.keep ai;have bl:=hide (Zad bk.out ai);have bo:=hide (bn.out.below ai (Nat.le_refl _));have hR:=HH.out.rows W5 ⟨ta,tn,tc⟩ M 0 4621256167635550208 bo.out (by decide) (by decide) (by rw [aj.out];exact Zng);rw [aj.out,Zn0] at hR;have HR:=hide hR;unfold Rw.val at af;unfold btV at aa;unfold Sl.val at HR;simp only at HR aa;have x3:=be.c3;rw [bf] at x3;have x3':W5.cell? ⟨w4.heap.size,3,none⟩=some (.int .i64 5):=x3;have q0:=ap.c0;have q1:=ap.c1;have p0:=ao.c0;have p1:=ao.c1;simp only at q0 q1 p0 p1;clear ht bp br bg ar av au bt ag ac aq ae al ah ad ao be ai ap hR x3 bf HF;unfold Rx.val Rw.val;go_wp2_with (first | refine Zac _ rfl rfl 33 (.tmp 4) (.tmp 17) rfl (.pointer (some ⟨w4.heap.size,0,none⟩)) (.agg #[.float .f64 x.r.key,.bool x.r.dead,.slice x.a x.n x.c,.int .i64 x.r.wr,.int .i64 x.r.cell,.int .i64 x.r.no]) rfl rfl Wa af.out ?_ | refine Zac _ rfl rfl 26 (.tmp 5) (.tmp 18) rfl (.pointer (some ⟨w4.heap.size+1,0,none⟩)) (.agg #[.int .i64 0,.int .i64 0]) rfl rfl W5 aa.out ?_);refine HR.out.mono ?_;rintro e w6 ⟨ba,⟨ya,yn,yc⟩,Y,rfl,hY,ay⟩;have bs:yn=1:=by
  have h1:=hY.rz.len;have h2:=congrArg List.length ay;rw [ZlH] at h2;simp only [List.length_cons,List.length_nil] at h1 h2;omega
 subst bs;have bm:=hide (Zad bl.out ba);clear ba hY ay q0 q1 p0 p1 x3';go_wp2_with fail;go_ret;exact⟨rfl,bm.out⟩
def Zgb (l m:List Lf) (e f:Int) (en:Ending):Prop:=∃b:Bool,en=.returned (.bool b)∧(b=true↔e=f∧l=m)
theorem Zbo {D E:Nat→Prop}(w:World)(s s2:Sl)(L M:List Lb)(e f:Int)(h:Gl D w s L)(h2:Gl E w s2 M) :
    Calls Tryz.prog 24 #[s.val,.int .i64 e,s2.val,.int .i64 f] w fun en w'=>Zgb (lfs L) (lfs M) e f en∧Below w.heap.size w w':=by
  have HS:=hide (Zke w s s2 L M h h2);obtain⟨a,len,cap⟩:=s;obtain⟨a2,len2,cap2⟩:=s2;clear h h2;unfold Sl.val at *;simp only at *;by_cases he:e=f
  · subst he;go_enter Tryz.func24,Tryz.ntmps24;go_wp2_with fail;refine HS.out.mono ?_;rintro en w1 ⟨hs,hb⟩;have aa:Hid (Zgb (lfs L) (lfs M) e e en):=by
     rw [hs];exact⟨_,rfl,by rw [ZcR];simp⟩
    have HB:=hide hb;unfold Ze5 at hs;subst hs;clear hb HS;go_wp2_with fail;go_ret;exact⟨aa.out,HB.out⟩
  · have aa:Hid (Zgb (lfs L) (lfs M) e f (.returned (.bool false))):=⟨false,rfl,by simp [he]⟩;clear HS;go_enter Tryz.func24,Tryz.ntmps24;go_wp2_with fail;go_ret;exact⟨aa.out,Below.refl _ _⟩
end Go.Proofs.YtdojdcncncgncaaGreat
