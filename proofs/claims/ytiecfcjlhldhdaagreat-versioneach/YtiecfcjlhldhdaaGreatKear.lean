/-
  Lemmas.
-/
import Derived.Test.YtiecfcjlhldhdaaGreatKeaq
import Derived.Test.YtiecfcjlhldhdaaGreatKeae
namespace Go.Proofs.YtiecfcjlhldhdaaGreat
open Go.RowKit
set_option linter.unusedVariables false
set_option linter.unusedSimpArgs false
set_option maxRecDepth 100000
set_option maxHeartbeats 4000000
variable {l:List Lf}{xs y:List Nat}{r:Rw}{i k n:Nat}{w:World}{v:Value}{s:List (List Nat)}
theorem Zhl (b o:Nat)(v:Value)(hv:∃a len cap,v=.slice a len cap)(w:World)(h:w.cell? ⟨b,o,none⟩=some v):(Instr.loadAt 35 (.pointer (some ⟨b,o,none⟩))).run Tryz.prog w=.ok v w:=by
 obtain⟨a,len,cap,rfl⟩:=hv;exact Zbl b o a len cap w h
theorem ZfL (b o:Nat)(v u:Value)(hv:∃a len cap,v=.slice a len cap)(w:World)(h:w.cell? ⟨b,o,none⟩=some u)(hf:w.frozen? ⟨b,o,none⟩=false):(Instr.storeAt 35 (.pointer (some ⟨b,o,none⟩)) v).run Tryz.prog w=.ok () (w.setCell ⟨b,o,none⟩ v):=by
 obtain⟨a,len,cap,rfl⟩:=hv;simp [go_sem,Instr.storeAt,h,hf]
theorem ZgC (x:Nat)(w:World):(Instr.buildSlice 35 1 #[(0,.float .f64 x)]).run Tryz.prog w=.ok (.slice (some ⟨w.heap.size,0,none⟩) 1 1) (w.alloc (.cells #[.float .f64 x] 32)):=by
 simp [go_sem,Instr.buildSlice]
structure Zos (W0 w w':World) (B p:Nat) (R:Rw) (v:Value) (us:List Value):Prop where
  below:Below B W0 w'
  owns:OwnsV 32 w' B v us
  blk:RwBlk w' p R v
  stay:∀(k:Nat) (C:Array Value) (t:TypeId) (fr:Nat × Nat),w.heap[k]? = some (Obj.cells C t fr)→t≠32→k≠p→w'.heap[k]? = w.heap[k]?
  size:w.heap.size≤w'.heap.size
theorem Zlq {B p:Nat}{W0 w1:World}{R:Rw}{c0:Value}{us:List Value}(hb:Below B W0 w1)(hp:B≤p)(aa:RwBlk w1 p R c0)(ho:OwnsV 32 w1 B v us)
    (ad:∀(k:Nat)(C:Array Value)(t:TypeId)(fr:Nat × Nat),w.heap[k]? = some (Obj.cells C t fr)→t≠32→w1.heap[k]? = w.heap[k]?)(ae:w.heap.size≤w1.heap.size) :
    Zos W0 w (w1.setCell ⟨p,2,none⟩ v) B p R v us:=by
  refine⟨hb.setCell (p:=⟨p,2,none⟩) hp v,⟨ho.1,?_⟩,?_,fun k C t fr hk ht ac=>?_,?_⟩
  · rcases ho.2 with hn | ⟨k,cap,cur,hv,ab,hk,rest⟩
    · exact .inl hn
    · refine .inr ⟨k,cap,cur,hv,ab,(Below.heap_setCell _ ⟨p,2,none⟩ _ k ?_).trans hk,rest⟩;rintro rfl;unfold RwBlk at aa;rw [hk] at aa;simp only [Option.some.injEq,Obj.cells.injEq] at aa;exact absurd aa.2.1 (by decide)
  · have:=heap_setCell_same w1 p 2 _ 39 v aa;unfold RwBlk;rw [this];simp
  · rw [Below.heap_setCell _ ⟨p,2,none⟩ _ k ac];exact ad k C t fr hk ht
  · simpa using ae
theorem OwnsV.form {e:TypeId}{base:Nat}{vs:List Value}(h:OwnsV e w base v vs):∃a len cap,v=.slice a len cap:=by
 rcases h.2 with ⟨hv,_⟩ | ⟨g,cap,cur,hv,_⟩
 · exact⟨_,_,_,hv⟩
 · exact⟨_,_,_,hv⟩
theorem Zbg {fn:Func}{x y:Nat}(hr:fn.results=#[.cell x 39,.tmp y]){W:World}{g:Nat}{c:Value}(h:RwBlk W g r c)(tmps:Array Value)(u:Value)(ht:tmps.getD x undef=.pointer (some ⟨g,0,none⟩))(hx:tmps.getD y undef=u)(hc:∃a len cap,c=.slice a len cap):(results fn tmps).run Tryz.prog W=.ok (.tuple #[r.val c,u]) W:=by
 have c0:=h.c0;have c1:=h.c1;have c2:=h.c2;have c3:=h.c3;have c4:=h.c4;have c5:=h.c5;obtain⟨a,len,cap,rfl⟩:=hc;(have aa:tmps[x]?.getD undef=.pointer (some ⟨g,0,none⟩):=by simpa using ht);(have ab:tmps[y]?.getD undef=u:=by simpa using hx);simp [results,hr,aa,ab,go_sem,c0,c1,c2,c3,c4,c5,Rw.val]
theorem ZbV {fn:Func}{x y:Nat}(aa:fn.results=#[.cell x 39,.tmp y]){W:World}{g:Nat}{r0:Rw}{c0:Value}(h:RwBlk W g r0 c0)(r:Rw)(c u:Value)(hc:∃a len cap,c=.slice a len cap){A:Act}{R:Ending→World→Prop}(t2:A.tmps.getD x undef=.pointer (some ⟨g,0,none⟩))(t3:A.tmps.getD y undef=u)(hd:A.defers=[])
    (hR:R (.returned (.tuple #[r.val c,u])) (setRw W g r c)):bodyPost Tryz.prog fn R Exit.ret A (setRw W g r c):=by
  have hr:=ZaI h r c;generalize setRw W g r c=W' at *;exact bodyPost_ret (Zbg aa hr _ _ t2 t3 hc) hd hR
theorem Zpi (h:k=Fl.key k):Fl.val k=k:=by
 unfold Fl.key at h;split at h
 · rename_i e;rw [e] at h;cases h
 · exact h.symm
theorem ZbU (l m:List It):putB (l ++ m)=putB l ++ putB m:=by simp [putB]
theorem Zkf (r:Rw):r.head.map It.kind=headK:=rfl
theorem Zme (xs:List Nat):(xs.map numI).map It.kind=List.replicate xs.length 4:=by
 rw [List.map_map];apply List.ext_getElem
 · simp
 · intro i h1 h2;simp [numI]
theorem ZgN (hm:r.may=true)(hf:r.fits):decB r.bytes=some r:=by
 have hp:=Rw.may_parts hm;have ab:=List.all_eq_true.1 (Zdf hm);have aa:=Zd8 hf hp.2.1;have hh:∀i∈r.head,i.may=true∧i.x<18446744073709551616:=fun i hi=>⟨ab i (by unfold Rw.items;simp [hi]),(aa i (by unfold Rw.items;simp [hi])).2.2.1⟩;have hc:∀i∈r.xs.map numI,i.may=true∧i.x<18446744073709551616:=fun i hi=>⟨ab i (by unfold Rw.items;exact List.mem_append_right _ hi),(aa i (by unfold Rw.items;exact List.mem_append_right _ hi)).2.2.1⟩;have eb:r.bytes=putB r.head ++ putB (r.xs.map numI):=ZbU _ _;have t1:=ZiI r.head r.bytes (putB (r.xs.map numI)) [] 0 hh eb;rw [Zkf,List.nil_append,Nat.zero_add] at t1;have t2:=ZiI (r.xs.map numI) (r.bytes.drop (putB r.head).length) [] [] 0 hc (by rw [eb];simp);rw [Zme,List.nil_append,Nat.zero_add] at t2;have hv:(r.xs.map numI).map It.valued=r.xs.map numI:=by
  rw [List.map_map];apply List.map_congr_left;intro x hx;have:=hp.2.2.2.1 x hx;simp only [Function.comp,It.valued,numI,← this]
 rw [hv] at t2;have ac:rowOf (r.head.map It.valued) (r.xs.map numI)=r:=by
  obtain⟨key,dead,xs,wr,cell,no⟩:=r;have hk:=Zpi hp.1;simp only at hk;unfold rowOf;have e1:(Rw.head ⟨key,dead,xs,wr,cell,no⟩).map It.valued=[⟨1,if dead then 1 else 0,0,noS⟩,⟨4,0,key,noS⟩,⟨3,wr,0,noS⟩,⟨2,cell,0,noS⟩,⟨3,no,0,noS⟩,⟨1,xs.length,0,noS⟩]:=by
   simp [Rw.head,It.valued,hk,Zg4]
  rw [e1];have e2:(xs.map numI).map It.x=xs:=by
   rw [List.map_map];(have:(It.x ∘ numI)=id:=by funext x;rfl);rw [this,List.map_id]
  simp only [e2];cases dead <;> rfl
 have ae:((r.head.map It.valued).getD 5 itD).n.toNat=r.xs.length:=by
  show (r.xs.length:Int).toNat=_;simp
 have ad:¬1<((r.head.map It.valued).getD 0 itD).n:=by
  show ¬(1:Int)<if r.dead=true then 1 else 0;cases r.dead <;> decide
 unfold decB;rw [t1];simp only;rw [ae,t2];simp only;rw [if_neg,ac];rintro (h | h | h)
 · rw [eb,List.length_append] at h;omega
 · exact ad h
 · rw [ac,hm] at h;cases h
theorem Owns.cameN {base:Nat}(h:Owns w base v xs)(hx:Bytes xs)(hn:xs.length=n)(hm:n≤1000000):∃a cap,v=.slice a n cap∧Came w a n cap xs:=by
 subst hn;obtain⟨a,cap,hv,aa,hn⟩:=h.bs hx;refine⟨a,cap,hv,aa,hn,?_,by omega⟩;rcases h.2 with ⟨hv',h0'⟩ | ⟨g,cp,cur,hv',_,_,ab,_⟩
 · rw [h0'];exact Nat.zero_le _
 · rw [hv] at hv';simp only [Value.slice.injEq] at hv';rw [hv'.2.2];exact ab
theorem Zb3 (b:Nat)(r:Rw)(c:Value)(hc:∃a len cap,c=.slice a len cap)(w:World)(h:RwBlk w b r c):(Instr.loadAt 39 (.pointer (some ⟨b,0,none⟩))).run Tryz.prog w=.ok (r.val c) w:=by
 have c0:=h.c0;have c1:=h.c1;have c2:=h.c2;have c3:=h.c3;have c4:=h.c4;have c5:=h.c5;obtain⟨a,len,cap,rfl⟩:=hc;simp [go_sem,c0,c1,c2,c3,c4,c5,Rw.val]
theorem Ziy (r:Rw)(a:Option Addr)(len cap:Nat)(b:Option Addr)(len' cap':Nat)(w:World)(h:Fs w a len cap r.xs)(h':Fs w b len' cap' r.xs) :
    Calls Tryz.prog 13 #[r.val (.slice a len cap),r.val (.slice b len' cap')] w fun e w'=>e=.returned (.bool true)∧Below w.heap.size w w':=by
  have:=Zb4 r r a len cap b len' cap' w h h';rw [Rw.same_self] at this;exact this
theorem Zdh (r:Rw)(m:Bool)(hm:r.may=m)(a:Option Addr)(len cap:Nat)(w:World)(h:Fs w a len cap r.xs)(hf:r.fits) :
    Calls Tryz.prog 60 #[r.val (.slice a len cap)] w fun e w'=>e=.returned (.bool m)∧Below w.heap.size w w':=by
  have:=Zdm r a len cap w h hf;rw [hm] at this;exact this
theorem ZcX (w:World):Fs w none 0 0 []:=⟨⟨rfl,(fun u hu=>by cases hu),fun j hj=>by omega⟩,(fun x hx=>by cases hx),fun _=>rfl,Nat.le_refl _,by decide⟩
theorem Znv:∀args w,(callFunc 13 args).run Tryz.prog w=.ok (.enter 13 args) w:=Pl.qi Tryz.func13
theorem Zgb:∀args w,(callFunc 60 args).run Tryz.prog w=.ok (.enter 60 args) w:=Pl.qi Tryz.func60
theorem ZgQ:∀args w,(callFunc 102 args).run Tryz.prog w=.ok (.enter 102 args) w:=Pl.qi Tryz.func102
theorem Zfb (xs:List Nat)(l0:List It)(q0:Nat):∀(ks:List Int)(acc:List It)(q:Nat),tks xs ks (l0 ++ acc) (q0+q)=(tks (xs.drop q0) ks acc q).map (fun r=>(l0 ++ r.1,q0+r.2))
 | [],acc,q=>by simp [tks]
 | k :: ks,acc,q=>by
  simp only [tks,List.drop_drop]
  cases tk (xs.drop (q0+q)) k with
  | none=>rfl
  | some r =>
   simp only
   have:=Zfb xs l0 q0 ks (acc ++ [r.1]) (q+r.2)
   rw [← List.append_assoc] at this
   rw [Nat.add_assoc]
   exact this
theorem ZdK {k:Int}(hk:k=1∨k=2∨k=3){i:It}(h:tk xs k=some (i,n)):n=cntN k∧n≤xs.length∧i=⟨k,numB (xs.take n),0,noS⟩∧(numB (xs.take n):Int)≤maxN k:=by
 rw [Zj7 hk] at h;split at h
 · split at h
   · simp only [Option.some.injEq,Prod.mk.injEq] at h;obtain⟨rfl,rfl⟩:=h;exact⟨rfl,by assumption,rfl,by assumption⟩
   · cases h
 · cases h
theorem ZiH {i:It}(h:tk xs 4=some (i,n)):n=8∧8≤xs.length∧i=⟨4,0,numB (xs.take 8),noS⟩∧Fl.val (numB (xs.take 8))=numB (xs.take 8):=by
 simp only [tk,if_true] at h;split at h
 · split at h
   · simp only [Option.some.injEq,Prod.mk.injEq] at h;obtain⟨rfl,rfl⟩:=h;exact⟨rfl,by assumption,rfl,by assumption⟩
   · cases h
 · cases h
theorem ZiV (hx:Bytes xs)(n:Nat)(h:n≤xs.length):bigB (numB (xs.take n)) n=xs.take n:=by
 have hb:Bytes (xs.take n):=fun x hh=>hx x (List.mem_of_mem_take hh);have:=ZcR hb;rw [List.length_take,Nat.min_eq_left h] at this;exact this
theorem Zok (hx:Bytes xs){k:Int}(hk:k=1∨k=2∨k=3∨k=4){i:It}(h:tk xs k=some (i,n)):i.bytes=xs.take n∧n≤xs.length:=by
 by_cases h4:k=4
 · subst h4;obtain⟨rfl,hl,rfl,hv⟩:=ZiH h;refine⟨?_,hl⟩;simp only [It.bytes,show ¬(4:Int)=1 by decide,show ¬(4:Int)=2 by decide,show ¬(4:Int)=3 by decide,if_false,if_true];rw [hv];exact ZiV hx 8 hl
 · (have hk':k=1∨k=2∨k=3:=by omega);obtain⟨hn,hl,rfl,_⟩:=ZdK hk' h;refine⟨?_,hl⟩;have hb:It.bytes ⟨k,(numB (xs.take n):Nat),0,noS⟩=bigB (numB (xs.take n)) (cntN k):=by
    rcases hk' with rfl | rfl | rfl <;> simp [It.bytes,cntN]
   rw [hb,← hn];exact ZiV hx n hl
theorem Zfa (hx:Bytes xs):∀(ks:List Int)(l:List It)(q:Nat)(r:List It × Nat),(∀k∈ks,k=1∨k=2∨k=3∨k=4)→q≤xs.length→putB l=xs.take q→tks xs ks l q=some r→putB r.1=xs.take r.2∧r.2≤xs.length
 | [],l,q,r,_,hq,hl,h=>by
  simp only [tks,Option.some.injEq] at h
  rw [← h]
  exact⟨hl,hq⟩
 | k :: ks,l,q,r,hk,hq,hl,h=>by
  simp only [tks] at h
  split at h
  · cases h
  · rename_i i n hi
    have hb:Bytes (xs.drop q):=fun x hh=>hx x (List.mem_of_mem_drop hh)
    have hc:=Zok hb (hk k (by simp)) hi
    rw [List.length_drop] at hc
    refine Zfa hx ks _ _ r (fun k' h'=>hk k' (by simp [h'])) (by omega) ?_ h
    have e:putB (l ++ [i])=putB l ++ i.bytes:=by simp [putB]
    rw [e,hl,hc.1,List.take_add]
theorem ZlA:∀k∈headK,k=1∨k=2∨k=3∨k=4:=by decide
theorem ZeA (hx:Bytes xs){l:List It}{q:Nat}(h:tks xs headK [] 0=some (l,q)) :
    q=20∧20≤xs.length∧∃(n0 k n2 n3 n4:Nat),l=[⟨1,n0,0,noS⟩,⟨4,0,k,noS⟩,⟨3,n2,0,noS⟩,⟨2,n3,0,noS⟩,⟨3,n4,0,noS⟩,⟨1,(xs.getD 19 0:Nat),0,noS⟩]:=by
  unfold headK at h;simp only [tks,List.nil_append] at h;cases h0:tk (xs.drop 0) 1 with
  | none=>rw [h0] at h;cases h
  | some r0 =>
  obtain⟨i0,m0⟩:=r0;rw [h0] at h;simp only at h;obtain⟨rfl,l0,rfl,_⟩:=ZdK (.inl rfl) h0;cases h1:tk (xs.drop (0+cntN 1)) 4 with
  | none=>rw [h1] at h;cases h
  | some r1 =>
  obtain⟨i1,m1⟩:=r1;rw [h1] at h;simp only at h;obtain⟨rfl,l1,rfl,_⟩:=ZiH h1;cases h2:tk (xs.drop (0+cntN 1+8)) 3 with
  | none=>rw [h2] at h;cases h
  | some r2 =>
  obtain⟨i2,m2⟩:=r2;rw [h2] at h;simp only at h;obtain⟨rfl,l2,rfl,_⟩:=ZdK (.inr (.inr rfl)) h2;cases h3:tk (xs.drop (0+cntN 1+8+cntN 3)) 2 with
  | none=>rw [h3] at h;cases h
  | some r3 =>
  obtain⟨i3,m3⟩:=r3;rw [h3] at h;simp only at h;obtain⟨rfl,l3,rfl,_⟩:=ZdK (.inr (.inl rfl)) h3;cases h4:tk (xs.drop (0+cntN 1+8+cntN 3+cntN 2)) 3 with
  | none=>rw [h4] at h;cases h
  | some r4 =>
  obtain⟨i4,m4⟩:=r4;rw [h4] at h;simp only at h;obtain⟨rfl,l4,rfl,_⟩:=ZdK (.inr (.inr rfl)) h4;cases h5:tk (xs.drop (0+cntN 1+8+cntN 3+cntN 2+cntN 3)) 1 with
  | none=>rw [h5] at h;cases h
  | some r5 =>
  obtain⟨i5,m5⟩:=r5;rw [h5] at h;simp only at h;obtain⟨rfl,l5,rfl,_⟩:=ZdK (.inl rfl) h5;simp only [Option.some.injEq,Prod.mk.injEq] at h;obtain⟨rfl,rfl⟩:=h;have c1:cntN 1=1:=rfl;have c2:cntN 2=2:=rfl;have c3:cntN 3=4:=rfl;rw [List.length_drop,c1,c2,c3] at l5;have e19:numB ((xs.drop (0+cntN 1+8+cntN 3+cntN 2+cntN 3)).take (cntN 1))=xs.getD 19 0:=by
   (have aa:19<xs.length:=by omega);have e1:xs.drop 19=xs[19] :: xs.drop 20:=List.drop_eq_getElem_cons aa;(have e2:xs.getD 19 0=xs[19]:=by simp [List.getD,aa]);show numB ((xs.drop 19).take 1)=xs.getD 19 0;rw [e1,e2];show numB [xs[19]]=xs[19];simp [numB]
  refine⟨by rw [c1,c2,c3],by omega,numB (List.take (cntN 1) (List.drop 0 xs)),numB (List.take 8 (List.drop (0+cntN 1) xs)),numB (List.take (cntN 3) (List.drop (0+cntN 1+8) xs)),numB (List.take (cntN 2) (List.drop (0+cntN 1+8+cntN 3) xs)),numB (List.take (cntN 3) (List.drop (0+cntN 1+8+cntN 3+cntN 2) xs)),?_⟩;rw [e19];rfl
theorem ZgE :∀(n:Nat)(l:List It)(q:Nat)(r:List It × Nat),(∃ys:List Nat,l=ys.map numI)→tks xs (List.replicate n 4) l q=some r→∃ys:List Nat,r.1=ys.map numI
 | 0,l,q,r,hl,h=>by
  simp only [List.replicate_zero,tks,Option.some.injEq] at h
  rw [← h]
  exact hl
 | n+1,l,q,r,⟨ys,hl⟩,h=>by
  simp only [List.replicate_succ,tks] at h
  split at h
  · cases h
  · rename_i i m hi
    obtain⟨_,_,rfl,_⟩:=ZiH hi
    refine ZgE n _ _ r ⟨ys ++ [numB (((xs.drop q)).take 8)],?_⟩ h
    rw [hl]
    simp [numI]
theorem ZqA (ys:List Nat):(ys.map numI).map It.x=ys:=by
 rw [List.map_map];(have:(It.x ∘ numI)=id:=by funext x;rfl);rw [this,List.map_id]
theorem ZgO (hx:Bytes xs)(h:decB xs=some r):r.bytes=xs:=by
 unfold decB at h;split at h
 · cases h
 · rename_i l q h1;split at h
   · cases h
   · rename_i m q2 h2;split at h
     · cases h
     · rename_i hno;simp only [Option.some.injEq] at h;subst h;have ag:¬q+q2<xs.length:=fun h=>hno (.inl h);have af:¬1<(l.getD 0 itD).n:=fun h=>hno (.inr (.inl h));obtain⟨rfl,ae,n0,k,n2,n3,n4,rfl⟩:=ZeA hx h1;have aa:=Zfa hx headK [] 0 _ ZlA (Nat.zero_le _) (by simp [putB]) h1;have hb:Bytes (xs.drop 20):=fun x hh=>hx x (List.mem_of_mem_drop hh);have ab:=Zfa hb _ [] 0 _ (fun k hk=>by rw [(List.mem_replicate.1 hk).2];decide) (Nat.zero_le _) (by simp [putB]) h2;obtain⟨ys,ad⟩:=ZgE _ [] 0 _ ⟨[],rfl⟩ h2;have ac:m.length=xs.getD 19 0:=by
        have:=Zcm _ _ _ _ _ h2;simpa using this
       simp only at ad aa ab;subst ad;simp only [List.getD_cons_zero] at af;have hd:(if ((n0:Int) != 0)=true then (1:Int) else 0)=(n0:Int):=by
        (have:n0=0∨n0=1:=by omega);rcases this with rfl | rfl <;> rfl
       have e:(rowOf [⟨1,n0,0,noS⟩,⟨4,0,k,noS⟩,⟨3,n2,0,noS⟩,⟨2,n3,0,noS⟩,⟨3,n4,0,noS⟩,⟨1,(xs.getD 19 0:Nat),0,noS⟩] (ys.map numI)).items=[⟨1,n0,0,noS⟩,⟨4,0,k,noS⟩,⟨3,n2,0,noS⟩,⟨2,n3,0,noS⟩,⟨3,n4,0,noS⟩,⟨1,(xs.getD 19 0:Nat),0,noS⟩] ++ ys.map numI:=by
        rw [List.length_map] at ac;unfold Rw.items Rw.head rowOf;simp only [ZqA,ac];show [_,_,_,_,_,_] ++ _=_;congr 1;congr 1;show (⟨1,if ((n0:Int) != 0)=true then 1 else 0,0,noS⟩:It)=⟨1,n0,0,noS⟩;rw [hd]
       unfold Rw.bytes;rw [e,ZbU,aa.1,ab.1,← List.take_add,List.take_of_length_le (by omega)]
def Zdn (l m:List It):Rw:=⟨(l.getD 1 itD).x,(l.getD 0 itD).n == 1,m.map It.x,(l.getD 2 itD).n,(l.getD 3 itD).n,(l.getD 4 itD).n⟩
theorem Znr (hx:Bytes xs)(h:tks xs (headK ++ List.replicate (xs.getD 19 0) 4) [] 0=none):decB xs=none:=by
 rw [Zc1] at h;unfold decB;cases h1:tks xs headK [] 0 with
 | none=>rfl
 | some r =>
  obtain⟨l,q⟩:=r;rw [h1] at h;obtain⟨rfl,_,n0,k,n2,n3,n4,rfl⟩:=ZeA hx h1;simp only at h ⊢;have hs:=Zfb xs [⟨1,n0,0,noS⟩,⟨4,0,k,noS⟩,⟨3,n2,0,noS⟩,⟨2,n3,0,noS⟩,⟨3,n4,0,noS⟩,⟨1,(xs.getD 19 0:Nat),0,noS⟩] 20 (List.replicate (xs.getD 19 0) 4) [] 0;rw [List.append_nil,Nat.add_zero,h] at hs;have h2:tks (xs.drop 20) (List.replicate (xs.getD 19 0) 4) [] 0=none:=by
   cases h2:tks (xs.drop 20) (List.replicate (xs.getD 19 0) 4) [] 0 with
   | none=>rfl
   | some r=>rw [h2] at hs;cases hs
  have e:(((([⟨1,n0,0,noS⟩,⟨4,0,k,noS⟩,⟨3,n2,0,noS⟩,⟨2,n3,0,noS⟩,⟨3,n4,0,noS⟩,⟨1,(xs.getD 19 0:Nat),0,noS⟩]:List It).getD 5 itD).n).toNat)=xs.getD 19 0:=by
   show (((xs.getD 19 0:Nat):Int)).toNat=_;simp
  rw [e,h2]
theorem Zns {xs:List Nat}(hx:Bytes xs){L:List It}{Q:Nat}(h:tks xs (headK ++ List.replicate (xs.getD 19 0) 4) [] 0=some (L,Q)) :
    L.length=6+xs.getD 19 0∧∃m,L.drop 6=m ∧
     ((Zdn L m).may=true→(Zdn L m).fits→(Zdn L m).bytes=xs→decB xs=some (Zdn L m)) ∧
     (¬((Zdn L m).may=true∧(Zdn L m).bytes=xs)→decB xs=none):=by
 have ab:=Zcm _ _ _ _ _ h;refine⟨by simp [headK] at ab ⊢;omega,_,rfl,fun hm hf hb=>?_,fun af=>?_⟩
 · have:=ZgN hm hf;rw [hb] at this;exact this
 · cases hd:decB xs with
   | none=>rfl
   | some r =>
    exfalso;apply af;have aa:=ZgO hx hd;rw [Zc1] at h;unfold decB at hd;cases h1:tks xs headK [] 0 with
    | none=>rw [h1] at h;cases h
    | some r1 =>
     obtain⟨l,q⟩:=r1;rw [h1] at h hd;obtain⟨rfl,_,n0,k,n2,n3,n4,rfl⟩:=ZeA hx h1;simp only at h hd;have hs:=Zfb xs [⟨1,n0,0,noS⟩,⟨4,0,k,noS⟩,⟨3,n2,0,noS⟩,⟨2,n3,0,noS⟩,⟨3,n4,0,noS⟩,⟨1,(xs.getD 19 0:Nat),0,noS⟩] 20 (List.replicate (xs.getD 19 0) 4) [] 0;rw [List.append_nil,Nat.add_zero,h] at hs;have e:(((([⟨1,n0,0,noS⟩,⟨4,0,k,noS⟩,⟨3,n2,0,noS⟩,⟨2,n3,0,noS⟩,⟨3,n4,0,noS⟩,⟨1,(xs.getD 19 0:Nat),0,noS⟩]:List It).getD 5 itD).n).toNat)=xs.getD 19 0:=by
      show (((xs.getD 19 0:Nat):Int)).toNat=_;simp
     rw [e] at hd;cases h2:tks (xs.drop 20) (List.replicate (xs.getD 19 0) 4) [] 0 with
     | none=>rw [h2] at hs;cases hs
     | some s =>
      obtain⟨m,q2⟩:=s;rw [h2] at hs hd;simp only [Option.map_some,Option.some.injEq,Prod.mk.injEq] at hs;obtain⟨rfl,rfl⟩:=hs;simp only at hd;split at hd
      · cases hd
      · rename_i hc;simp only [Option.some.injEq] at hd;have ag:¬(1:Int)<(n0:Int):=fun h=>hc (.inr (.inl h));have ac:(rowOf [⟨1,n0,0,noS⟩,⟨4,0,k,noS⟩,⟨3,n2,0,noS⟩,⟨2,n3,0,noS⟩,⟨3,n4,0,noS⟩,⟨1,(xs.getD 19 0:Nat),0,noS⟩] m).may=true:=by
         cases hm:(rowOf [⟨1,n0,0,noS⟩,⟨4,0,k,noS⟩,⟨3,n2,0,noS⟩,⟨2,n3,0,noS⟩,⟨3,n4,0,noS⟩,⟨1,(xs.getD 19 0:Nat),0,noS⟩] m).may
         · exact absurd (.inr (.inr hm)) hc
         · rfl
        have ad:Zdn ([⟨1,n0,0,noS⟩,⟨4,0,k,noS⟩,⟨3,n2,0,noS⟩,⟨2,n3,0,noS⟩,⟨3,n4,0,noS⟩,⟨1,(xs.getD 19 0:Nat),0,noS⟩] ++ m) ((([⟨1,n0,0,noS⟩,⟨4,0,k,noS⟩,⟨3,n2,0,noS⟩,⟨2,n3,0,noS⟩,⟨3,n4,0,noS⟩,⟨1,(xs.getD 19 0:Nat),0,noS⟩]:List It) ++ m).drop 6)=rowOf [⟨1,n0,0,noS⟩,⟨4,0,k,noS⟩,⟨3,n2,0,noS⟩,⟨2,n3,0,noS⟩,⟨3,n4,0,noS⟩,⟨1,(xs.getD 19 0:Nat),0,noS⟩] m:=by
         have ae:((n0:Int) == 1)=((n0:Int) != 0):=by
          (have:n0=0∨n0=1:=by omega);rcases this with rfl | rfl <;> rfl
         show (⟨k,(n0:Int) == 1,m.map It.x,n2,n3,n4⟩:Rw)=⟨k,(n0:Int) != 0,m.map It.x,n2,n3,n4⟩;rw [ae]
        rw [ad];exact⟨ac,by rw [hd];exact aa⟩
theorem Zi0 {L:List It}(hl:∀i∈L,i.fits)(h6:6≤L.length):(Zdn L (L.drop 6)).fits:=by
 have g:∀j,j<6→(L.getD j itD).fits:=fun j hj=>by
  (have hj':j<L.length:=by omega);have:=hl _ (List.getElem_mem hj');simpa [List.getD,hj'] using this
 refine⟨(g 1 (by omega)).2.2.1,?_,(g 2 (by omega)).2.1,(g 3 (by omega)).2.1,(g 4 (by omega)).2.1⟩;intro x hx;obtain⟨i,hi,rfl⟩:=List.mem_map.1 hx;exact(hl i (List.mem_of_mem_drop hi)).2.2.1
theorem Zem (h:decB xs=some r):r.may=true:=by
 unfold decB at h;split at h
 · cases h
 · split at h
   · cases h
   · split at h
     · cases h
     · rename_i hn;simp only [Option.some.injEq] at h;subst h;cases hm:(rowOf _ _).may
       · exact absurd (.inr (.inr hm)) hn
       · rfl
theorem Zlt (hx:Bytes xs)(hl:xs.length≤1000000)(h:decB xs=some r):r.fits:=by
 unfold decB at h;split at h
 · cases h
 · rename_i l q h1;split at h
   · cases h
   · rename_i m q2 h2;split at h
     · cases h
     · simp only [Option.some.injEq] at h;subst h;have hb:Bytes (xs.drop q):=fun x hh=>hx x (List.mem_of_mem_drop hh);refine ZfC ?_ ?_ ?_
       · exact Zex hx hl _ _ _ _ ZcY (Nat.zero_le _) (fun i hi=>by cases hi) h1
       · have:=Zcm _ _ _ _ _ h1;simpa [headK] using this
       · exact Zex hb (by rw [List.length_drop];omega) _ _ _ _ (fun k hk=>by rw [(List.mem_replicate.1 hk).2];decide) (Nat.zero_le _) (fun i hi=>by cases hi) h2
def hpB (r:Rw):List Nat:=r.bytes ++ List.replicate (52-r.bytes.length) 0
theorem ZeB (h:r.may=true):(hpB r).length=52:=by
 have h1:=ZbZ r;have h2:=(Rw.may_parts h).2.1;unfold hpB;rw [List.length_append,List.length_replicate];omega
theorem ZbA (h:r.may=true):Bytes (hpB r):=by
 intro x hx;rcases List.mem_append.1 hx with hx | hx
 · exact ZbL h x hx
 · rw [(List.mem_replicate.1 hx).2];decide
theorem Zn5 (r:Rw):(hpB r).take (20+8*r.xs.length)=r.bytes:=by
 unfold hpB;rw [← ZbZ r,List.take_left]
theorem Zni (h:r.may=true):r.bytes.getD 19 0=r.xs.length:=by
 have h4:=(Rw.may_parts h).2.1;have e:r.bytes=(putB [⟨1,if r.dead then 1 else 0,0,noS⟩,⟨4,0,r.key,noS⟩,⟨3,r.wr,0,noS⟩,⟨2,r.cell,0,noS⟩,⟨3,r.no,0,noS⟩]) ++ (putB [⟨1,r.xs.length,0,noS⟩] ++ putB (r.xs.map numI)):=by
  unfold Rw.bytes Rw.items Rw.head;rw [← ZbU,← ZbU];rfl
 have hl:(putB [⟨1,if r.dead then 1 else 0,0,noS⟩,⟨4,0,r.key,noS⟩,⟨3,r.wr,0,noS⟩,⟨2,r.cell,0,noS⟩,⟨3,r.no,0,noS⟩]).length=19:=by
  simp [putB,It.bytes,Zak]
 have hx:putB [⟨1,r.xs.length,0,noS⟩]=[r.xs.length]:=by
  (have:r.xs.length=0∨r.xs.length=1∨r.xs.length=2∨r.xs.length=3∨r.xs.length=4:=by omega);rcases this with e | e | e | e | e <;> rw [e] <;> rfl
 rw [e,hx];simp [List.getD,hl]
theorem ZlD (h:r.may=true):(hpB r).getD 19 0=r.xs.length:=by
 have hl:=ZbZ r;rw [← Zni h];unfold hpB;simp only [List.getD];rw [List.getElem?_append_left (by omega)]
def decH (xs:List Nat):Option Rw:=
  if xs.length=52∧xs.getD 19 0≤4 then
    match decB (xs.take (20+8*xs.getD 19 0)) with
    | some r=>if hpB r=xs then some r else none
    | none=>none
  else none
theorem Ze6 (h:decH xs=some r):xs.length=52∧xs.getD 19 0≤4∧decB (xs.take (20+8*xs.getD 19 0))=some r∧hpB r=xs:=by
 unfold decH at h;split at h
 · rename_i hc;split at h
   · rename_i q hq;split at h
     · rename_i he;simp only [Option.some.injEq] at h;subst h;exact⟨hc.1,hc.2,hq,he⟩
     · cases h
   · cases h
 · cases h
theorem Znq (h:decH xs=some r):r.may=true:=Zem (Ze6 h).2.2.1
theorem Zlu (hx:Bytes xs)(h:decH xs=some r):r.fits:=by
 obtain⟨h1,_,h3,_⟩:=Ze6 h;exact Zlt (fun x hh=>hx x (List.mem_of_mem_take hh)) (by rw [List.length_take];omega) h3
theorem Zjb (hm:r.may=true)(hf:r.fits):decH (hpB r)=some r:=by
 have h4:=(Rw.may_parts hm).2.1;unfold decH;rw [if_pos ⟨ZeB hm,by rw [ZlD hm];exact h4⟩,ZlD hm,Zn5,ZgN hm hf];exact if_pos rfl
theorem ZcT:decH []=none:=by unfold decH;rw [if_neg (by decide)]
theorem Zjc (h:decH xs=some r):xs ≠ []:=by
 intro e;rw [e,ZcT] at h;cases h
structure Hr where
  r:Rw
  i:Nat
  k:Nat
def rowsS (i:Nat):List (List Nat)→Nat→List Hr
  | [],_=>[]
  | x :: s,k=>(match decH x with | some r=>[⟨r,i,k⟩] | none=>[]) ++ rowsS i s (k+1)
def rowsH:List Lf→Nat→List Hr
  | [],_=>[]
  | f :: l,i=>rowsS i f.slots 0 ++ rowsH l (i+1)
def allH (l:List Lf):List Hr:=rowsH l 0
theorem Zec (i:Nat):∀(s t:List (List Nat))(k:Nat),rowsS i (s ++ t) k=rowsS i s k ++ rowsS i t (k+s.length)
 | [],t,k=>by simp [rowsS]
 | x :: s,t,k=>by
  have:=Zec i s t (k+1)
  simp only [List.cons_append,rowsS,this,List.append_assoc,List.length_cons]
  rw [show k+1+s.length=k+(s.length+1) by omega]
theorem Zeb:∀(l m:List Lf)(i:Nat),rowsH (l ++ m) i=rowsH l i ++ rowsH m (i+l.length)
 | [],m,i=>by simp [rowsH]
 | f :: l,m,i=>by
  have:=Zeb l m (i+1)
  simp only [List.cons_append,rowsH,this,List.append_assoc,List.length_cons]
  rw [show i+1+l.length=i+(l.length+1) by omega]
theorem ZfF (h:k<s.length):rowsS i (s.take (k+1)) 0=rowsS i (s.take k) 0 ++ (match decH (sl s k) with | some r=>[⟨r,i,k⟩] | none=>[]):=by
 (have e:s.take (k+1)=s.take k ++ [sl s k]:=by rw [List.take_succ_eq_append_getElem h,Zee h]);rw [e,Zec,List.length_take,Nat.min_eq_left (Nat.le_of_lt h),Nat.zero_add];simp [rowsS]
def lf (l:List Lf) (i:Nat):Lf:=l.getD i Lf.zero
theorem ZdX (h:i<l.length):lf l i=l[i]:=by simp [lf,List.getD,h]
theorem Zc6 (h:i<l.length):lf l i∈l:=by rw [ZdX h];exact List.getElem_mem h
theorem ZfD (h:i<l.length):rowsH (l.take (i+1)) 0=rowsH (l.take i) 0 ++ rowsS i (lf l i).slots 0:=by
 (have e:l.take (i+1)=l.take i ++ [lf l i]:=by rw [List.take_succ_eq_append_getElem h,ZdX h]);rw [e,Zeb,List.length_take,Nat.min_eq_left (Nat.le_of_lt h),Nat.zero_add];simp [rowsH]
theorem Zdk {h:Hr}:∀{s:List (List Nat)}{k:Nat},h∈rowsS i s k↔h.i=i∧k≤h.k∧h.k<k+s.length∧decH (sl s (h.k-k))=some h.r
 | [],k=>by
  constructor
  · intro hh;cases hh
  · rintro ⟨_,h1,h2,_⟩
    simp only [List.length_nil,Nat.add_zero] at h2
    omega
 | x :: s,k=>by
  have hx:(h∈(match decH x with | some r=>[(⟨r,i,k⟩:Hr)] | none=>[]))↔h.i=i∧h.k=k∧decH x=some h.r:=by
   cases hd:decH x with
   | none=>simp
   | some r =>
    simp only [List.mem_singleton,Option.some.injEq];constructor
    · rintro rfl;exact ⟨rfl,rfl,rfl⟩
    · obtain⟨r',i',k'⟩:=h;rintro ⟨rfl,rfl,rfl⟩;rfl
  rw [rowsS,List.mem_append,hx,Zdk (s:=s) (k:=k+1)];constructor
  · rintro (⟨h1,h2,h3⟩ | ⟨h1,h2,h3,h4⟩)
    · refine⟨h1,by omega,by rw [List.length_cons];omega,?_⟩;rw [h2,Nat.sub_self];exact h3
    · refine⟨h1,by omega,by rw [List.length_cons];omega,?_⟩;rw [show h.k-k=(h.k-(k+1))+1 by omega];exact h4
  · rintro ⟨h1,h2,h3,h4⟩;rw [List.length_cons] at h3;rcases Nat.lt_or_ge k h.k with hk | hk
    · refine .inr ⟨h1,hk,by omega,?_⟩;rw [show h.k-k=(h.k-(k+1))+1 by omega] at h4;exact h4
    · (have e:h.k=k:=by omega);refine .inl ⟨h1,e,?_⟩;rw [e,Nat.sub_self] at h4;exact h4
theorem ZeJ {h:Hr}:∀{l:List Lf}{i:Nat},h∈rowsH l i↔i≤h.i∧h.i<i+l.length∧h.k<(lf l (h.i-i)).slots.length∧decH (sl (lf l (h.i-i)).slots h.k)=some h.r
 | [],i=>by
  constructor
  · intro hh;cases hh
  · rintro ⟨h1,h2,_⟩
    simp only [List.length_nil,Nat.add_zero] at h2
    omega
 | f :: l,i=>by
  rw [rowsH,List.mem_append,Zdk,ZeJ (l:=l) (i:=i+1)]
  simp only [Nat.zero_le,true_and,Nat.zero_add,Nat.sub_zero]
  constructor
  · rintro (⟨h1,h2,h3⟩ | ⟨h1,h2,h3,h4⟩)
    · rw [h1,Nat.sub_self]
      exact⟨Nat.le_refl _,by rw [List.length_cons];omega,h2,h3⟩
    · refine⟨by omega,by rw [List.length_cons];omega,?_⟩
      rw [show h.i-i=(h.i-(i+1))+1 by omega]
      exact⟨h3,h4⟩
  · rintro ⟨h1,h2,h3,h4⟩
    rw [List.length_cons] at h2
    rcases Nat.lt_or_ge i h.i with hk | hk
    · rw [show h.i-i=(h.i-(i+1))+1 by omega] at h3 h4
      exact .inr ⟨hk,by omega,h3,h4⟩
    · have e:h.i=i:=by omega
      rw [e,Nat.sub_self] at h3 h4
      exact .inl ⟨e,h3,h4⟩
theorem Zgq {h:Hr}:h∈allH l↔h.i<l.length∧h.k<(lf l h.i).slots.length∧decH (sl (lf l h.i).slots h.k)=some h.r:=by
 unfold allH;rw [ZeJ];simp
def fillS:List (List Nat)→Nat
  | []=>0
  | x :: s=>(if 0<x.length then 1 else 0)+fillS s
def fillH:List Lf→Nat
  | []=>0
  | f :: l=>fillS f.slots+fillH l
theorem ZdT:∀s t:List (List Nat),fillS (s ++ t)=fillS s+fillS t
 | [],t=>by simp [fillS]
 | x :: s,t=>by simp only [List.cons_append,fillS,ZdT s t];omega
theorem ZdS:∀s t:List Lf,fillH (s ++ t)=fillH s+fillH t
 | [],t=>by simp [fillH]
 | x :: s,t=>by simp only [List.cons_append,fillH,ZdS s t];omega
theorem ZjY (h:k<s.length):fillS (s.take (k+1))=fillS (s.take k)+(if 0<(sl s k).length then 1 else 0):=by
 rw [List.take_succ_eq_append_getElem h,← Zee h,ZdT];simp [fillS]
theorem ZjX (h:i<l.length):fillH (l.take (i+1))=fillH (l.take i)+fillS (lf l i).slots:=by
 rw [List.take_succ_eq_append_getElem h,← ZdX h,ZdS];simp [fillH]
theorem ZfE (i:Nat):∀(s:List (List Nat))(k:Nat),(rowsS i s k).length≤fillS s∧((rowsS i s k).length=fillS s↔∀x∈s,x ≠ []→decH x≠none)
 | [],k=>by simp [rowsS,fillS]
 | x :: s,k=>by
  have ih:=ZfE i s (k+1)
  simp only [rowsS,fillS,List.length_append]
  cases hd:decH x with
  | none =>
   by_cases hx:x=[]
   · subst hx
     refine⟨by simpa using ih.1,?_⟩
     simp only [List.length_nil,Nat.zero_add,Nat.lt_irrefl,if_false,List.mem_cons,forall_eq_or_imp,ne_eq,not_true_eq_false,false_imp_iff,true_and]
     exact ih.2
   · have hp:0<x.length:=List.length_pos_iff.2 hx
     simp only [if_pos hp,List.length_nil,List.mem_cons,forall_eq_or_imp,ne_eq,hd,not_true_eq_false]
     refine⟨by omega,?_⟩
     constructor
     · intro e;omega
     · rintro ⟨h1,_⟩
       exact absurd (h1 hx) (by simp)
  | some r =>
   have hp:0<x.length:=List.length_pos_iff.2 (Zjc hd)
   simp only [if_pos hp,List.length_cons,List.length_nil,List.mem_cons,forall_eq_or_imp,ne_eq,hd,reduceCtorEq,not_false_eq_true,implies_true,true_and]
   refine⟨by omega,?_⟩
   rw [← ih.2]
   constructor <;> intro e <;> omega
theorem ZdG:∀(l:List Lf)(i:Nat),(rowsH l i).length≤fillH l∧((rowsH l i).length=fillH l↔∀f∈l,∀x∈f.slots,x ≠ []→decH x≠none)
 | [],i=>by simp [rowsH,fillH]
 | f :: l,i=>by
  have ih:=ZdG l (i+1)
  have is:=ZfE i f.slots 0
  simp only [rowsH,fillH,List.length_append,List.mem_cons,forall_eq_or_imp]
  refine⟨by omega,?_⟩
  rw [← ih.2,← is.2]
  constructor
  · intro e;constructor <;> omega
  · rintro ⟨h1,h2⟩;omega
def ZbE (l:List Hr):Prop:=l.Pairwise fun a b=>a.r.key≠b.r.key
structure MayH (l:List Lf):Prop where
  leaf:∀f∈l,MayL f
  rows:∀f∈l,∀x∈f.slots,x ≠ []→decH x≠none
  keys:ZbE (allH l)
  pos:1≤l.length
  few:l.length≤62
theorem Zf2 :(fillH l=(allH l).length)↔∀f∈l,∀x∈f.slots,x ≠ []→decH x≠none:=by
 rw [← (ZdG l 0).2];exact eq_comm
theorem Zcp {h:Hr}(hh:h∈allH l):Fl.key h.r.key=h.r.key∧h.r.may=true:=by
 have hm:=Znq (Zgq.1 hh).2.2;exact⟨(Rw.may_parts hm).1.symm,hm⟩
def cellH (l:List Lf) (a b:Nat):List Nat:=sl (lf l a).slots b
theorem ZiY {a b:Nat}(h:cellH l a b ≠ []):a<l.length∧b<(lf l a).slots.length:=by
 have hb:=ZqM h;refine⟨?_,hb⟩;rcases Nat.lt_or_ge a l.length with h1 | h1
 · exact h1
 · (have e:lf l a=Lf.zero:=by simp [lf,List.getD,List.getElem?_eq_none h1]);rw [e] at hb;exact absurd hb (Nat.not_lt_zero _)
theorem Zby {h:Hr}:h∈allH l↔decH (cellH l h.i h.k)=some h.r:=by
 rw [Zgq];constructor
 · exact fun hh=>hh.2.2
 · intro hh;have:=ZiY (Zjc hh);exact⟨this.1,this.2,hh⟩
def Zou (a b:Hr):Prop:=a.i<b.i∨a.i=b.i∧a.k<b.k
theorem ZeS (i:Nat):∀(s:List (List Nat))(k:Nat),(rowsS i s k).Pairwise Zou
 | [],_=>List.Pairwise.nil
 | x :: s,k=>by
  unfold rowsS
  refine List.pairwise_append.2 ⟨?_,ZeS i s (k+1),fun a ha b hb=>?_⟩
  · cases decH x with
    | none=>exact List.Pairwise.nil
    | some r=>exact List.pairwise_singleton _ _
  · have hb':=Zdk.1 hb
    cases hd:decH x with
    | none=>rw [hd] at ha;cases ha
    | some r =>
     rw [hd] at ha
     simp only [List.mem_singleton] at ha
     subst ha
     exact .inr ⟨hb'.1.symm,by show k<b.k;omega⟩
theorem ZeR:∀(l:List Lf)(i:Nat),(rowsH l i).Pairwise Zou
 | [],_=>List.Pairwise.nil
 | f :: l,i=>by
  unfold rowsH
  refine List.pairwise_append.2 ⟨ZeS i _ _,ZeR l (i+1),fun a ha b hb=>?_⟩
  have ha':=Zdk.1 ha
  have hb':=ZeJ.1 hb
  exact .inl (by omega)
theorem Zk5 :ZbE (allH l)↔∀g∈allH l,∀h∈allH l,g.r.key=h.r.key→g.i=h.i∧g.k=h.k:=by
 have ho:=ZeR l 0;unfold ZbE;constructor
 · intro hk g hg h hh e;obtain⟨x,hx,rfl⟩:=List.getElem_of_mem hg;obtain⟨y,hy,rfl⟩:=List.getElem_of_mem hh;rw [List.pairwise_iff_getElem] at hk;rcases Nat.lt_trichotomy x y with h1 | h1 | h1
   · exact absurd e (hk x y hx hy h1)
   · subst h1;exact ⟨rfl,rfl⟩
   · exact absurd e.symm (hk y x hy hx h1)
 · intro hk;unfold allH at hk ⊢;refine List.Pairwise.imp_of_mem ?_ ho;intro a b ha hb aa e;have:=hk a ha b hb e;rcases aa with h1 | ⟨_,h1⟩ <;> omega
def KeyC (l:List Lf):Prop:=∀a b a' b' r r',decH (cellH l a b)=some r→decH (cellH l a' b')=some r'→r.key=r'.key→a=a'∧b=b'
theorem ZeL :ZbE (allH l)↔KeyC l:=by
 rw [Zk5];constructor
 · intro h a b a' b' r r' h1 h2 e;exact h ⟨r,a,b⟩ (Zby.2 h1) ⟨r',a',b'⟩ (Zby.2 h2) e
 · intro h g hg k hk e;exact h _ _ _ _ _ _ (Zby.1 hg) (Zby.1 hk) e
def RowC (l:List Lf):Prop:=∀a b,cellH l a b ≠ []→decH (cellH l a b)≠none
theorem Zh5 :(∀f∈l,∀x∈f.slots,x ≠ []→decH x≠none)↔RowC l:=by
 constructor
 · intro h a b hn;obtain⟨h1,h2⟩:=ZiY hn;refine h _ (Zc6 h1) _ ?_ hn;show sl (lf l a).slots b∈_;rw [Zee h2];exact List.getElem_mem h2
 · intro h f hf x hx hn;obtain⟨a,ha,rfl⟩:=List.getElem_of_mem hf;obtain⟨b,hb,rfl⟩:=List.getElem_of_mem hx;have e:cellH l a b=l[a].slots[b]:=by
    unfold cellH;rw [ZdX ha,Zee hb]
   rw [← e] at hn ⊢;exact h a b hn
theorem Zce :MayH l↔(∀f∈l,MayL f)∧RowC l∧KeyC l∧1≤l.length∧l.length≤62:=
 ⟨fun h=>⟨h.leaf,Zh5.1 h.rows,ZeL.1 h.keys,h.pos,h.few⟩,fun h=>⟨h.1,Zh5.2 h.2.1,ZeL.2 h.2.2.1,h.2.2.2.1,h.2.2.2.2⟩⟩
def findH (l:List Lf) (k:Nat):Option Hr:=(allH l).find? fun h=>Fl.key h.r.key == Fl.key k
theorem ZjZ {h:Hr}(hf:findH l k=some h):decH (cellH l h.i h.k)=some h.r∧h.r.key=Fl.key k:=by
 have h1:=List.mem_of_find?_eq_some hf;have h2:=List.find?_some hf;simp only [beq_iff_eq] at h2;exact⟨Zby.1 h1,by rw [← (Zcp h1).1];exact h2⟩
theorem Zd6 :findH l k=none↔∀a b r,decH (cellH l a b)=some r→r.key≠Fl.key k:=by
 unfold findH;rw [List.find?_eq_none];constructor
 · intro h a b r hd e;have hm:(⟨r,a,b⟩:Hr)∈allH l:=Zby.2 hd;have:=h _ hm;simp only [beq_iff_eq] at this;refine this ?_;rw [(Zcp hm).1];exact e
 · intro h x hx;simp only [beq_iff_eq];rw [(Zcp hx).1];exact h _ _ _ (Zby.1 hx)
theorem Zjk (hk:KeyC l){h:Hr}(hd:decH (cellH l h.i h.k)=some h.r)(he:h.r.key=Fl.key k):findH l k=some h:=by
 cases hf:findH l k with
 | none=>exact absurd he (Zd6.1 hf _ _ _ hd)
 | some g =>
  obtain⟨h1,h2⟩:=ZjZ hf;obtain⟨e1,e2⟩:=hk _ _ _ _ _ _ h1 hd (by rw [h2,he]);obtain⟨gr,gi,gk⟩:=g;obtain⟨hr,hi,hk'⟩:=h;simp only at e1 e2 h1 hd;subst e1 e2;rw [h1] at hd;cases hd;rfl
structure Zld (l l':List Lf) (i k:Nat) (y:List Nat):Prop where
  len:l'.length=l.length
  here:cellH l' i k=y
  other:∀a b,¬(a=i∧b=k)→cellH l' a b=cellH l a b
theorem ZeE (h:i<l.length)(f:Lf):lf (l.set i f) i=f:=by simp [lf,List.getD,h]
theorem Zhi {j:Nat}(h:i≠j)(f:Lf):lf (l.set i f) j=lf l j:=by simp [lf,List.getD,List.getElem?_set_ne h]
theorem Zld.of (hi:i<l.length){f:Lf}(h:∀b,b≠k→sl f.slots b=sl (lf l i).slots b):Zld l (l.set i f) i k (sl f.slots k):=by
 refine⟨by simp,by unfold cellH;rw [ZeE hi],fun a b aa=>?_⟩;unfold cellH;by_cases ha:i=a
 · subst ha;rw [ZeE hi];exact h b (fun e=>aa ⟨rfl,e⟩)
 · rw [Zhi ha]
theorem ZqN (hk:k<s.length)(y:List Nat)(b:Nat):sl (s.set k y) b=if b=k then y else sl s b:=by
 by_cases e:b=k
 · subst e;rw [if_pos rfl,ZcL hk]
 · rw [if_neg e,Zck (fun h=>e h.symm)]
theorem ZoA (s:List (List Nat))(y:List Nat)(b:Nat):sl (insS s y) b=if b=atE s then y else sl s b:=by
 unfold insS;rcases Ze1 s with ⟨h1,_⟩ | ⟨h1,_,_⟩
 · rw [if_pos h1,h1];by_cases e:b=s.length
   · rw [if_pos e,e,ZcM]
   · rw [if_neg e];rcases Nat.lt_or_ge b s.length with h | h
     · exact ZeW h y
     · rw [ZmG (by rw [List.length_append];simp only [List.length_cons,List.length_nil];omega),ZmG h]
 · rw [if_neg (by omega),ZqN h1]
theorem MayH.turn {l':List Lf}(h:MayH l)(t:Zld l l' i k y)(hl:∀f∈l',MayL f)(hy:y=[]∨∃r,decH y=some r∧∀a b r',¬(a=i∧b=k)→decH (cellH l a b)=some r'→r'.key≠r.key):MayH l':=by
 obtain⟨_,h2,h3,h4,h5⟩:=Zce.1 h;refine Zce.2 ⟨hl,fun a b hn=>?_,fun a b a' b' r r' hr hr' e=>?_,by rw [t.len];exact h4,by rw [t.len];exact h5⟩
 · by_cases ab:a=i∧b=k
   · rw [ab.1,ab.2,t.here] at hn ⊢;rcases hy with rfl | ⟨r,hr,_⟩
     · exact absurd rfl hn
     · rw [hr];simp
   · rw [t.other a b ab] at hn ⊢;exact h2 a b hn
 · by_cases ab:a=i∧b=k
   · by_cases aa:a'=i∧b'=k
     · omega
     · rw [ab.1,ab.2,t.here] at hr;rw [t.other _ _ aa] at hr';rcases hy with rfl | ⟨q,hq,ho⟩
       · rw [ZcT] at hr;cases hr
       · rw [hq] at hr;cases hr;exact absurd e.symm (ho _ _ _ aa hr')
   · rw [t.other _ _ ab] at hr;by_cases aa:a'=i∧b'=k
     · rw [aa.1,aa.2,t.here] at hr';rcases hy with rfl | ⟨q,hq,ho⟩
       · rw [ZcT] at hr';cases hr'
       · rw [hq] at hr';cases hr';exact absurd e (ho _ _ _ ab hr)
     · rw [t.other _ _ aa] at hr';exact h3 _ _ _ _ _ _ hr hr' e
def ZbY (y:List Nat):List Lf→Nat→Option Nat
  | [],_=>none
  | f :: l,i=>if (insA f.slots y).e=0 then some i else ZbY y l (i+1)
theorem ZbF :∀{l:List Lf}{i j:Nat},ZbY y l i=some j→i≤j∧j<i+l.length∧(insA (lf l (j-i)).slots y).e=0∧∀m,m<j-i→(insA (lf l m).slots y).e≠0
 | [],_,_,h=>by cases h
 | f :: l,i,j,h=>by
  unfold ZbY at h
  split at h
  · rename_i he
    cases h
    rw [Nat.sub_self]
    exact⟨Nat.le_refl _,by rw [List.length_cons];omega,he,fun m hm=>absurd hm (Nat.not_lt_zero _)⟩
  · rename_i he
    obtain⟨h1,h2,h3,h4⟩:=ZbF h
    rw [show j-i=(j-(i+1))+1 by omega]
    refine⟨by omega,by rw [List.length_cons];omega,h3,fun m hm=>?_⟩
    match m with
    | 0=>exact he
    | m+1=>exact h4 m (by omega)
theorem Zcz :∀{l:List Lf}{i:Nat},ZbY y l i=none↔∀m,m<l.length→(insA (lf l m).slots y).e≠0
 | [],_=>by simp [ZbY]
 | f :: l,i=>by
  unfold ZbY
  split
  · rename_i he
    constructor
    · intro h;cases h
    · intro h
      exact absurd he (h 0 (by simp))
  · rename_i he
    rw [Zcz]
    constructor
    · intro h m hm
      match m with
      | 0=>exact he
      | m+1=>exact h m (by simpa using hm)
    · intro h m hm
      exact h (m+1) (by simpa using hm)
theorem Zoc {j:Nat}(hj:j<l.length)(h0:(insA (lf l j).slots y).e=0)(hn:∀m,m<j→(insA (lf l m).slots y).e≠0):ZbY y l 0=some j:=by
 cases h:ZbY y l 0 with
 | none=>exact absurd h0 (Zcz.1 h j hj)
 | some q =>
  obtain⟨_,h2,h3,h4⟩:=ZbF h;simp only [Nat.sub_zero] at h3 h4;rcases Nat.lt_trichotomy q j with e | e | e
  · exact absurd h3 (hn q e)
  · rw [e]
  · exact absurd h0 (h4 j e)
structure Ph where
  l:List Lf
  b:Int × Int
  e:Int
def putL (f:Lf) (r:Rw) (live:List Int):Lf:=⟨(joinI f.itl r.wr live).t,(insA f.slots (hpB r)).s⟩
def putH (l:List Lf) (r:Rw) (live:List Int):Ph:=
  if r.may=false∨r.wr=0∨(findH l r.key).isSome=true then ⟨l,(0,0),1⟩
  else match ZbY (hpB r) l 0 with
    | none=>⟨l,(0,0),7⟩
    | some i=>if (joinI (lf l i).itl r.wr live).e=0 then ⟨l.set i (putL (lf l i) r live),((i:Int),(insA (lf l i).slots (hpB r)).at_),0⟩ else ⟨l,(0,0),(joinI (lf l i).itl r.wr live).e⟩
end Go.Proofs.YtiecfcjlhldhdaaGreat
