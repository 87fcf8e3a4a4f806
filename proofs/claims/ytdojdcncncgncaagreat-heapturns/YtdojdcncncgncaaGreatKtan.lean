/-
  Lemmas.
-/
import Derived.Test.YtdojdcncncgncaaGreatKtam
import Derived.Test.YtdojdcncncgncaaGreatKtaj
namespace Go.Proofs.YtdojdcncncgncaaGreat
open Go.RowKit
set_option linter.unusedVariables false
set_option maxRecDepth 100000
set_option maxHeartbeats 4000000
variable {w w':World}{xs:List Nat}{i p B n:Nat}{s:List (List Nat)}{t:List Int}{v u:Value}{r:Rw}
theorem Zhj (b o:Nat)(v:Value)(hv:∃a len cap,v=.slice a len cap)(w:World)(h:w.cell? ⟨b,o,none⟩=some v):(Instr.loadAt 29 (.pointer (some ⟨b,o,none⟩))).run Tryz.prog w=.ok v w:=by
 obtain⟨a,len,cap,rfl⟩:=hv;exact Zby b o a len cap w h
theorem ZfV (b o:Nat)(v u:Value)(hv:∃a len cap,v=.slice a len cap)(w:World)(h:w.cell? ⟨b,o,none⟩=some u)(hf:w.frozen? ⟨b,o,none⟩=false):(Instr.storeAt 29 (.pointer (some ⟨b,o,none⟩)) v).run Tryz.prog w=.ok () (w.setCell ⟨b,o,none⟩ v):=by
 obtain⟨a,len,cap,rfl⟩:=hv;simp [go_sem,Instr.storeAt,h,hf]
theorem ZgG (x:Nat)(w:World):(Instr.buildSlice 29 1 #[(0,.float .f64 x)]).run Tryz.prog w=.ok (.slice (some ⟨w.heap.size,0,none⟩) 1 1) (w.alloc (.cells #[.float .f64 x] 23)):=by
 simp [go_sem,Instr.buildSlice]
structure Znb (W0 w w':World) (B p:Nat) (R:Rw) (v:Value) (us:List Value):Prop where
  below:Below B W0 w'
  owns:OwnsV 23 w' B v us
  blk:RwBlk w' p R v
  stay:∀(k:Nat) (C:Array Value) (t:TypeId) (fr:Nat × Nat),w.heap[k]? = some (Obj.cells C t fr)→t≠23→k≠p→w'.heap[k]? = w.heap[k]?
  size:w.heap.size≤w'.heap.size
theorem Zk0 {W0 w1:World}{R:Rw}{c0:Value}{us:List Value}(hb:Below B W0 w1)(hp:B≤p)(aa:RwBlk w1 p R c0)(ho:OwnsV 23 w1 B v us)
    (ad:∀(k:Nat)(C:Array Value)(t:TypeId)(fr:Nat × Nat),w.heap[k]? = some (Obj.cells C t fr)→t≠23→w1.heap[k]? = w.heap[k]?)(ae:w.heap.size≤w1.heap.size) :
    Znb W0 w (w1.setCell ⟨p,2,none⟩ v) B p R v us:=by
  refine⟨hb.setCell (p:=⟨p,2,none⟩) hp v,⟨ho.1,?_⟩,?_,fun k C t fr hk ht ac=>?_,?_⟩
  · rcases ho.2 with hn | ⟨k,cap,cur,hv,ab,hk,rest⟩
    · exact .inl hn
    · refine .inr ⟨k,cap,cur,hv,ab,(Below.heap_setCell _ ⟨p,2,none⟩ _ k ?_).trans hk,rest⟩;rintro rfl;unfold RwBlk at aa;rw [hk] at aa;simp only [Option.some.injEq,Obj.cells.injEq] at aa;exact absurd aa.2.1 (by decide)
  · have:=heap_setCell_same w1 p 2 _ 33 v aa;unfold RwBlk;rw [this];simp
  · rw [Below.heap_setCell _ ⟨p,2,none⟩ _ k ac];exact ad k C t fr hk ht
  · simpa using ae
theorem OwnsV.form {e:TypeId}{base:Nat}{vs:List Value}(h:OwnsV e w base v vs):∃a len cap,v=.slice a len cap:=by
 rcases h.2 with ⟨hv,_⟩ | ⟨g,cap,cur,hv,_⟩
 · exact⟨_,_,_,hv⟩
 · exact⟨_,_,_,hv⟩
theorem ZaI {fn:Func}{x y:Nat}(hr:fn.results=#[.cell x 33,.tmp y]){W:World}{g:Nat}{c:Value}(h:RwBlk W g r c)(tmps:Array Value)(u:Value)(ht:tmps.getD x undef=.pointer (some ⟨g,0,none⟩))(hx:tmps.getD y undef=u)(hc:∃a len cap,c=.slice a len cap):(results fn tmps).run Tryz.prog W=.ok (.tuple #[r.val c,u]) W:=by
 have c0:=h.c0;have c1:=h.c1;have c2:=h.c2;have c3:=h.c3;have c4:=h.c4;have c5:=h.c5;obtain⟨a,len,cap,rfl⟩:=hc;(have aa:tmps[x]?.getD undef=.pointer (some ⟨g,0,none⟩):=by simpa using ht);(have ab:tmps[y]?.getD undef=u:=by simpa using hx);simp [results,hr,aa,ab,go_sem,c0,c1,c2,c3,c4,c5,Rw.val]
theorem Zch {fn:Func}{x y:Nat}(aa:fn.results=#[.cell x 33,.tmp y]){W:World}{g:Nat}{r0:Rw}{c0:Value}(h:RwBlk W g r0 c0)(r:Rw)(c u:Value)(hc:∃a len cap,c=.slice a len cap){A:Act}{R:Ending→World→Prop}(t2:A.tmps.getD x undef=.pointer (some ⟨g,0,none⟩))(t3:A.tmps.getD y undef=u)(hd:A.defers=[])
    (hR:R (.returned (.tuple #[r.val c,u])) (setRw W g r c)):bodyPost Tryz.prog fn R Exit.ret A (setRw W g r c):=by
  have hr:=Zbp h r c;generalize setRw W g r c=W' at *;exact bodyPost_ret (ZaI aa hr _ _ t2 t3 hc) hd hR
theorem ZnQ {k:Nat}(h:k=Fl.key k):Fl.val k=k:=by
 unfold Fl.key at h;split at h
 · rename_i e;rw [e] at h;cases h
 · exact h.symm
theorem Zcg (l m:List It):putB (l ++ m)=putB l ++ putB m:=by simp [putB]
theorem Zj6 (r:Rw):r.head.map It.kind=headK:=rfl
theorem Zlu (xs:List Nat):(xs.map numI).map It.kind=List.replicate xs.length 4:=by
 rw [List.map_map];apply List.ext_getElem
 · simp
 · intro i h1 h2;simp [numI]
theorem ZgM (hm:r.may=true)(hf:r.fits):decB r.bytes=some r:=by
 have hp:=Rw.may_parts hm;have ab:=List.all_eq_true.1 (Zc0 hm);have aa:=ZcN hf hp.2.1;have hh:∀i∈r.head,i.may=true∧i.x<18446744073709551616:=fun i hi=>⟨ab i (by unfold Rw.items;simp [hi]),(aa i (by unfold Rw.items;simp [hi])).2.2.1⟩;have hc:∀i∈r.xs.map numI,i.may=true∧i.x<18446744073709551616:=fun i hi=>⟨ab i (by unfold Rw.items;exact List.mem_append_right _ hi),(aa i (by unfold Rw.items;exact List.mem_append_right _ hi)).2.2.1⟩;have eb:r.bytes=putB r.head ++ putB (r.xs.map numI):=Zcg _ _;have t1:=Ziw r.head r.bytes (putB (r.xs.map numI)) [] 0 hh eb;rw [Zj6,List.nil_append,Nat.zero_add] at t1;have t2:=Ziw (r.xs.map numI) (r.bytes.drop (putB r.head).length) [] [] 0 hc (by rw [eb];simp);rw [Zlu,List.nil_append,Nat.zero_add] at t2;have hv:(r.xs.map numI).map It.valued=r.xs.map numI:=by
  rw [List.map_map];apply List.map_congr_left;intro x hx;have:=hp.2.2.2.1 x hx;simp only [Function.comp,It.valued,numI,← this]
 rw [hv] at t2;have ac:rowOf (r.head.map It.valued) (r.xs.map numI)=r:=by
  obtain⟨key,dead,xs,wr,cell,no⟩:=r;have hk:=ZnQ hp.1;simp only at hk;unfold rowOf;have e1:(Rw.head ⟨key,dead,xs,wr,cell,no⟩).map It.valued=[⟨1,if dead then 1 else 0,0,noS⟩,⟨4,0,key,noS⟩,⟨3,wr,0,noS⟩,⟨2,cell,0,noS⟩,⟨3,no,0,noS⟩,⟨1,xs.length,0,noS⟩]:=by
   simp [Rw.head,It.valued,hk,Zg9]
  rw [e1];have e2:(xs.map numI).map It.x=xs:=by
   rw [List.map_map];(have:(It.x ∘ numI)=id:=by funext x;rfl);rw [this,List.map_id]
  simp only [e2];cases dead <;> rfl
 have ae:((r.head.map It.valued).getD 5 itD).n.toNat=r.xs.length:=by
  show (r.xs.length:Int).toNat=_;simp
 have ad:¬1<((r.head.map It.valued).getD 0 itD).n:=by
  show ¬(1:Int)<if r.dead=true then 1 else 0;cases r.dead <;> decide
 unfold decB;rw [t1];simp only;rw [ae,t2];simp only;rw [if_neg,ac];rintro (h | h | h)
 · rw [eb,List.length_append] at h;omega
 · exact ad h
 · rw [ac,hm] at h;cases h
theorem Owns.cameN {base:Nat}(h:Owns w base v xs)(hx:Bytes xs)(hn:xs.length=n)(hm:n≤1000000):∃a cap,v=.slice a n cap∧Came w a n cap xs:=by
 subst hn;obtain⟨a,cap,hv,aa,hn⟩:=h.bs hx;refine⟨a,cap,hv,aa,hn,?_,by omega⟩;rcases h.2 with ⟨hv',h0'⟩ | ⟨g,cp,cur,hv',_,_,ab,_⟩
 · rw [h0'];exact Nat.zero_le _
 · rw [hv] at hv';simp only [Value.slice.injEq] at hv';rw [hv'.2.2];exact ab
theorem Zbq (b:Nat)(r:Rw)(c:Value)(hc:∃a len cap,c=.slice a len cap)(w:World)(h:RwBlk w b r c):(Instr.loadAt 33 (.pointer (some ⟨b,0,none⟩))).run Tryz.prog w=.ok (r.val c) w:=by
 have c0:=h.c0;have c1:=h.c1;have c2:=h.c2;have c3:=h.c3;have c4:=h.c4;have c5:=h.c5;obtain⟨a,len,cap,rfl⟩:=hc;simp [go_sem,c0,c1,c2,c3,c4,c5,Rw.val]
theorem Zc3 (r:Rw)(m:Bool)(hm:r.may=m)(a:Option Addr)(len cap:Nat)(w:World)(h:Fs w a len cap r.xs)(hf:r.fits) :
    Calls Tryz.prog 29 #[r.val (.slice a len cap)] w fun e w'=>e=.returned (.bool m)∧Below w.heap.size w w':=by
  have:=Zg5 r a len cap w h hf;rw [hm] at this;exact this
theorem Znj (w:World):Fs w none 0 0 []:=⟨⟨rfl,(fun u hu=>by cases hu),fun j hj=>by omega⟩,(fun x hx=>by cases hx),fun _=>rfl,Nat.le_refl _,by decide⟩
theorem Zgo:∀args w,(callFunc 29 args).run Tryz.prog w=.ok (.enter 29 args) w:=Pl.qj Tryz.func29
theorem ZgQ:∀args w,(callFunc 108 args).run Tryz.prog w=.ok (.enter 108 args) w:=Pl.qj Tryz.func108
theorem Zfc (xs:List Nat)(l0:List It)(q0:Nat):∀(ks:List Int)(acc:List It)(q:Nat),tks xs ks (l0 ++ acc) (q0+q)=(tks (xs.drop q0) ks acc q).map (fun r=>(l0 ++ r.1,q0+r.2))
 | [],acc,q=>by simp [tks]
 | k :: ks,acc,q=>by
  simp only [tks,List.drop_drop]
  cases tk (xs.drop (q0+q)) k with
  | none=>rfl
  | some r =>
   simp only
   have:=Zfc xs l0 q0 ks (acc ++ [r.1]) (q+r.2)
   rw [← List.append_assoc] at this
   rw [Nat.add_assoc]
   exact this
theorem Zeb {k:Int}(hk:k=1∨k=2∨k=3){i:It}(h:tk xs k=some (i,n)):n=cntN k∧n≤xs.length∧i=⟨k,numB (xs.take n),0,noS⟩∧(numB (xs.take n):Int)≤maxN k:=by
 rw [Zji hk] at h;split at h
 · split at h
   · simp only [Option.some.injEq,Prod.mk.injEq] at h;obtain⟨rfl,rfl⟩:=h;exact⟨rfl,by assumption,rfl,by assumption⟩
   · cases h
 · cases h
theorem Ziv {i:It}(h:tk xs 4=some (i,n)):n=8∧8≤xs.length∧i=⟨4,0,numB (xs.take 8),noS⟩∧Fl.val (numB (xs.take 8))=numB (xs.take 8):=by
 simp only [tk,if_true] at h;split at h
 · split at h
   · simp only [Option.some.injEq,Prod.mk.injEq] at h;obtain⟨rfl,rfl⟩:=h;exact⟨rfl,by assumption,rfl,by assumption⟩
   · cases h
 · cases h
theorem Zi4 (hx:Bytes xs)(n:Nat)(h:n≤xs.length):bigB (numB (xs.take n)) n=xs.take n:=by
 have hb:Bytes (xs.take n):=fun x hh=>hx x (List.mem_of_mem_take hh);have:=Zdm hb;rw [List.length_take,Nat.min_eq_left h] at this;exact this
theorem ZmV (hx:Bytes xs){k:Int}(hk:k=1∨k=2∨k=3∨k=4){i:It}(h:tk xs k=some (i,n)):i.bytes=xs.take n∧n≤xs.length:=by
 by_cases h4:k=4
 · subst h4;obtain⟨rfl,hl,rfl,hv⟩:=Ziv h;refine⟨?_,hl⟩;simp only [It.bytes,show ¬(4:Int)=1 by decide,show ¬(4:Int)=2 by decide,show ¬(4:Int)=3 by decide,if_false,if_true];rw [hv];exact Zi4 hx 8 hl
 · (have hk':k=1∨k=2∨k=3:=by omega);obtain⟨hn,hl,rfl,_⟩:=Zeb hk' h;refine⟨?_,hl⟩;have hb:It.bytes ⟨k,(numB (xs.take n):Nat),0,noS⟩=bigB (numB (xs.take n)) (cntN k):=by
    rcases hk' with rfl | rfl | rfl <;> simp [It.bytes,cntN]
   rw [hb,← hn];exact Zi4 hx n hl
theorem Zfb (hx:Bytes xs):∀(ks:List Int)(l:List It)(q:Nat)(r:List It × Nat),(∀k∈ks,k=1∨k=2∨k=3∨k=4)→q≤xs.length→putB l=xs.take q→tks xs ks l q=some r→putB r.1=xs.take r.2∧r.2≤xs.length
 | [],l,q,r,_,hq,hl,h=>by
  simp only [tks,Option.some.injEq] at h
  rw [← h]
  exact⟨hl,hq⟩
 | k :: ks,l,q,r,hk,hq,hl,h=>by
  simp only [tks] at h
  split at h
  · cases h
  · rename_i i n hi
    have hb:Bytes (xs.drop q):=fun x hh=>hx x (List.mem_of_mem_drop hh)
    have hc:=ZmV hb (hk k (by simp)) hi
    rw [List.length_drop] at hc
    refine Zfb hx ks _ _ r (fun k' h'=>hk k' (by simp [h'])) (by omega) ?_ h
    have e:putB (l ++ [i])=putB l ++ i.bytes:=by simp [putB]
    rw [e,hl,hc.1,List.take_add]
theorem ZkK:∀k∈headK,k=1∨k=2∨k=3∨k=4:=by decide
theorem ZeF (hx:Bytes xs){l:List It}{q:Nat}(h:tks xs headK [] 0=some (l,q)) :
    q=20∧20≤xs.length∧∃(n0 k n2 n3 n4:Nat),l=[⟨1,n0,0,noS⟩,⟨4,0,k,noS⟩,⟨3,n2,0,noS⟩,⟨2,n3,0,noS⟩,⟨3,n4,0,noS⟩,⟨1,(xs.getD 19 0:Nat),0,noS⟩]:=by
  unfold headK at h;simp only [tks,List.nil_append] at h;cases h0:tk (xs.drop 0) 1 with
  | none=>rw [h0] at h;cases h
  | some r0 =>
  obtain⟨i0,m0⟩:=r0;rw [h0] at h;simp only at h;obtain⟨rfl,l0,rfl,_⟩:=Zeb (.inl rfl) h0;cases h1:tk (xs.drop (0+cntN 1)) 4 with
  | none=>rw [h1] at h;cases h
  | some r1 =>
  obtain⟨i1,m1⟩:=r1;rw [h1] at h;simp only at h;obtain⟨rfl,l1,rfl,_⟩:=Ziv h1;cases h2:tk (xs.drop (0+cntN 1+8)) 3 with
  | none=>rw [h2] at h;cases h
  | some r2 =>
  obtain⟨i2,m2⟩:=r2;rw [h2] at h;simp only at h;obtain⟨rfl,l2,rfl,_⟩:=Zeb (.inr (.inr rfl)) h2;cases h3:tk (xs.drop (0+cntN 1+8+cntN 3)) 2 with
  | none=>rw [h3] at h;cases h
  | some r3 =>
  obtain⟨i3,m3⟩:=r3;rw [h3] at h;simp only at h;obtain⟨rfl,l3,rfl,_⟩:=Zeb (.inr (.inl rfl)) h3;cases h4:tk (xs.drop (0+cntN 1+8+cntN 3+cntN 2)) 3 with
  | none=>rw [h4] at h;cases h
  | some r4 =>
  obtain⟨i4,m4⟩:=r4;rw [h4] at h;simp only at h;obtain⟨rfl,l4,rfl,_⟩:=Zeb (.inr (.inr rfl)) h4;cases h5:tk (xs.drop (0+cntN 1+8+cntN 3+cntN 2+cntN 3)) 1 with
  | none=>rw [h5] at h;cases h
  | some r5 =>
  obtain⟨i5,m5⟩:=r5;rw [h5] at h;simp only at h;obtain⟨rfl,l5,rfl,_⟩:=Zeb (.inl rfl) h5;simp only [Option.some.injEq,Prod.mk.injEq] at h;obtain⟨rfl,rfl⟩:=h;have c1:cntN 1=1:=rfl;have c2:cntN 2=2:=rfl;have c3:cntN 3=4:=rfl;rw [List.length_drop,c1,c2,c3] at l5;have e19:numB ((xs.drop (0+cntN 1+8+cntN 3+cntN 2+cntN 3)).take (cntN 1))=xs.getD 19 0:=by
   (have aa:19<xs.length:=by omega);have e1:xs.drop 19=xs[19] :: xs.drop 20:=List.drop_eq_getElem_cons aa;(have e2:xs.getD 19 0=xs[19]:=by simp [List.getD,aa]);show numB ((xs.drop 19).take 1)=xs.getD 19 0;rw [e1,e2];show numB [xs[19]]=xs[19];simp [numB]
  refine⟨by rw [c1,c2,c3],by omega,numB (List.take (cntN 1) (List.drop 0 xs)),numB (List.take 8 (List.drop (0+cntN 1) xs)),numB (List.take (cntN 3) (List.drop (0+cntN 1+8) xs)),numB (List.take (cntN 2) (List.drop (0+cntN 1+8+cntN 3) xs)),numB (List.take (cntN 3) (List.drop (0+cntN 1+8+cntN 3+cntN 2) xs)),?_⟩;rw [e19];rfl
theorem ZgI :∀(n:Nat)(l:List It)(q:Nat)(r:List It × Nat),(∃ys:List Nat,l=ys.map numI)→tks xs (List.replicate n 4) l q=some r→∃ys:List Nat,r.1=ys.map numI
 | 0,l,q,r,hl,h=>by
  simp only [List.replicate_zero,tks,Option.some.injEq] at h
  rw [← h]
  exact hl
 | n+1,l,q,r,⟨ys,hl⟩,h=>by
  simp only [List.replicate_succ,tks] at h
  split at h
  · cases h
  · rename_i i m hi
    obtain⟨_,_,rfl,_⟩:=Ziv hi
    refine ZgI n _ _ r ⟨ys ++ [numB (((xs.drop q)).take 8)],?_⟩ h
    rw [hl]
    simp [numI]
theorem ZoV (ys:List Nat):(ys.map numI).map It.x=ys:=by
 rw [List.map_map];(have:(It.x ∘ numI)=id:=by funext x;rfl);rw [this,List.map_id]
theorem ZgN (hx:Bytes xs)(h:decB xs=some r):r.bytes=xs:=by
 unfold decB at h;split at h
 · cases h
 · rename_i l q h1;split at h
   · cases h
   · rename_i m q2 h2;split at h
     · cases h
     · rename_i hno;simp only [Option.some.injEq] at h;subst h;have ag:¬q+q2<xs.length:=fun h=>hno (.inl h);have af:¬1<(l.getD 0 itD).n:=fun h=>hno (.inr (.inl h));obtain⟨rfl,ae,n0,k,n2,n3,n4,rfl⟩:=ZeF hx h1;have aa:=Zfb hx headK [] 0 _ ZkK (Nat.zero_le _) (by simp [putB]) h1;have hb:Bytes (xs.drop 20):=fun x hh=>hx x (List.mem_of_mem_drop hh);have ab:=Zfb hb _ [] 0 _ (fun k hk=>by rw [(List.mem_replicate.1 hk).2];decide) (Nat.zero_le _) (by simp [putB]) h2;obtain⟨ys,ad⟩:=ZgI _ [] 0 _ ⟨[],rfl⟩ h2;have ac:m.length=xs.getD 19 0:=by
        have:=ZcB _ _ _ _ _ h2;simpa using this
       simp only at ad aa ab;subst ad;simp only [List.getD_cons_zero] at af;have hd:(if ((n0:Int) != 0)=true then (1:Int) else 0)=(n0:Int):=by
        (have:n0=0∨n0=1:=by omega);rcases this with rfl | rfl <;> rfl
       have e:(rowOf [⟨1,n0,0,noS⟩,⟨4,0,k,noS⟩,⟨3,n2,0,noS⟩,⟨2,n3,0,noS⟩,⟨3,n4,0,noS⟩,⟨1,(xs.getD 19 0:Nat),0,noS⟩] (ys.map numI)).items=[⟨1,n0,0,noS⟩,⟨4,0,k,noS⟩,⟨3,n2,0,noS⟩,⟨2,n3,0,noS⟩,⟨3,n4,0,noS⟩,⟨1,(xs.getD 19 0:Nat),0,noS⟩] ++ ys.map numI:=by
        rw [List.length_map] at ac;unfold Rw.items Rw.head rowOf;simp only [ZoV,ac];show [_,_,_,_,_,_] ++ _=_;congr 1;congr 1;show (⟨1,if ((n0:Int) != 0)=true then 1 else 0,0,noS⟩:It)=⟨1,n0,0,noS⟩;rw [hd]
       unfold Rw.bytes;rw [e,Zcg,aa.1,ab.1,← List.take_add,List.take_of_length_le (by omega)]
def ZdA (l m:List It):Rw:=⟨(l.getD 1 itD).x,(l.getD 0 itD).n == 1,m.map It.x,(l.getD 2 itD).n,(l.getD 3 itD).n,(l.getD 4 itD).n⟩
theorem Zmh (hx:Bytes xs)(h:tks xs (headK ++ List.replicate (xs.getD 19 0) 4) [] 0=none):decB xs=none:=by
 rw [ZcT] at h;unfold decB;cases h1:tks xs headK [] 0 with
 | none=>rfl
 | some r =>
  obtain⟨l,q⟩:=r;rw [h1] at h;obtain⟨rfl,_,n0,k,n2,n3,n4,rfl⟩:=ZeF hx h1;simp only at h ⊢;have hs:=Zfc xs [⟨1,n0,0,noS⟩,⟨4,0,k,noS⟩,⟨3,n2,0,noS⟩,⟨2,n3,0,noS⟩,⟨3,n4,0,noS⟩,⟨1,(xs.getD 19 0:Nat),0,noS⟩] 20 (List.replicate (xs.getD 19 0) 4) [] 0;rw [List.append_nil,Nat.add_zero,h] at hs;have h2:tks (xs.drop 20) (List.replicate (xs.getD 19 0) 4) [] 0=none:=by
   cases h2:tks (xs.drop 20) (List.replicate (xs.getD 19 0) 4) [] 0 with
   | none=>rfl
   | some r=>rw [h2] at hs;cases hs
  have e:(((([⟨1,n0,0,noS⟩,⟨4,0,k,noS⟩,⟨3,n2,0,noS⟩,⟨2,n3,0,noS⟩,⟨3,n4,0,noS⟩,⟨1,(xs.getD 19 0:Nat),0,noS⟩]:List It).getD 5 itD).n).toNat)=xs.getD 19 0:=by
   show (((xs.getD 19 0:Nat):Int)).toNat=_;simp
  rw [e,h2]
theorem Zmi {xs:List Nat}(hx:Bytes xs){L:List It}{Q:Nat}(h:tks xs (headK ++ List.replicate (xs.getD 19 0) 4) [] 0=some (L,Q)) :
    L.length=6+xs.getD 19 0∧∃m,L.drop 6=m ∧
     ((ZdA L m).may=true→(ZdA L m).fits→(ZdA L m).bytes=xs→decB xs=some (ZdA L m)) ∧
     (¬((ZdA L m).may=true∧(ZdA L m).bytes=xs)→decB xs=none):=by
 have ab:=ZcB _ _ _ _ _ h;refine⟨by simp [headK] at ab ⊢;omega,_,rfl,fun hm hf hb=>?_,fun af=>?_⟩
 · have:=ZgM hm hf;rw [hb] at this;exact this
 · cases hd:decB xs with
   | none=>rfl
   | some r =>
    exfalso;apply af;have aa:=ZgN hx hd;rw [ZcT] at h;unfold decB at hd;cases h1:tks xs headK [] 0 with
    | none=>rw [h1] at h;cases h
    | some r1 =>
     obtain⟨l,q⟩:=r1;rw [h1] at h hd;obtain⟨rfl,_,n0,k,n2,n3,n4,rfl⟩:=ZeF hx h1;simp only at h hd;have hs:=Zfc xs [⟨1,n0,0,noS⟩,⟨4,0,k,noS⟩,⟨3,n2,0,noS⟩,⟨2,n3,0,noS⟩,⟨3,n4,0,noS⟩,⟨1,(xs.getD 19 0:Nat),0,noS⟩] 20 (List.replicate (xs.getD 19 0) 4) [] 0;rw [List.append_nil,Nat.add_zero,h] at hs;have e:(((([⟨1,n0,0,noS⟩,⟨4,0,k,noS⟩,⟨3,n2,0,noS⟩,⟨2,n3,0,noS⟩,⟨3,n4,0,noS⟩,⟨1,(xs.getD 19 0:Nat),0,noS⟩]:List It).getD 5 itD).n).toNat)=xs.getD 19 0:=by
      show (((xs.getD 19 0:Nat):Int)).toNat=_;simp
     rw [e] at hd;cases h2:tks (xs.drop 20) (List.replicate (xs.getD 19 0) 4) [] 0 with
     | none=>rw [h2] at hs;cases hs
     | some s =>
      obtain⟨m,q2⟩:=s;rw [h2] at hs hd;simp only [Option.map_some,Option.some.injEq,Prod.mk.injEq] at hs;obtain⟨rfl,rfl⟩:=hs;simp only at hd;split at hd
      · cases hd
      · rename_i hc;simp only [Option.some.injEq] at hd;have ag:¬(1:Int)<(n0:Int):=fun h=>hc (.inr (.inl h));have ac:(rowOf [⟨1,n0,0,noS⟩,⟨4,0,k,noS⟩,⟨3,n2,0,noS⟩,⟨2,n3,0,noS⟩,⟨3,n4,0,noS⟩,⟨1,(xs.getD 19 0:Nat),0,noS⟩] m).may=true:=by
         cases hm:(rowOf [⟨1,n0,0,noS⟩,⟨4,0,k,noS⟩,⟨3,n2,0,noS⟩,⟨2,n3,0,noS⟩,⟨3,n4,0,noS⟩,⟨1,(xs.getD 19 0:Nat),0,noS⟩] m).may
         · exact absurd (.inr (.inr hm)) hc
         · rfl
        have ad:ZdA ([⟨1,n0,0,noS⟩,⟨4,0,k,noS⟩,⟨3,n2,0,noS⟩,⟨2,n3,0,noS⟩,⟨3,n4,0,noS⟩,⟨1,(xs.getD 19 0:Nat),0,noS⟩] ++ m) ((([⟨1,n0,0,noS⟩,⟨4,0,k,noS⟩,⟨3,n2,0,noS⟩,⟨2,n3,0,noS⟩,⟨3,n4,0,noS⟩,⟨1,(xs.getD 19 0:Nat),0,noS⟩]:List It) ++ m).drop 6)=rowOf [⟨1,n0,0,noS⟩,⟨4,0,k,noS⟩,⟨3,n2,0,noS⟩,⟨2,n3,0,noS⟩,⟨3,n4,0,noS⟩,⟨1,(xs.getD 19 0:Nat),0,noS⟩] m:=by
         have ae:((n0:Int) == 1)=((n0:Int) != 0):=by
          (have:n0=0∨n0=1:=by omega);rcases this with rfl | rfl <;> rfl
         show (⟨k,(n0:Int) == 1,m.map It.x,n2,n3,n4⟩:Rw)=⟨k,(n0:Int) != 0,m.map It.x,n2,n3,n4⟩;rw [ae]
        rw [ad];exact⟨ac,by rw [hd];exact aa⟩
theorem Zii {L:List It}(hl:∀i∈L,i.fits)(h6:6≤L.length):(ZdA L (L.drop 6)).fits:=by
 have g:∀j,j<6→(L.getD j itD).fits:=fun j hj=>by
  (have hj':j<L.length:=by omega);have:=hl _ (List.getElem_mem hj');simpa [List.getD,hj'] using this
 refine⟨(g 1 (by omega)).2.2.1,?_,(g 2 (by omega)).2.1,(g 3 (by omega)).2.1,(g 4 (by omega)).2.1⟩;intro x hx;obtain⟨i,hi,rfl⟩:=List.mem_map.1 hx;exact(hl i (List.mem_of_mem_drop hi)).2.2.1
structure Lf where
  itl:List Int
  slots:List (List Nat)
def Lf.zero:Lf:=⟨[],[]⟩
def sl (s:List (List Nat)) (i:Nat):List Nat:=s.getD i []
theorem Zcq (h:i<s.length):sl s i=s[i]:=by simp [sl,List.getD,h]
theorem ZlL (h:s.length≤i):sl s i=[]:=by simp [sl,List.getD,h]
theorem Zdh (h:i<s.length)(r:List Nat):sl (s.set i r) i=r:=by simp [sl,List.getD,h]
theorem ZcA {j:Nat}(h:i≠j)(r:List Nat):sl (s.set i r) j=sl s j:=by simp [sl,List.getD,h]
theorem ZeZ (h:i<s.length)(r:List Nat):sl (s ++ [r]) i=sl s i:=by
 unfold sl;rw [List.getD,List.getElem?_append_left h,List.getD]
theorem Zdi (s:List (List Nat))(r:List Nat):sl (s ++ [r]) s.length=r:=by simp [sl,List.getD]
theorem ZlM (h:sl s i ≠ []):i<s.length:=by
 rcases Nat.lt_or_ge i s.length with h1 | h1
 · exact h1
 · exact absurd (ZlL h1) h
theorem Zpb {t:List (List Nat)}(hl:s.length=t.length)(h:∀i,i<s.length→sl s i=sl t i):s=t:=by
 apply List.ext_getElem hl;intro i h1 h2;have:=h i h1;rwa [Zcq h1,Zcq h2] at this
def needS:List (List Nat)→Nat
  | []=>0
  | x :: r=>1+x.length+needS r
def need (s:List (List Nat)):Nat:=18+needS s
theorem Zej:∀(s t:List (List Nat)),needS (s ++ t)=needS s+needS t
 | [],t=>by simp [needS]
 | x :: r,t=>by
  have:=Zej r t
  simp only [List.cons_append,needS,this]
  omega
theorem Zd4:∀(s:List (List Nat))(i:Nat)(r:List Nat),i<s.length→needS (s.set i r)+(sl s i).length=needS s+r.length
 | x :: t,0,r,_=>by
  have e:sl (x :: t) 0=x:=rfl
  rw [e]
  simp only [List.set_cons_zero,needS]
  omega
 | x :: t,i+1,r,h=>by
  have e:sl (x :: t) (i+1)=sl t i:=rfl
  have:=Zd4 t i r (by simpa using h)
  rw [e]
  simp only [List.set_cons_succ,needS]
  omega
theorem ZfE (s:List (List Nat))(r:List Nat):needS (s ++ [r])=needS s+1+r.length:=by
 rw [Zej];simp only [needS];omega
theorem Zb4 {k:Nat}(h:k<s.length):needS (s.take (k+1))=needS (s.take k)+1+(sl s k).length:=by
 rw [List.take_succ_eq_append_getElem h,ZfE,← Zcq h]
def ItlOk (t:List Int):Prop:=t.length=4∧(∀i,i<4→0≤t.getD i 0∧t.getD i 0≤2147483647)∧∀i,i<4→∀k,k<i→t.getD k 0≠0→t.getD k 0≠t.getD i 0
def ZaH (s:List (List Nat)):Prop:=s.length≤64∧(∀i,i<s.length→(sl s i).length≤255)∧(s ≠ []→sl s (s.length-1) ≠ [])
structure MayL (l:Lf):Prop where
  itl:ItlOk l.itl
  slots:ZaH l.slots
  need:need l.slots≤508
theorem ZaH.set (h:ZaH s)(hi:i<s.length){r:List Nat}(h1:1≤r.length)(h2:r.length≤255):ZaH (s.set i r):=by
 refine⟨by rw [List.length_set];exact h.1,fun j hj=>?_,fun _=>?_⟩
 · rw [List.length_set] at hj;by_cases e:i=j
   · subst e;rw [Zdh hi];exact h2
   · rw [ZcA e];exact h.2.1 j hj
 · rw [List.length_set];by_cases e:i=s.length-1
   · rw [← e,Zdh hi];intro x;rw [x] at h1;simp at h1
   · rw [ZcA e];exact h.2.2 (fun x=>by rw [x] at hi;simp at hi)
theorem ZaH.snoc (h:ZaH s)(hl:s.length<64){r:List Nat}(h1:1≤r.length)(h2:r.length≤255):ZaH (s ++ [r]):=by
 refine⟨by simp;omega,fun j hj=>?_,fun _=>?_⟩
 · rw [List.length_append] at hj;by_cases e:j=s.length
   · rw [e,Zdi];exact h2
   · rw [ZeZ (by simp at hj;omega)];exact h.2.1 j (by simp at hj;omega)
 · rw [List.length_append];show sl _ (s.length+1-1)≠_;rw [Nat.add_sub_cancel,Zdi];intro x;rw [x] at h1;simp at h1
def cutN (s:List (List Nat)):Nat→Nat
  | 0=>0
  | n+1=>if (sl s n).length=0 then cutN s n else n+1
def trim (s:List (List Nat)):List (List Nat):=s.take (cutN s s.length)
def Zeh (s:List (List Nat)):List (List Nat)→Nat→Nat
  | [],k=>k
  | x :: r,k=>if x.length=0 then k else Zeh s r (k+1)
def atE (s:List (List Nat)):Nat:=Zeh s s 0
theorem Zei (o:List (List Nat)):∀(s:List (List Nat))(k:Nat),(Zeh o s k=k+s.length∧∀x∈s,x.length≠0)∨∃i,i<s.length∧Zeh o s k=k+i∧(sl s i).length=0∧∀j,j<i→(sl s j).length≠0
 | [],k=>.inl ⟨by simp [Zeh],fun _ h=>by cases h⟩
 | x :: r,k=>by
  by_cases hx:x.length=0
  · exact .inr ⟨0,by simp,by rw [Zeh,if_pos hx];rfl,hx,fun j hj=>absurd hj (Nat.not_lt_zero _)⟩
  · rcases Zei o r (k+1) with ⟨h1,h2⟩ | ⟨i,hi,h1,h2,h3⟩
    · refine .inl ⟨by rw [Zeh,if_neg hx,h1,List.length_cons];omega,fun t ht=>?_⟩
      rcases List.mem_cons.1 ht with rfl | ht
      · exact hx
      · exact h2 t ht
    · refine .inr ⟨i+1,by simpa using hi,by rw [Zeh,if_neg hx,h1];omega,h2,fun j hj=>?_⟩
      cases j with
      | zero=>exact hx
      | succ j=>exact h3 j (by omega)
theorem Zcs (s:List (List Nat)):(atE s=s.length∧∀i,i<s.length→(sl s i).length≠0)∨(atE s<s.length∧(sl s (atE s)).length=0∧∀j,j<atE s→(sl s j).length≠0):=by
 rcases Zei s s 0 with ⟨h1,h2⟩ | ⟨i,hi,h1,h2,h3⟩
 · refine .inl ⟨by unfold atE;omega,fun i hi=>?_⟩;rw [Zcq hi];exact h2 _ (List.getElem_mem hi)
 · (have e:atE s=i:=by unfold atE;omega);rw [e];exact .inr ⟨hi,h2,h3⟩
def insS (s:List (List Nat)) (r:List Nat):List (List Nat):=if atE s=s.length then s ++ [r] else s.set (atE s) r
theorem ZhS (s:List (List Nat))(r:List Nat):(insS s r).length=if atE s=s.length then s.length+1 else s.length:=by
 unfold insS;split <;> simp
theorem ZkZ (h:ZaH s){r:List Nat}(h1:1≤r.length)(h2:r.length≤255)(hl:(insS s r).length≤64):ZaH (insS s r):=by
 rw [ZhS] at hl;unfold insS;rcases Zcs s with ⟨e,_⟩ | ⟨e,_⟩
 · rw [if_pos e] at hl ⊢;exact h.snoc (by omega) h1 h2
 · rw [if_neg (by omega)];exact h.set e h1 h2
def ixI (f:Int→Bool):List Int→Nat→Int
  | [],_=>-1
  | x :: r,k=>if f x=true then ((k:Nat):Int) else ixI f r (k+1)
theorem ZbM (f:Int→Bool):∀(t:List Int)(k:Nat),(ixI f t k = -1∧∀x∈t,f x=false)∨∃i,i<t.length∧ixI f t k=((k+i:Nat):Int)∧f (t.getD i 0)=true∧∀j,j<i→f (t.getD j 0)=false
 | [],_=>.inl ⟨rfl,fun _ h=>by cases h⟩
 | s :: r,k=>by
  by_cases hs:f s=true
  · exact .inr ⟨0,by simp,by rw [ixI,if_pos hs];rfl,hs,fun j hj=>absurd hj (Nat.not_lt_zero _)⟩
  · have hs':f s=false:=by simpa using hs
    rcases ZbM f r (k+1) with ⟨h1,h2⟩ | ⟨i,hi,h1,h2,h3⟩
    · refine .inl ⟨by rw [ixI,if_neg hs];exact h1,fun t ht=>?_⟩
      rcases List.mem_cons.1 ht with rfl | ht
      · exact hs'
      · exact h2 t ht
    · refine .inr ⟨i+1,by simpa using hi,by rw [ixI,if_neg hs,h1];congr 1;omega,h2,fun j hj=>?_⟩
      cases j with
      | zero=>exact hs'
      | succ j=>exact h3 j (by omega)
def freeI (t:List Int) (live:List Int):Int:=if 0≤ixI (fun x=>x == 0) t 0 then ixI (fun x=>x == 0) t 0 else ixI (fun x=>!(live.contains x)) t 0
structure Js where
  t:List Int
  e:Int
def joinI (t:List Int) (w:Int) (live:List Int):Js:=
  if w<1∨2147483647<w then ⟨t,1⟩ else if t.contains w=true then ⟨t,0⟩ else if freeI t live<0 then ⟨t,8⟩ else ⟨t.set (freeI t live).toNat w,0⟩
theorem ZbZ (h:i<t.length)(w:Int):(t.set i w).getD i 0=w:=by simp [List.getD,h]
theorem Zbk {j:Nat}(h:i≠j)(w:Int):(t.set i w).getD j 0=t.getD j 0:=by simp [List.getD,h]
theorem Zd2 (h:i<t.length):t.getD i 0∈t:=by simp [List.getD,h]
theorem ItlOk.set (h:ItlOk t){w:Int}(h1:1≤w)(h2:w≤2147483647)(hn:¬w∈t)(hi:i<4):ItlOk (t.set i w):=by
 have hl:=h.1;refine⟨by rw [List.length_set];exact hl,fun j hj=>?_,fun j hj k hk=>?_⟩
 · by_cases e:i=j
   · subst e;rw [ZbZ (by omega)];omega
   · rw [Zbk e];exact h.2.1 j hj
 · by_cases e:i=j
   · subst e;rw [ZbZ (by omega),Zbk (by omega)];intro _ x;exact hn (by rw [← x];exact Zd2 (by omega))
   · rw [Zbk e];by_cases e2:i=k
     · subst e2;rw [ZbZ (by omega)];intro _ x;exact hn (by rw [x];exact Zd2 (by omega))
     · rw [Zbk e2];exact h.2.2 j hj k hk
theorem Zgr (live:List Int):freeI t live<t.length ∧ -1≤freeI t live:=by
 unfold freeI;split
 · rcases ZbM (fun x=>x == 0) t 0 with ⟨h1,_⟩ | ⟨i,hi,h1,_⟩ <;> omega
 · rcases ZbM (fun x=>!(live.contains x)) t 0 with ⟨h1,_⟩ | ⟨i,hi,h1,_⟩ <;> omega
theorem Zgv (h:ItlOk t)(w:Int)(live:List Int):ItlOk (joinI t w live).t:=by
 have hf:=Zgr (t:=t) live;have hl:=h.1;unfold joinI;split
 · exact h
 · split
   · exact h
   · rename_i hc;split
     · exact h
     · exact h.set (by omega) (by omega) (fun x=>hc (by simpa using x)) (by omega)
theorem Zj2 {live:List Int}{x:Int}(hx:x∈t)(h:x=0∨¬x∈live):0≤freeI t live:=by
 unfold freeI;split
 · assumption
 · rename_i hc;rcases ZbM (fun x=>!(live.contains x)) t 0 with ⟨_,h2⟩ | ⟨i,_,h1,_⟩
   · have hl:=h2 x hx;rcases ZbM (fun x=>x == 0) t 0 with ⟨_,h4⟩ | ⟨j,_,h3,_⟩
     · have h0:=h4 x hx;rcases h with h | h
       · simp [h] at h0
       · simp at hl;exact absurd hl h
     · omega
   · omega
theorem ZoP {x:Int}(h:x∈t):∃i,i<t.length∧t.getD i 0=x:=by
 obtain⟨i,hi,e⟩:=List.mem_iff_getElem.1 h;exact⟨i,hi,by simp [List.getD,hi,e]⟩
def Kept (D:Nat→Prop) (w w':World):Prop:=∀k,D k→k<w.heap.size→w'.heap[k]? = w.heap[k]?
theorem Kept.all {D:Nat→Prop}(h:Below B w w')(hB:w.heap.size≤B):Kept D w w':=fun k _ hl=>h.block k (by omega)
theorem Kept.frm {D F:Nat→Prop}(h:Frm F w w')(hD:∀k,D k→¬F k):Kept D w w':=fun k hk hl=>h.block k hl (hD k hk)
theorem Kept.cell {D:Nat→Prop}(h:Kept D w w'){a:Addr}(hc:w.cell? a=some u)(hD:D a.block):w'.cell? a=some u:=by
 have:=h a.block hD (World.block_lt_of_cell? w _ hc);simp only [World.cell?] at hc ⊢;rw [this];exact hc
structure Cm (D:Nat→Prop) (w:World) (s:Sl) (xs:List Nat):Prop where
  came:Came w s.a s.len s.cap xs
  home:∀ad,s.a=some ad→0<s.len→D ad.block
theorem Cm.len {D:Nat→Prop}{s:Sl}(h:Cm D w s xs):xs.length=s.len:=h.came.bs.1
theorem Cm.keep {D:Nat→Prop}{s:Sl}(h:Cm D w s xs)(hk:Kept D w w'):Cm D w' s xs:=by
 refine⟨⟨⟨h.came.bs.1,h.came.bs.2.1,fun i hi=>?_⟩,h.came.nil,h.came.le,h.came.big⟩,h.home⟩;obtain⟨b,off,ha,hc⟩:=h.came.bs.2.2 i hi;exact⟨b,off,ha,hk.cell hc (h.home ⟨b,off,none⟩ ha (by omega))⟩
theorem Cm.mono {D E:Nat→Prop}{s:Sl}(h:Cm D w s xs)(hE:∀k,D k→k<w.heap.size→E k):Cm E w s xs:=by
 refine⟨h.came,fun ad ha hl=>hE _ (h.home ad ha hl) ?_⟩;obtain⟨b,off,ha',hc⟩:=h.came.bs.2.2 0 hl;rw [ha'] at ha;cases ha;exact World.block_lt_of_cell? w _ hc
structure Sb where
  s:Sl
  bs:List Nat
def Sb.zero:Sb:=⟨Sl.nil,[]⟩
def bss (l:List Sb):List (List Nat):=l.map Sb.bs
theorem Zag (l:List Sb):(bss l).length=l.length:=by simp [bss]
theorem Zfn (l:List Sb)(i:Nat):sl (bss l) i=(l.getD i Sb.zero).bs:=by
 unfold sl bss;simp only [List.getD,List.getElem?_map];cases l[i]? <;> rfl
structure Gi (D:Nat→Prop) (w:World) (v:Sl) (t:List Int):Prop where
  len:t.length=v.len
  nil:v.a=none→v.cap=0
  le:v.len≤v.cap
  big:v.len≤1000000
  home:∀ad,v.a=some ad→0<v.len→D ad.block
  cell:∀i,i<v.len→∃b off,v.a=some ⟨b,off,none⟩∧w.cell? ⟨b,off+i,none⟩=some (.int .i64 (t.getD i 0))
theorem Gi.keep {D:Nat→Prop}{v:Sl}(h:Gi D w v t)(hk:Kept D w w'):Gi D w' v t:=by
 refine⟨h.len,h.nil,h.le,h.big,h.home,fun i hi=>?_⟩;obtain⟨b,off,ha,c0⟩:=h.cell i hi;exact⟨b,off,ha,hk.cell c0 (h.home ⟨b,off,none⟩ ha (by omega))⟩
theorem Gi.below {D:Nat→Prop}{v:Sl}(h:Gi D w v t)(hb:Below B w w')(hB:w.heap.size≤B):Gi D w' v t:=h.keep (Kept.all hb hB)
structure Gb (D:Nat→Prop) (w:World) (v:Sl) (l:List Sb):Prop where
  len:l.length=v.len
  nil:v.a=none→v.cap=0
  le:v.len≤v.cap
  big:v.len≤1000
  home:∀ad,v.a=some ad→0<v.len→D ad.block
  cell:∀i,i<v.len→∃b off,v.a=some ⟨b,off,none⟩∧w.cell? ⟨b,off+i,none⟩=some (l.getD i Sb.zero).s.val
  bs:∀x∈l,Cm D w x.s x.bs∧x.bs.length≤1000
theorem Gb.keep {D:Nat→Prop}{v:Sl}{l:List Sb}(h:Gb D w v l)(hk:Kept D w w'):Gb D w' v l:=by
 refine⟨h.len,h.nil,h.le,h.big,h.home,fun i hi=>?_,fun x hx=>⟨(h.bs x hx).1.keep hk,(h.bs x hx).2⟩⟩;obtain⟨b,off,ha,c0⟩:=h.cell i hi;exact⟨b,off,ha,hk.cell c0 (h.home ⟨b,off,none⟩ ha (by omega))⟩
theorem Gb.below {D:Nat→Prop}{v:Sl}{l:List Sb}(h:Gb D w v l)(hb:Below B w w')(hB:w.heap.size≤B):Gb D w' v l:=h.keep (Kept.all hb hB)
theorem ZbL {l:List Sb}(h:i<l.length):l.getD i Sb.zero∈l:=by simp [List.getD,h]
theorem Gb.at {D:Nat→Prop}{v:Sl}{l:List Sb}(h:Gb D w v l)(hi:i<v.len):Cm D w (l.getD i Sb.zero).s (sl (bss l) i)∧(l.getD i Sb.zero).s.len=(sl (bss l) i).length∧(sl (bss l) i).length≤1000:=by
 have hm:=h.bs _ (ZbL (l:=l) (i:=i) (by rw [h.len];exact hi));rw [Zfn];exact⟨hm.1,hm.1.len.symm,hm.2⟩
def lfV (u v:Sl):Value:=.agg #[u.val,v.val]
def LfBlk (w:World) (p:Nat) (u v:Value):Prop:=w.heap[p]? = some (Obj.cells #[u,v] 67 (0,0))
theorem LfBlk.c0 (k:LfBlk w p u v):w.cell? ⟨p,0,none⟩=some u:=by unfold LfBlk at k;simp [World.cell?,k]
theorem LfBlk.c1 (k:LfBlk w p u v):w.cell? ⟨p,1,none⟩=some v:=by unfold LfBlk at k;simp [World.cell?,k]
theorem LfBlk.fz (k:LfBlk w p u v)(o:Nat):w.frozen? ⟨p,o,none⟩=false:=frozen_of_row w p _ _ 67 k
theorem LfBlk.lt (k:LfBlk w p u v):p<w.heap.size:=(Array.getElem?_eq_some_iff.1 k).1
theorem Zaj (w:World)(u v:Value):LfBlk (w.alloc (.cells #[u,v] 67)) w.heap.size u v:=heap_alloc_new w _
theorem LfBlk.below (k:LfBlk w p u v)(hb:Below w.heap.size w w'):LfBlk w' p u v:=(hb.block p k.lt).trans k
theorem Zae (w:World)(o:Obj):(w.alloc o).heap.size=w.heap.size+1:=by
 show (w.heap.push o).size=_;simp
theorem Zg1 (s:List (List Nat))(h:∀i,i<s.length→(sl s i).length≤1000):∀n,n≤s.length→needS (s.take n)≤n*1001
 | 0,_=>by simp [needS]
 | n+1,hn=>by
  rw [Zb4 (by omega)]
  have h1:=Zg1 s h n (by omega)
  have h2:=h n (by omega)
  omega
theorem ZeV {D:Nat→Prop}(w:World)(u v:Sl)(l:List Sb)(hg:Gb D w v l) :
    Calls Tryz.prog 81 #[lfV u v] w fun e w'=>e=.returned (.int .i64 ((need (bss l):Nat):Int))∧Below w.heap.size w w':=by
  obtain⟨a,len,cap⟩:=v;obtain⟨ua,ul,uc⟩:=u;have hl:l.length=len:=hg.len;have ah:len≤1000:=hg.big;have hA:=Zaa w (.cells #[.slice ua ul uc,.slice a len cap] 67);have HG:=hide (hg.below hA (Nat.le_refl _));have HA:=hide hA;(have HL:Hid ((bss l).length=len):=by show _=_;rw [Zag];exact hl);have HN:Hid (∀n,n≤len→needS ((bss l).take n)≤n*1001):=by
   intro n hn;refine Zg1 (bss l) (fun i hi=>?_) n (by rw [Zag,hl];exact hn);exact(hg.at (by rw [Zag] at hi;show i<len;omega)).2.2
  have H0:Hid (((18:Nat):Int)=((18+needS ((bss l).take 0):Nat):Int)):=rfl;clear hg hl hA;unfold lfV Sl.val;simp only;go_enter Tryz.func81,Tryz.ntmps81;go_wp2_with fail;go_loopw [4,3] (fun iv nv wr=>wr=w.alloc (.cells #[.slice ua ul uc,.slice a len cap] 67)∧∃i:Nat,i≤len∧iv=.int .i64 (i:Nat)∧nv=.int .i64 ((18+needS ((bss l).take i):Nat):Int)) (fun iv _ _=>len-(intOf iv).toNat)
  case atStart=>exact ⟨rfl,0,Nat.zero_le _,rfl,rfl⟩
  case round =>
   obtain⟨rfl,i,hi,rfl,rfl⟩:=hrel;rcases Nat.lt_or_ge i len with ad | ai
   · (have i1:(i:Int)<(len:Int):=by omega);obtain⟨bb,oo,ha,c0⟩:=HG.out.cell i ad;replace ha:a=some ⟨bb,oo,none⟩:=ha;subst ha;obtain⟨_,ac,ab⟩:=HG.out.at ad;have aa:=Zb4 (s:=bss l) (k:=i) (by rw [HL.out];exact ad);have ae:=HN.out i hi;obtain⟨⟨sa,sn,sc⟩,af⟩:∃s,s=(l.getD i Sb.zero).s:=⟨_,rfl⟩;rw [← af] at c0 ac;unfold Sl.val at c0;simp only at c0 ac;obtain⟨q,hq⟩:∃q,q=needS ((bss l).take i):=⟨_,rfl⟩;(have ag:Hid (needS ((bss l).take (i+1))=q+1+sn):=by show _=_;rw [aa,hq,ac]);rw [← hq] at ae ⊢;(have aj:q≤1001000:=by omega);(have ak:sn≤1000:=by omega);clear aa af hq ac ab ae;go_wp2_with fail;go_roundw
     case rel=>exact ⟨trivial,i+1,by omega,by go_num,by rw [ag.out];go_num⟩
     case measure=>simp only [intOf];omega
   · (have i1:¬(i:Int)<(len:Int):=by omega);have HE:Hid (need (bss l)=18+needS ((bss l).take i)):=by
      show _=_;rw [List.take_of_length_le (by rw [HL.out];exact ai)];rfl
     go_wp2_with fail;go_ret;exact⟨by rw [HE.out];rfl,HA.out⟩
def Zap (s:List (List Nat)) (i:Int):Bool:=decide (0≤i) && (decide (i<s.length) && decide (0<(sl s i.toNat).length))
theorem Zb5 {D:Nat→Prop}(w:World)(u v:Sl)(l:List Sb)(hg:Gb D w v l)(i:Int) :
    Calls Tryz.prog 109 #[lfV u v,.int .i64 i] w fun e w'=>e=.returned (.bool (Zap (bss l) i))∧Below w.heap.size w w':=by
  obtain⟨a,len,cap⟩:=v;obtain⟨ua,ul,uc⟩:=u;have hl:l.length=len:=hg.len;have ad:len≤1000:=hg.big;have hA:=Zaa w (.cells #[.slice ua ul uc,.slice a len cap] 67);have HG:=hide (hg.below hA (Nat.le_refl _));have HA:=hide hA;(have HL:Hid ((bss l).length=len):=by show _=_;rw [Zag];exact hl);clear hg hl hA;unfold lfV Sl.val;simp only;by_cases h0:0≤i
  · obtain⟨k,rfl⟩:=Int.eq_ofNat_of_zero_le h0;by_cases h1:k<len
    · (have i1:(k:Int)<(len:Int):=by omega);obtain⟨bb,oo,ha,c0⟩:=HG.out.cell k h1;replace ha:a=some ⟨bb,oo,none⟩:=ha;subst ha;obtain⟨_,ab,aa⟩:=HG.out.at h1;obtain⟨⟨sa,sn,sc⟩,ac⟩:∃s,s=(l.getD k Sb.zero).s:=⟨_,rfl⟩;rw [← ac] at c0 ab;unfold Sl.val at c0;simp only at c0 ab;have e:Zap (bss l) (k:Int)=decide (0<sn):=by
       unfold Zap;rw [HL.out,decide_eq_true h0,decide_eq_true i1,Bool.true_and,Bool.true_and,Int.toNat_natCast,← ab]
      have HE:=hide e;by_cases h2:0<sn
      · (have i2:(0:Int)<(sn:Int):=by omega);clear e ac ab aa;go_enter Tryz.func109,Tryz.ntmps109;go_wp2_with fail;go_ret;exact⟨by rw [HE.out,decide_eq_true h2];rfl,HA.out⟩
      · (have i2:¬(0:Int)<(sn:Int):=by omega);clear e ac ab aa;go_enter Tryz.func109,Tryz.ntmps109;go_wp2_with fail;go_ret;exact⟨by rw [HE.out,decide_eq_false h2];rfl,HA.out⟩
    · (have i1:¬(k:Int)<(len:Int):=by omega);have HE:Hid (Zap (bss l) (k:Int)=false):=by
       show _=_;unfold Zap;rw [HL.out,decide_eq_false i1];simp
      go_enter Tryz.func109,Tryz.ntmps109;go_wp2_with fail;go_ret;exact⟨by rw [HE.out];rfl,HA.out⟩
  · have HE:Hid (Zap (bss l) i=false):=by
     show _=_;unfold Zap;rw [decide_eq_false h0];rfl
    go_enter Tryz.func109,Tryz.ntmps109;go_wp2_with fail;go_ret;exact⟨by rw [HE.out];rfl,HA.out⟩
end Go.Proofs.YtdojdcncncgncaaGreat
