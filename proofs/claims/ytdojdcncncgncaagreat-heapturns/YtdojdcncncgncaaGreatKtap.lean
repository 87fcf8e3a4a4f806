/-
  Lemmas.
-/
import Derived.Test.YtdojdcncncgncaaGreatKtao
namespace Go.Proofs.YtdojdcncncgncaaGreat
open Go.RowKit
set_option linter.unusedVariables false
set_option maxRecDepth 100000
set_option maxHeartbeats 4000000
variable {w W w1:World}{v u:Sl}{l:List Sb}{s:List (List Nat)}{t t2:List Int}{g:Nat}{i:Int}{r:List Nat}
def Zcp (t:List Int) (s:List (List Nat)) (t2:List Int) (s2:List (List Nat)):Bool:=decide (t=t2) && decide (s=s2)
theorem ZbP {s2:List (List Nat)}:Zcp t s t2 s2=true↔t=t2∧s=s2:=by unfold Zcp;simp
theorem ZeY {s2:List (List Nat)}(h:¬(t=t2∧s=s2)):Zcp t s t2 s2=false:=by
 cases hh:Zcp t s t2 s2 with
 | false=>rfl
 | true=>exact absurd (ZbP.1 hh) h
theorem Zm0 (hl:t.length=t2.length)(h:∀i,i<t.length→t.getD i 0=t2.getD i 0):t=t2:=by
 apply List.ext_getElem hl;intro i h1 h2;have:=h i h1;simpa [List.getD,h1,h2] using this
theorem Zpg {xs ys:List Nat}(hx:Bytes xs)(hy:Bytes ys):((bstr xs).toList == (bstr ys).toList)=decide (xs=ys):=by
 by_cases h:xs=ys
 · rw [h,decide_eq_true rfl];simp
 · rw [ZfX hx hy h,decide_eq_false h]
theorem ZjY {D E:Nat→Prop}(w:World)(u v:Sl)(t:List Int)(l:List Sb)(hi:Gi D w u t)(hg:Gb D w v l)(u2 v2:Sl)(t2:List Int)(l2:List Sb)(ar:Gi E w u2 t2)(aq:Gb E w v2 l2) :
    Calls Tryz.prog 106 #[lfV u v,lfV u2 v2] w fun e w'=>e=.returned (.bool (Zcp t (bss l) t2 (bss l2)))∧Below w.heap.size w w':=by
  obtain⟨a,len,cap⟩:=v;obtain⟨ua,ul,uc⟩:=u;obtain⟨a2,len2,cap2⟩:=v2;obtain⟨ua2,ul2,uc2⟩:=u2;have hl:l.length=len:=hg.len;have be:l2.length=len2:=aq.len;have ht:t.length=ul:=hi.len;have bg:t2.length=ul2:=ar.len;have bx:len≤1000:=hg.big;have aa:len2≤1000:=aq.big;have bz:ul≤1000000:=hi.big;have bw:ul2≤1000000:=ar.big;have bj:=Zaa w (.cells #[.slice ua ul uc,.slice a len cap] 67);have bd:=Zaa (w.alloc (.cells #[.slice ua ul uc,.slice a len cap] 67)) (.cells #[.slice ua2 ul2 uc2,.slice a2 len2 cap2] 67);have hA:=Zad bj bd;have HA:=hide hA;have HK:=hide ((Zaj w (.slice ua ul uc) (.slice a len cap)).below bd);have bh:=hide (Zaj (w.alloc (.cells #[.slice ua ul uc,.slice a len cap] 67)) (.slice ua2 ul2 uc2) (.slice a2 len2 cap2));rw [Zae] at bh;have HG:=hide (hg.below hA (Nat.le_refl _));have bo:=hide (aq.below hA (Nat.le_refl _));have HI:=hide (hi.below hA (Nat.le_refl _));have bp:=hide (ar.below hA (Nat.le_refl _));by_cases bf:ul=ul2∧len=len2
  · obtain⟨e1,e2⟩:=bf;subst e1;subst e2;have HL:=hide hl;have br:=hide be;have HT:=hide ht;have bu:=hide bg;have bn:Hid (∀j,j<0→t.getD j 0=t2.getD j 0):=fun j hj=>absurd hj (Nat.not_lt_zero _);clear hg aq hi ar hl be ht bg bj bd hA aa bw;unfold lfV Sl.val;simp only;go_enter Tryz.func106,Tryz.ntmps106;go_wp2_with fail;generalize (w.alloc (.cells #[.slice ua ul uc,.slice a len cap] 67)).alloc (.cells #[.slice ua2 ul uc2,.slice a2 len cap2] 67)=W at *;have H0:=hide (Below.refl W.heap.size W);go_loopw [5] (fun iv wr=>∃i:Nat,i≤ul∧iv=.int .i64 (i:Nat)∧Hid (Below W.heap.size W wr)∧Hid (∀j,j<i→t.getD j 0=t2.getD j 0)) (fun iv _=>ul-(intOf iv).toNat)
    case atStart=>exact ⟨0,Nat.zero_le _,rfl,H0,bn⟩
    case round =>
     obtain⟨i,hi,rfl,ak,au⟩:=hrel;have av:=HK.out.below ak.out;have c0:=av.c0;have ax:=hide av;have af:=hide (bh.out.below ak.out);rcases Nat.lt_or_ge i ul with an | ca
     · (have i1:(i:Int)<(ul:Int):=by omega);clear av;obtain⟨bb,oo,ha,ao⟩:=(HI.out.below ak.out (Nat.le_refl _)).cell i an;replace ha:ua=some ⟨bb,oo,none⟩:=ha;subst ha;obtain⟨bb2,oo2,aj,ap⟩:=(bp.out.below ak.out (Nat.le_refl _)).cell i an;replace aj:ua2=some ⟨bb2,oo2,none⟩:=aj;subst aj;have ad:=hide ao;have ae:=hide ap;clear ao ap;by_cases ab:t.getD i 0=t2.getD i 0
       · have bq:Hid (∀j,j<i+1→t.getD j 0=t2.getD j 0):=by
          intro j hj;by_cases e:j=i
          · rw [e];exact ab
          · exact au.out j (by omega)
         have bi:=hide ab;clear ab au;go_wp2_with fail;refine Pl.q9 (ops:=Pl.find 6 ((Tryz.f106.body).getD .skip)) ?_;refine ZnT _ w.heap.size (w.heap.size+1) bb oo ul uc bb2 oo2 ul uc2 i _ _ (t.getD i 0) (t2.getD i 0) an an ax.out af.out ad.out ae.out (fun h=>h bi.out) (by rfl) rfl (by rfl) (by rfl) (by rfl) ?_;intro u1 w2 aa;simp only [Act.put,List.setIfInBounds_toArray,List.set_cons_zero,List.set_cons_succ];have ac:=hide (Zad ak.out aa);clear aa ad ae ax af;go_wp2_with fail;go_roundw
         case rel=>exact ⟨i+1,by omega,by go_num,ac,bq⟩
         case measure=>simp only [intOf];omega
       · have HE:=hide (ZeY (t:=t) (t2:=t2) (s:=bss l) (s2:=bss l2) (fun h=>ab (by rw [h.1])));have bi:=hide ab;clear ab au;go_wp2_with fail;refine Pl.q9 (ops:=Pl.find 6 ((Tryz.f106.body).getD .skip)) ?_;refine ZnU _ w.heap.size (w.heap.size+1) bb oo ul uc bb2 oo2 ul uc2 i _ _ (t.getD i 0) (t2.getD i 0) an an ax.out af.out ad.out ae.out bi.out (by rfl) rfl (by rfl) (by rfl) (by rfl) ?_;intro u1 w2 aa;simp only [Act.put,List.setIfInBounds_toArray,List.set_cons_zero,List.set_cons_succ];have ac:=hide (Zad HA.out (Zad ak.out aa));clear aa ad ae ax af;go_wp2_with fail;go_ret;exact⟨by rw [HE.out];rfl,ac.out⟩
     · (have i1:¬(i:Int)<(ul:Int):=by omega);have bv:Hid (t=t2):=Zm0 (by rw [HT.out,bu.out]) (fun j hj=>au.out j (by rw [HT.out] at hj;omega));have c1:=av.c1;clear av au;go_wp2_with fail;go_loopw [6] (fun iv wz=>∃k:Nat,k≤len∧iv=.int .i64 (k:Nat)∧Hid (Below W.heap.size W wz)∧Hid (∀j,j<k→sl (bss l) j=sl (bss l2) j)) (fun iv _=>len-(intOf iv).toNat)
       case atStart=>exact ⟨0,Nat.zero_le _,rfl,ak,fun _ h=>absurd h (Nat.not_lt_zero _)⟩
       case round =>
        rename World=>wo;obtain⟨k,cc,rfl,al,aw⟩:=hrel;have bl:=HK.out.below al.out;have d1:=bl.c1;have ay:=hide bl;have ag:=hide (bh.out.below al.out);clear bl;rcases Nat.lt_or_ge k len with ah | cb
        · (have i2:(k:Int)<(len:Int):=by omega);have bk:=HG.out.below al.out (Nat.le_refl _);have am:=bo.out.below al.out (Nat.le_refl _);obtain⟨bb,oo,ha,ao⟩:=bk.cell k ah;replace ha:a=some ⟨bb,oo,none⟩:=ha;subst ha;obtain⟨bb2,oo2,aj,ap⟩:=am.cell k ah;replace aj:a2=some ⟨bb2,oo2,none⟩:=aj;subst aj;have hm:=(bk.at ah).1;have bm:=(am.at ah).1;have bc:=hide (Zpg hm.came.bs.2.1 bm.came.bs.2.1);have ad:=hide ao;have ae:=hide ap;have az:=hide hm.came.bs;have ba:=hide bm.came.bs;clear bk am ao ap hm bm;by_cases ab:sl (bss l) k=sl (bss l2) k
          · have ai:=bc;rw [decide_eq_true ab] at ai;have bt:Hid (∀j,j<k+1→sl (bss l) j=sl (bss l2) j):=by
             intro j hj;by_cases e:j=k
             · rw [e];exact ab
             · exact aw.out j (by omega)
            clear ab aw bc;go_wp2_with fail;refine Pl.q9 (ops:=Pl.find 11 ((Tryz.f106.body).getD .skip)) ?_;refine Zlk _ w.heap.size (w.heap.size+1) bb oo len cap bb2 oo2 len cap2 k _ _ (l.getD k Sb.zero).s (l2.getD k Sb.zero).s (sl (bss l) k) (sl (bss l2) k) ah ah ay.out ag.out ad.out ae.out az.out ba.out true ai.out (by rfl) rfl (by rfl) (by rfl) (by rfl) ?_;intro u1 w2 aa;simp only [Act.put,List.setIfInBounds_toArray,List.set_cons_zero,List.set_cons_succ];have ac:=hide (Zad al.out aa);clear aa ad ae az ba ay ag ai;go_wp2_with fail;go_roundw
            case rel=>exact ⟨k+1,by omega,by go_num,ac,bt⟩
            case measure=>simp only [intOf];omega
          · have ai:=bc;rw [decide_eq_false ab] at ai;have HE:=hide (ZeY (t:=t) (t2:=t2) (s:=bss l) (s2:=bss l2) (fun h=>ab (by rw [h.2])));clear ab aw bc;go_wp2_with fail;refine Pl.q9 (ops:=Pl.find 11 ((Tryz.f106.body).getD .skip)) ?_;refine Zlk _ w.heap.size (w.heap.size+1) bb oo len cap bb2 oo2 len cap2 k _ _ (l.getD k Sb.zero).s (l2.getD k Sb.zero).s (sl (bss l) k) (sl (bss l2) k) ah ah ay.out ag.out ad.out ae.out az.out ba.out false ai.out (by rfl) rfl (by rfl) (by rfl) (by rfl) ?_;intro u1 w2 aa;simp only [Act.put,List.setIfInBounds_toArray,List.set_cons_zero,List.set_cons_succ];have ac:=hide (Zad HA.out (Zad al.out aa));clear aa ad ae az ba ay ag ai;go_wp2_with fail;go_ret;exact⟨by rw [HE.out];rfl,ac.out⟩
        · (have i2:¬(k:Int)<(len:Int):=by omega);have HE:Hid (Zcp t (bss l) t2 (bss l2)=true):=ZbP.2 ⟨bv.out,Zpb (by rw [Zag,Zag,HL.out,br.out]) (fun j hj=>aw.out j (by rw [Zag,HL.out] at hj;omega))⟩;have ac:=hide (Zad HA.out al.out);clear aw;go_wp2_with fail;go_ret;exact⟨by rw [HE.out];rfl,ac.out⟩
  · have HE:Hid (Zcp t (bss l) t2 (bss l2)=false):=ZeY (fun h=>bf ⟨by rw [← ht,← bg,h.1],by rw [← hl,← be,← Zag,← Zag,h.2]⟩);clear hg aq hi ar hl be ht bg bj bd hA;unfold lfV Sl.val;simp only;by_cases hu:ul=ul2
    · subst hu;(have i1:¬(len:Int)=(len2:Int):=by omega);clear bf;go_enter Tryz.func106,Tryz.ntmps106;go_wp2_with fail;go_ret;exact⟨by rw [HE.out];rfl,HA.out⟩
    · (have i1:¬(ul:Int)=(ul2:Int):=by omega);clear bf;go_enter Tryz.func106,Tryz.ntmps106;go_wp2_with fail;go_ret;exact⟨by rw [HE.out];rfl,HA.out⟩
theorem ZdT:(Tryz.prog.info? 56).map (fun i=>(i.zero,i.size,i.bytes))=some (some (.slice none 0 0),1,24):=by kernel_rfl
def Za2 (l:List Sb):List Value:=l.map fun x=>x.s.val
theorem ZbG (l:List Sb):∀u∈Za2 l,u.oneCell'=true:=by
 intro u hu;obtain⟨i,_,rfl⟩:=List.mem_map.1 hu;rfl
theorem Zfq {i:Nat}(h:i<l.length):(Za2 l)[i]? = some (l.getD i Sb.zero).s.val:=by simp [Za2,List.getD,h]
theorem Zbu (l:List Sb):(Za2 l).length=l.length:=by simp [Za2]
def OwnB (w:World) (v:Sl) (l:List Sb):Prop:=Own 56 1 w v (Za2 l)
theorem OwnB.len (h:OwnB w v l):l.length=v.len:=by
 have:=h.1;rw [Zbu] at this;omega
theorem OwnB.new (w:World):OwnB (w.alloc (.cells #[] 56)) ⟨some ⟨w.heap.size,0,none⟩,0,0⟩ []:=
 ⟨rfl,.inr ⟨w.heap.size,0,_,rfl,heap_alloc_new w _,by simp,Nat.le_refl _,by simp,rfl⟩⟩
theorem OwnB.cellAt (h:OwnB w v l){off:Nat}(ha:v.a=some ⟨g,off,none⟩){i:Nat}(hi:i<v.len):w.cell? ⟨g,off+i,none⟩=some (l.getD i Sb.zero).s.val:=by
 have:=h.cell ha i _ (Zfq (by rw [h.len];exact hi));rwa [Addr.add_lit] at this
theorem OwnB.frozen (h:OwnB w v l){off:Nat}(ha:v.a=some ⟨g,off,none⟩)(o:Nat):w.frozen? ⟨g,o,none⟩=false:=by
 obtain⟨cur,hc⟩:=h.kind (k:=g) (by rw [Sl.blk,ha];rfl);exact frozen_of_row w g _ cur 56 hc
theorem OwnB.pos (h:OwnB w v l)(hp:0<v.len):∃g off,v.a=some ⟨g,off,none⟩:=by
 rcases h.2 with ⟨h0,_⟩ | ⟨g,off,cur,ha,_⟩
 · rw [h0] at hp;exact absurd hp (Nat.not_lt_zero _)
 · exact⟨g,off,ha⟩
theorem OwnB.gb {D:Nat→Prop}(h:OwnB w v l)(hb:∀x∈l,Cm D w x.s x.bs∧x.bs.length≤1000)(hD:∀k,v.blk=some k→D k)(hm:v.len≤1000):Gb D w v l:=by
 refine⟨h.len,h.nilcap,h.lecap,hm,fun ad ha _=>hD _ (by rw [Sl.blk,ha];rfl),fun i hi=>?_,hb⟩;obtain⟨g,off,ha⟩:=h.pos (by omega);exact⟨g,off,ha,h.cellAt ha hi⟩
theorem Gb.src {D:Nat→Prop}(h:Gb D w v l):Src Tryz.prog 1 65 v.val v.len (Za2 l) w:=by
 obtain⟨a,len,cap⟩:=v;have hl:l.length=len:=h.len;cases a with
 | none =>
  have hc:cap=0:=h.nil rfl;(have h0:len=0:=by have:len≤cap:=h.le;omega);subst hc;subst h0;have:l=[]:=List.eq_nil_of_length_eq_zero hl;subst this;exact Src.ofNil w Tryz.underlying65 0
 | some ad =>
  refine Src.ofSlice w Tryz.underlying65 ad len cap (Za2 l) (by rw [Zbu,hl,Nat.mul_one]) (fun j u hj=>?_) (ZbG l);have aa:j<l.length:=by
   have:=(List.getElem?_eq_some_iff.1 hj).1;rwa [Zbu] at this
  obtain⟨b,off,e,c0⟩:=h.cell j (by show j<len;omega);obtain rfl:=Option.some.inj e;rw [Addr.add_lit,c0,← Zfq aa,hj]
theorem ZhD {D:Nat→Prop}(w:World)(v:Sl)(l:List Sb)(h:Gb D w v l)(ty:TypeId) :
    ∃v' w',(Builtin.append_ #[65,65] ty #[.slice (some ⟨w.heap.size,0,none⟩) 0 0,v.val]).run Tryz.prog (w.alloc (.cells #[] 56))=.ok v'.val w'∧OwnB w' v' l∧v'.len=v.len∧Below w.heap.size w w'∧∀k,v'.blk=some k→w.heap.size≤k:=by
  have hB:=Zaa w (.cells #[] 56);have h1:=(h.below hB (Nat.le_refl _)).src;obtain⟨v',w',ab,ho,aa,hf,ac⟩:=ZaA Tryz.underlying65 ZdT rfl (by decide) _ ⟨some ⟨w.heap.size,0,none⟩,0,0⟩ [] (OwnB.new w) (fun _ h=>by cases h) _ v.len (Za2 l) h1 (by have:=h.big;show 0+v.len≤_;omega) ty;refine⟨v',w',ab,ho,by rw [aa];exact Nat.zero_add _,hB.trans (hf.below hB.size (fun k hk=>?_)),fun k hk=>?_⟩
  · have:some w.heap.size=some k:=hk;cases this;exact Nat.le_refl _
  · rcases ac with e | ⟨e,_⟩
    · rw [e] at hk;have:some w.heap.size=some k:=hk;cases this;exact Nat.le_refl _
    · rw [e] at hk;cases hk;exact hB.size
section
variable {ops : Array Oper} {rest : List Oper} {o : Oper} {a : Act} {Q : Exit → Act → World → Prop}
theorem ZaO {D:Nat→Prop}(w:World)(ab:o.guard=none)(s y:Operand)(ho:o.op=.call { callee:=.builtin .append,args:=#[s,y],argTypes:=#[65,65] })(v:Sl)(l:List Sb)(hs:a.eval s=.slice (some ⟨w.heap.size,0,none⟩) 0 0)(hy:a.eval y=v.val)(h:Gb D w v l)
    (hK:∀v' w',OwnB w' v' l→v'.len=v.len→Below w.heap.size w w'→(∀k,v'.blk=some k→w.heap.size≤k)→wpList Tryz.prog ops Q rest (a.put o.dst v'.val) w'):wpList Tryz.prog ops Q (o :: rest) a (w.alloc (.cells #[] 56)):=by
  refine wpList_plain ab fun K hK'=>?_;obtain⟨v',w',aa,r1,r2,r3,r4⟩:=ZhD w v l h o.type;unfold Oper.wp;simp [execOp,ho,resolve,invoke,builtin,hs,hy,aa,Result.andThen];exact hK' _ _ (hK v' w' r1 r2 r3 r4)
end
theorem Own.setCell {e:TypeId}{z:Nat}{s:Sl}{vs:List Value}(h:Own e z w s vs){off:Nat}(ha:s.a=some ⟨g,off,none⟩)(j:Nat)(u:Value):Own e z (w.setCell ⟨g,off+j,none⟩ u) s (vs.set j u):=by
 refine⟨by rw [List.length_set];exact h.1,?_⟩;rcases h.2 with ⟨h0,_⟩ | ⟨g',off',cur,ha',hg,ac,ab,aa,ht⟩
 · rw [h0] at ha;cases ha
 · rw [ha] at ha';simp only [Option.some.injEq,Addr.mk.injEq,and_true] at ha';obtain⟨rfl,rfl⟩:=ha';refine .inr ⟨g,off,_,ha,heap_setCell_same w g (off+j) cur e u hg,by simpa using ac,ab,aa,?_⟩;rw [Array.toList_setIfInBounds,List.drop_set,if_neg (by omega),Nat.add_sub_cancel_left,List.take_set,ht]
theorem Zjo (l:List Sb)(i:Nat)(x:Sb):Za2 (l.set i x)=(Za2 l).set i x.s.val:=by simp [Za2,List.map_set]
theorem ZbT (l:List Sb)(i:Nat)(x:Sb):bss (l.set i x)=(bss l).set i x.bs:=by simp [bss,List.map_set]
theorem Zea (w:World)(g off len cap:Nat)(l:List Sb)(o:OwnB w ⟨some ⟨g,off,none⟩,len,cap⟩ l)(i:Nat)(hi:i<len)(x:Sb):∃W,(Instr.storeAt 56 (.pointer (some ⟨g,off+i,none⟩)) x.s.val).run Tryz.prog w=.ok () W∧OwnB W ⟨some ⟨g,off,none⟩,len,cap⟩ (l.set i x)∧Frm (fun k=>k=g) w W:=by
 have k0:=o.cellAt rfl hi;have f0:=o.frozen rfl (off+i);refine⟨w.setCell ⟨g,off+i,none⟩ x.s.val,?_,?_,(Frm.refl (fun k=>k=g) w).setCell (p:=⟨g,off+i,none⟩) rfl _⟩
 · obtain⟨⟨sa,sl,sc⟩,bs⟩:=x;unfold Sl.val at *;simp [go_sem,Instr.storeAt,k0,f0]
 · unfold OwnB;rw [Zjo];exact Own.setCell o rfl i _
theorem LfBlk.off {p q:Nat}{u v:Value}(k:LfBlk w p u v)(hf:Frm (fun k=>k=q) w W)(aa:p≠q):LfBlk W p u v:=(hf.block _ k.lt aa).trans k
theorem ZaN (w:World)(p:Nat)(u0 v0:Value)(k:LfBlk w p u0 v0)(u v:Sl):∃W,(Instr.storeAt 67 (.pointer (some ⟨p,0,none⟩)) (lfV u v)).run Tryz.prog w=.ok () W∧LfBlk W p u.val v.val∧Frm (fun k=>k=p) w W:=by
 have c0:=k.c0;have c1:=k.c1;have f0:=k.fz 0;have f1:=k.fz 1;refine⟨(w.setCell ⟨p,0,none⟩ u.val).setCell ⟨p,1,none⟩ v.val,?_,?_,((Frm.refl (fun k=>k=p) w).setCell (p:=⟨p,0,none⟩) rfl _).setCell (p:=⟨p,1,none⟩) rfl _⟩
 · obtain⟨ua,ul,uc⟩:=u;obtain⟨va,vl,vc⟩:=v;unfold lfV Sl.val;simp [go_sem,Instr.storeAt,c0,c1,f0,f1]
 · have h1:=heap_setCell_same w p 0 _ 67 u.val k;have h2:=heap_setCell_same _ p 1 _ 67 v.val h1;unfold LfBlk;rw [h2];simp
theorem Zg7 (w:World)(p:Nat)(u0 v0:Value)(k:LfBlk w p u0 v0)(v:Sl):∃W,(Instr.storeAt 65 (.pointer (some ⟨p,1,none⟩)) v.val).run Tryz.prog w=.ok () W∧LfBlk W p u0 v.val∧Frm (fun k=>k=p) w W:=by
 have c1:=k.c1;have f1:=k.fz 1;refine⟨w.setCell ⟨p,1,none⟩ v.val,?_,?_,(Frm.refl (fun k=>k=p) w).setCell (p:=⟨p,1,none⟩) rfl _⟩
 · obtain⟨va,vl,vc⟩:=v;unfold Sl.val;simp [go_sem,Instr.storeAt,c1,f1]
 · have h2:=heap_setCell_same _ p 1 _ 67 v.val k;unfold LfBlk;rw [h2];simp
theorem ZfC {fn:Func}{x:Nat}(hr:fn.results=#[.cell x 67])(k:LfBlk W g u.val v.val)(tmps:Array Value)(ht:tmps.getD x undef=.pointer (some ⟨g,0,none⟩)):(results fn tmps).run Tryz.prog W=.ok (lfV u v) W:=by
 have c0:=k.c0;have c1:=k.c1;unfold lfV Sl.val at *;(have aa:tmps[x]?.getD undef=.pointer (some ⟨g,0,none⟩):=by simpa using ht);simp [results,hr,aa,go_sem,c0,c1]
theorem Zai {fn:Func}{x y:Nat}(hr:fn.results=#[.cell x 67,.tmp y])(k:LfBlk W g u.val v.val)(tmps:Array Value)(ht:tmps.getD x undef=.pointer (some ⟨g,0,none⟩)){z:Value}(hy:tmps.getD y undef=z):(results fn tmps).run Tryz.prog W=.ok (.tuple #[lfV u v,z]) W:=by
 have c0:=k.c0;have c1:=k.c1;unfold lfV Sl.val at *;(have aa:tmps[x]?.getD undef=.pointer (some ⟨g,0,none⟩):=by simpa using ht);(have ab:tmps[y]?.getD undef=z:=by simpa using hy);simp [results,hr,aa,ab,go_sem,c0,c1]
theorem ZgB (w:World)(u v v2:Sl):Calls Tryz.prog 107 #[lfV u v,v2.val] w fun e w'=>e=.returned (lfV u v2)∧Below w.heap.size w w':=by
 have ag:=Zaa w (.cells #[u.val,v.val] 67);have ae:=Zaa (w.alloc (.cells #[u.val,v.val] 67)) (.cells #[.slice none 0 0,.slice none 0 0] 67);have hk:=(Zaj w u.val v.val).below ae;have af:=Zaj (w.alloc (.cells #[u.val,v.val] 67)) (.slice none 0 0) (.slice none 0 0);rw [Zae] at af;obtain⟨W1,aa,k1,f1⟩:=Zg7 _ _ _ _ hk v2;have r1:=af.off f1 (by omega);obtain⟨W2,ab,k2,f2⟩:=ZaN _ _ _ _ r1 u v2;have hA:=Zad ag ae;have e1:Below w.heap.size w W1:=hA.trans (f1.below hA.size (fun k hk=>by rw [hk];exact Nat.le_refl _));have HB:Hid (Below w.heap.size w W2):=e1.trans (f2.below e1.size (fun k hk=>by rw [hk];exact Nat.le_succ _));have c0:=k1.c0;have c1:=k1.c1;have ac:=hide aa;have ad:=hide ab;have ah:=hide k2;clear ag ae hk af aa k1 f1 r1 ab k2 f2 hA e1;obtain⟨ua,ul,uc⟩:=u;obtain⟨a,len,cap⟩:=v;obtain⟨a2,len2,cap2⟩:=v2;unfold lfV Sl.val at *;simp only at *;go_enter Tryz.func107,Tryz.ntmps107;go_wp2_with (first | refine Zac _ rfl rfl 65 (.tmp 6) (.tmp 5) rfl (.pointer (some ⟨w.heap.size,1,none⟩)) (.slice a2 len2 cap2) rfl rfl W1 ac.out ?_ | refine Zac _ rfl rfl 67 (.tmp 4) (.tmp 7) rfl (.pointer (some ⟨w.heap.size+1,0,none⟩)) (.agg #[.slice ua ul uc,.slice a2 len2 cap2]) rfl rfl W2 ad.out ?_);refine bodyPost_ret (ZfC (u:=⟨ua,ul,uc⟩) (v:=⟨a2,len2,cap2⟩) rfl ah.out _ rfl) rfl ?_;exact⟨rfl,HB.out⟩
def Old (D:Nat→Prop) (w:World):Nat→Prop:=fun k=>D k∨w.heap.size≤k
theorem Cm.wide {D E:Nat→Prop}{s:Sl}{xs:List Nat}(h:Cm D w s xs)(hE:∀k,D k→E k):Cm E w s xs:=h.mono (fun k hk _=>hE k hk)
theorem Gb.wide {D E:Nat→Prop}(h:Gb D w v l)(hE:∀k,D k→E k):Gb E w v l:=
 ⟨h.len,h.nil,h.le,h.big,fun ad ha hl=>hE _ (h.home ad ha hl),h.cell,fun x hx=>⟨(h.bs x hx).1.wide hE,(h.bs x hx).2⟩⟩
theorem Gi.wide {D E:Nat→Prop}(h:Gi D w v t)(hE:∀k,D k→E k):Gi E w v t:=
 ⟨h.len,h.nil,h.le,h.big,fun ad ha hl=>hE _ (h.home ad ha hl),h.cell⟩
theorem Gb.old {D:Nat→Prop}(h:Gb D w v l)(hb:Below w.heap.size w W):Gb (Old D w) W v l:=(h.below hb (Nat.le_refl _)).wide (fun _ hk=>.inl hk)
theorem Gi.old {D:Nat→Prop}(h:Gi D w v t)(hb:Below w.heap.size w W):Gi (Old D w) W v t:=(h.below hb (Nat.le_refl _)).wide (fun _ hk=>.inl hk)
def New (D:Nat→Prop) (w:World):Nat→Prop:=fun k=>(D k∧k<w.heap.size)∨w.heap.size+2≤k
theorem Gb.told {D:Nat→Prop}(h:Gb (New D w) w1 v l)(f:Frm (fun k=>k=w.heap.size+1) w1 W):Gb (Old D w) W v l:=
 (h.keep (Kept.frm f (fun k hk e=>by rcases hk with h | h <;> omega))).wide (fun k hk=>by
  rcases hk with h | h
  · exact .inl h.1
  · exact .inr (by omega))
structure Ans where
  s:List (List Nat)
  e:Int
def setA (s:List (List Nat)) (i:Int) (r:List Nat):Ans:=
  if Zap s i=false then ⟨s,3⟩ else if r.length<1∨255<r.length then ⟨s,1⟩ else if 508<need (s.set i.toNat r) then ⟨s,7⟩ else ⟨s.set i.toNat r,0⟩
theorem Zh3 (h:Zap s i=false):setA s i r=⟨s,3⟩:=if_pos h
theorem Zje (h:Zap s i=true)(h1:r.length<1∨255<r.length):setA s i r=⟨s,1⟩:=by
 unfold setA;rw [if_neg (by simp [h]),if_pos h1]
theorem Zh4 (h:Zap s i=true)(h1:1≤r.length)(h2:r.length≤255)(h3:508<need (s.set i.toNat r)):setA s i r=⟨s,7⟩:=by
 unfold setA;rw [if_neg (by simp [h]),if_neg (by omega),if_pos h3]
theorem Zij (h:Zap s i=true)(h1:1≤r.length)(h2:r.length≤255)(h3:¬508<need (s.set i.toNat r)):setA s i r=⟨s.set i.toNat r,0⟩:=by
 unfold setA;rw [if_neg (by simp [h]),if_neg (by omega),if_neg h3]
theorem Zb2 (h:Zap s i=true):∃k:Nat,i=(k:Int)∧k<s.length:=by
 unfold Zap at h;simp only [Bool.and_eq_true,decide_eq_true_eq] at h;obtain⟨k,rfl⟩:=Int.eq_ofNat_of_zero_le h.1;exact⟨k,rfl,by omega⟩
def AnsIs (D:Nat→Prop) (w:World) (u:Sl) (x:Ans) (e:Ending) (w':World):Prop:=Below w.heap.size w w'∧∃(v':Sl) (l':List Sb),e=.returned (.tuple #[lfV u v',.int .i64 x.e])∧Gb (Old D w) w' v' l'∧bss l'=x.s
structure Tb (D:Nat→Prop) (w w1:World) (u v:Sl) (l:List Sb):Prop where
  k1:LfBlk w1 w.heap.size u.val v.val
  k2:LfBlk w1 (w.heap.size+1) (.slice none 0 0) (.slice none 0 0)
  g:Gb D w1 v l
  e:Below w.heap.size w w1
  sz:w.heap.size+2≤w1.heap.size
theorem Tb.below {D:Nat→Prop}{w2:World}(t:Tb D w w1 u v l)(hb:Below w1.heap.size w1 w2):Tb D w w2 u v l:=
 ⟨t.k1.below hb,t.k2.below hb,t.g.below hb (Nat.le_refl _),Zad t.e hb,Nat.le_trans t.sz hb.size⟩
theorem Tb.start {D:Nat→Prop}(u:Sl)(hg:Gb D w v l):Tb D w ((w.alloc (.cells #[u.val,v.val] 67)).alloc (.cells #[.slice none 0 0,.slice none 0 0] 67)) u v l:=by
 have ab:=Zaa w (.cells #[u.val,v.val] 67);have aa:=Zaa (w.alloc (.cells #[u.val,v.val] 67)) (.cells #[.slice none 0 0,.slice none 0 0] 67);have ac:=Zaj (w.alloc (.cells #[u.val,v.val] 67)) (.slice none 0 0) (.slice none 0 0);rw [Zae] at ac;exact⟨(Zaj w u.val v.val).below aa,ac,hg.below (Zad ab aa) (Nat.le_refl _),Zad ab aa,by rw [Zae,Zae];exact Nat.le_refl _⟩
theorem Tb.lay {D:Nat→Prop}(t:Tb D w w1 u v l)(s:Sl):∃W,(Instr.storeAt 67 (.pointer (some ⟨w.heap.size+1,0,none⟩)) (lfV u s)).run Tryz.prog w1=.ok () W∧LfBlk W (w.heap.size+1) u.val s.val∧Frm (fun k=>k=w.heap.size+1) w1 W∧Below w.heap.size w W:=by
 obtain⟨W,aa,k,f⟩:=ZaN w1 _ _ _ t.k2 u s;exact⟨W,aa,k,f,t.e.trans (f.below t.e.size (fun k hk=>by rw [hk];exact Nat.le_succ _))⟩
theorem ZlG {D:Nat→Prop}(w:World)(u v:Sl)(l:List Sb)(hg:Gb D w v l)(i:Int)(r:Sl)(hs:Zap (bss l) i=false) :
    Calls Tryz.prog 62 #[lfV u v,.int .i64 i,r.val] w fun e w'=>AnsIs D w u ⟨bss l,3⟩ e w':=by
  have hT:=Tb.start u hg;have ad:=hide (Zb5 _ u v l hT.g i);rw [hs] at ad;have c0:=hT.k1.c0;have c1:=hT.k1.c1;have HT:=hide hT;have aa:Hid (∀w1,Tb D w w1 u v l→∃W,(Instr.storeAt 67 (.pointer (some ⟨w.heap.size+1,0,none⟩)) (lfV u v)).run Tryz.prog w1=.ok () W∧LfBlk W (w.heap.size+1) u.val v.val∧AnsIs D w u ⟨bss l,3⟩ (.returned (.tuple #[lfV u v,.int .i64 3])) W):=by
   intro w1 t;obtain⟨W,ac,k,f,hB⟩:=t.lay v;exact⟨W,ac,k,hB,v,l,rfl,hg.old hB,rfl⟩
  clear hg hT;obtain⟨a,len,cap⟩:=v;obtain⟨ua,ul,uc⟩:=u;obtain⟨ra,rl,rc⟩:=r;unfold lfV Sl.val at *;simp only at *;go_enter Tryz.func62,Tryz.ntmps62;go_wp2_with fail;refine ad.out.mono ?_;rintro e w1 ⟨rfl,af⟩;have ab:=HT.out.below af;obtain⟨W,ac,k,hF⟩:=aa.out w1 ab;have d0:=ab.k1.c0;have d1:=ab.k1.c1;have ae:=hide ac;have HK:=hide k;have HF:=hide hF;clear ab ac k hF af aa HT ad c0 c1;unfold Sl.val at d0 d1;simp only at d0 d1;go_wp2_with (refine Zac _ rfl rfl 67 (.tmp 6) (.tmp 13) rfl (.pointer (some ⟨w.heap.size+1,0,none⟩)) (.agg #[.slice ua ul uc,.slice a len cap]) rfl rfl W ae.out ?_);refine bodyPost_ret (Zai (u:=⟨ua,ul,uc⟩) (v:=⟨a,len,cap⟩) rfl HK.out _ rfl rfl) rfl ?_;exact HF.out
theorem ZmP {D:Nat→Prop}(w:World)(u v:Sl)(l:List Sb)(hg:Gb D w v l)(i:Int)(r:Sl)(hs:Zap (bss l) i=true)(hr:r.len<1∨255<r.len) :
    Calls Tryz.prog 62 #[lfV u v,.int .i64 i,r.val] w fun e w'=>AnsIs D w u ⟨bss l,1⟩ e w':=by
  have hT:=Tb.start u hg;have ae:=hide (Zb5 _ u v l hT.g i);rw [hs] at ae;have c0:=hT.k1.c0;have c1:=hT.k1.c1;have HT:=hide hT;have aa:Hid (∀w1,Tb D w w1 u v l→∃W,(Instr.storeAt 67 (.pointer (some ⟨w.heap.size+1,0,none⟩)) (lfV u v)).run Tryz.prog w1=.ok () W∧LfBlk W (w.heap.size+1) u.val v.val∧AnsIs D w u ⟨bss l,1⟩ (.returned (.tuple #[lfV u v,.int .i64 1])) W):=by
   intro w1 t;obtain⟨W,ad,k,f,hB⟩:=t.lay v;exact⟨W,ad,k,hB,v,l,rfl,hg.old hB,rfl⟩
  clear hg hT;obtain⟨a,len,cap⟩:=v;obtain⟨ua,ul,uc⟩:=u;obtain⟨ra,rl,rc⟩:=r;unfold lfV Sl.val at *;simp only at *;by_cases h1:rl<1
  · (have i1:(rl:Int)<1:=by omega);go_enter Tryz.func62,Tryz.ntmps62;go_wp2_with fail;refine ae.out.mono ?_;rintro e w1 ⟨rfl,af⟩;have ab:=HT.out.below af;obtain⟨W,ad,k,hF⟩:=aa.out w1 ab;have d0:=ab.k1.c0;have d1:=ab.k1.c1;have ac:=hide ad;have HK:=hide k;have HF:=hide hF;clear ab ad k hF af aa HT ae c0 c1;unfold Sl.val at d0 d1;simp only at d0 d1;go_wp2_with (refine Zac _ rfl rfl 67 (.tmp 6) (.tmp 22) rfl (.pointer (some ⟨w.heap.size+1,0,none⟩)) (.agg #[.slice ua ul uc,.slice a len cap]) rfl rfl W ac.out ?_);refine bodyPost_ret (Zai (u:=⟨ua,ul,uc⟩) (v:=⟨a,len,cap⟩) rfl HK.out _ rfl rfl) rfl ?_;exact HF.out
  · (have i1:¬(rl:Int)<1:=by omega);(have i2:(255:Int)<(rl:Int):=by omega);go_enter Tryz.func62,Tryz.ntmps62;go_wp2_with fail;refine ae.out.mono ?_;rintro e w1 ⟨rfl,af⟩;have ab:=HT.out.below af;obtain⟨W,ad,k,hF⟩:=aa.out w1 ab;have d0:=ab.k1.c0;have d1:=ab.k1.c1;have ac:=hide ad;have HK:=hide k;have HF:=hide hF;clear ab ad k hF af aa HT ae c0 c1;unfold Sl.val at d0 d1;simp only at d0 d1;go_wp2_with (refine Zac _ rfl rfl 67 (.tmp 6) (.tmp 22) rfl (.pointer (some ⟨w.heap.size+1,0,none⟩)) (.agg #[.slice ua ul uc,.slice a len cap]) rfl rfl W ac.out ?_);refine bodyPost_ret (Zai (u:=⟨ua,ul,uc⟩) (v:=⟨a,len,cap⟩) rfl HK.out _ rfl rfl) rfl ?_;exact HF.out
theorem Tb.mine {D:Nat→Prop}{w2:World}(t:Tb D w w1 u v l)(hg:Gb D w v l)(hb:Below w1.heap.size w1 w2){b o len cap:Nat}(ho:OwnB w2 ⟨some ⟨b,o,none⟩,len,cap⟩ l)(hw:w1.heap.size≤b)(hl:len≤1000)(k:Nat)(hk:k<len)(x:Sb)(hx:Cm D w x.s x.bs)(ac:x.bs.length≤1000):∃W,(Instr.storeAt 56 (.pointer (some ⟨b,o+k,none⟩)) x.s.val).run Tryz.prog w2=.ok () W∧Tb D w W u v l∧Gb (New D w) W ⟨some ⟨b,o,none⟩,len,cap⟩ (l.set k x):=by
 obtain⟨W,ab,o2,f⟩:=Zea w2 b o len cap l ho k hk x;have aa:Below w1.heap.size w1 W:=hb.trans (f.below hb.size (fun k hk=>by rw [hk];exact hw));have t2:=t.below aa;have hK:Kept (New D w) w W:=Kept.all t2.e (Nat.le_refl _);refine⟨W,ab,t2,o2.gb (fun y hy=>?_) (fun k hk=>?_) hl⟩
 · rcases List.mem_or_eq_of_mem_set hy with h | rfl
   · exact⟨((hg.bs y h).1.mono (fun _ hk hl=>.inl ⟨hk,hl⟩)).keep hK,(hg.bs y h).2⟩
   · exact⟨(hx.mono (fun _ hk hl=>.inl ⟨hk,hl⟩)).keep hK,ac⟩
 · have e:some b=some k:=hk;cases e;exact .inr (Nat.le_trans t.sz hw)
theorem ZlF {D : Nat → Prop} (w : World) (u v : Sl) (l : List Sb) (hg : Gb D w v l) (k : Nat) (x : Sb) (hx : Cm D w x.s x.bs) (hs : Zap (bss l) (k : Int) = true) (h1 : 1 ≤ x.bs.length) (h2 : x.bs.length ≤ 255) (X : Ans) (hX7 : 508 < need ((bss l).set k x.bs) → X = ⟨bss l, 7⟩) (hX0 : ¬ 508 < need ((bss l).set k x.bs) → X = ⟨(bss l).set k x.bs, 0⟩) :
    Calls Tryz.prog 62 #[lfV u v, .int .i64 (k : Int), x.s.val] w fun e w' => AnsIs D w u X e w' := by
  have hT := Tb.start u hg
  have hlen := hg.len
  have hbig := hg.big
  have hkl : k < v.len := by
   obtain ⟨k', e, hk'⟩ := Zb2 hs
   rw [Zag] at hk'
   omega
  have hrl := hx.len
  have HSA := hide (Zb5 _ u v l hT.g (k : Int))
  rw [hs] at HSA
  have c0 := hT.k1.c0
  have c1 := hT.k1.c1
  have HT := hide hT
  have HMINE : Hid (∀ (w1 w2 : World) (b o cap : Nat), Tb D w w1 u v l → Below w1.heap.size w1 w2 → OwnB w2 ⟨some ⟨b, o, none⟩, v.len, cap⟩ l → w1.heap.size ≤ b → ∃ W, (Instr.storeAt 56 (.pointer (some ⟨b, o + k, none⟩)) x.s.val).run Tryz.prog w2 = .ok () W ∧ Tb D w W u v l ∧ Gb (New D w) W ⟨some ⟨b, o, none⟩, v.len, cap⟩ (l.set k x)) := fun w1 w2 b o cap t hb ho hw => t.mine hg hb ho hw hbig k hkl x hx (by omega)
  have HOLD : Hid (∀ W, Below w.heap.size w W → Gb (Old D w) W v l) := fun W hB => hg.old hB
  have HBS := hide (ZbT l k x)
  have HW := hide (fun W s => ZgB W u v s)
  have HN := hide (fun (W : World) (s : Sl) (hW : Gb (New D w) W s (l.set k x)) => ZeV W u s _ hW)
  have HX7 := hide hX7
  have HX0 := hide hX0
  clear hg hT hx hs hX7 hX0
  obtain ⟨⟨ra, rl, rc⟩, bs⟩ := x
  obtain ⟨a, len, cap⟩ := v
  obtain ⟨ua, ul, uc⟩ := u
  unfold lfV Sl.val at *
  simp only at *
  have i1 : ¬ (rl : Int) < 1 := by omega
  have i2 : ¬ (255 : Int) < (rl : Int) := by omega
  go_enter Tryz.func62, Tryz.ntmps62
  go_wp2_with fail
  refine HSA.out.mono ?_
  rintro e w1 ⟨rfl, hb1⟩
  have hT1 := HT.out.below hb1
  have d0 := hT1.k1.c0
  have d1 := hT1.k1.c1
  have d2 := (hT1.k1.below (Zaa w1 (.cells #[] 56))).c1
  have HT1 := hide hT1
  clear hT1 hb1 HT HSA c0 c1
  unfold Sl.val at d0 d1 d2
  simp only at d0 d1 d2
  go_wp2_with (at_builtin; refine ZaO _ rfl (.tmp 23) (.tmp 25) rfl ⟨a, len, cap⟩ l rfl rfl HT1.out.g ?_)
  intro v1 w2 ho hl1 hb2 hk1
  obtain ⟨b, o, ha⟩ := ho.pos (by rw [hl1]; show 0 < len; omega)
  obtain ⟨sa, sl, sc⟩ := v1
  replace ha : sa = some ⟨b, o, none⟩ := ha
  replace hl1 : len = sl := hl1.symm
  subst ha
  subst hl1
  obtain ⟨W3, hst3, t3, g3⟩ := HMINE.out w1 w2 b o sc HT1.out hb2 ho (hk1 b rfl)
  have HST3 := hide hst3
  have e0 := t3.k1.c0
  have e1 := t3.k1.c1
  have HT3 := hide t3
  have HG3 := hide g3
  have HW3 := hide (HW.out W3 ⟨some ⟨b, o, none⟩, len, sc⟩)
  clear ho hb2 hk1 hst3 t3 g3 d0 d1 d2 HT1 HMINE
  unfold Sl.val at *
  simp only at *
  go_wp2_with (refine Zac _ rfl rfl 56 (.tmp 30) (.tmp 29) rfl (.pointer (some ⟨b, o + k, none⟩)) (.slice ra rl rc) rfl rfl W3 HST3.out ?_)
  refine HW3.out.mono ?_
  rintro e w4 ⟨rfl, hb4⟩
  have HT4 := hide (HT3.out.below hb4)
  have HG4 := hide (HG3.out.below hb4 (Nat.le_refl _))
  have HN4 := hide (HN.out w4 _ HG4.out)
  rw [HBS.out] at HN4
  clear HW3 HT3 HG3 hb4 HST3 e0 e1 HN
  simp only at *
  by_cases h508 : 508 < need ((bss l).set k bs)
  · have HX := hide (HX7.out h508)
    clear HX7 HX0
    have i3 : (508 : Int) < ((need ((bss l).set k bs) : Nat) : Int) := by omega
    obtain ⟨nd, hnd⟩ : ∃ nd, nd = need ((bss l).set k bs) := ⟨_, rfl⟩
    rw [← hnd] at HN4 i3
    clear hnd h508
    go_wp2_with fail
    refine HN4.out.mono ?_
    rintro e w5 ⟨rfl, hb5⟩
    have hT5 := HT4.out.below hb5
    obtain ⟨W6, hst6, k6, f6, hB6⟩ := hT5.lay ⟨a, len, cap⟩
    have d0 := hT5.k1.c0
    have d1 := hT5.k1.c1
    have HST6 := hide hst6
    have HK6 := hide k6
    have HF : Hid (AnsIs D w ⟨ua, ul, uc⟩ X (.returned (.tuple #[lfV ⟨ua, ul, uc⟩ ⟨a, len, cap⟩, .int .i64 7])) W6) := by
     show AnsIs _ _ _ _ _ _
     rw [HX.out]
     exact ⟨hB6, _, l, rfl, HOLD.out W6 hB6, rfl⟩
    clear hT5 hst6 k6 f6 hB6 hb5 HT4 HG4 HN4 HOLD HW
    unfold lfV Sl.val at *
    simp only at *
    go_wp2_with (refine Zac _ rfl rfl 67 (.tmp 6) (.tmp 36) rfl (.pointer (some ⟨w.heap.size + 1, 0, none⟩)) (.agg #[.slice ua ul uc, .slice a len cap]) rfl rfl W6 HST6.out ?_)
    refine bodyPost_ret (Zai (u := ⟨ua, ul, uc⟩) (v := ⟨a, len, cap⟩) rfl HK6.out _ rfl rfl) rfl ?_
    exact HF.out
  · have HX := hide (HX0.out h508)
    clear HX7 HX0
    have i3 : ¬ (508 : Int) < ((need ((bss l).set k bs) : Nat) : Int) := by omega
    obtain ⟨nd, hnd⟩ : ∃ nd, nd = need ((bss l).set k bs) := ⟨_, rfl⟩
    rw [← hnd] at HN4 i3
    clear hnd h508
    go_wp2_with fail
    refine HN4.out.mono ?_
    rintro e w5 ⟨rfl, hb5⟩
    have hT5 := HT4.out.below hb5
    have HG5 := hide (HG4.out.below hb5 (Nat.le_refl _))
    have HW5 := hide (HW.out w5 ⟨some ⟨b, o, none⟩, len, sc⟩)
    have d0 := hT5.k1.c0
    have d1 := hT5.k1.c1
    have HT5 := hide hT5
    clear hT5 hb5 HT4 HG4 HN4 HOLD HW
    unfold Sl.val at d0 d1
    simp only at d0 d1 HW5
    go_wp2_with fail
    refine HW5.out.mono ?_
    rintro e w6 ⟨rfl, hb6⟩
    have hT6 := HT5.out.below hb6
    have hg6 := HG5.out.below hb6 (Nat.le_refl _)
    obtain ⟨W7, hst7, k7, f7, hB7⟩ := hT6.lay ⟨some ⟨b, o, none⟩, len, sc⟩
    have d2 := hT6.k1.c0
    have HST7 := hide hst7
    have HK7 := hide k7
    have HF : Hid (AnsIs D w ⟨ua, ul, uc⟩ X (.returned (.tuple #[lfV ⟨ua, ul, uc⟩ ⟨some ⟨b, o, none⟩, len, sc⟩, .int .i64 0])) W7) := by
     show AnsIs _ _ _ _ _ _
     rw [HX.out]
     exact ⟨hB7, _, _, rfl, hg6.told f7, HBS.out⟩
    clear hT6 hg6 hst7 k7 f7 hB7 hb6 HT5 HG5 HW5 HX d0 d1 d2
    unfold lfV Sl.val at *
    simp only at *
    go_wp2_with (refine Zac _ rfl rfl 67 (.tmp 6) (.tmp 39) rfl (.pointer (some ⟨w.heap.size + 1, 0, none⟩)) (.agg #[.slice ua ul uc, .slice (some ⟨b, o, none⟩) len sc]) rfl rfl W7 HST7.out ?_)
    refine bodyPost_ret (Zai (u := ⟨ua, ul, uc⟩) (v := ⟨some ⟨b, o, none⟩, len, sc⟩) rfl HK7.out _ rfl rfl) rfl ?_
    exact HF.out
theorem Zjd {D : Nat → Prop} (w : World) (u v : Sl) (l : List Sb) (hg : Gb D w v l) (i : Int) (x : Sb) (hx : Cm D w x.s x.bs) :
    Calls Tryz.prog 62 #[lfV u v, .int .i64 i, x.s.val] w fun e w' => AnsIs D w u (setA (bss l) i x.bs) e w' := by
  have hl := hx.len
  cases hs : Zap (bss l) i with
  | false =>
    rw [Zh3 hs]
    exact ZlG w u v l hg i x.s hs
  | true =>
    by_cases h1 : x.bs.length < 1 ∨ 255 < x.bs.length
    · rw [Zje hs h1]
      exact ZmP w u v l hg i x.s hs (by omega)
    · obtain ⟨k, rfl, hk⟩ := Zb2 hs
      exact ZlF w u v l hg k x hx hs (by omega) (by omega) _ (fun h => Zh4 hs (by omega) (by omega) h) (fun h => Zij hs (by omega) (by omega) h)
theorem Cm.none {D:Nat→Prop}(w:World):Cm D w Sl.nil []:=⟨⟨⟨rfl,fun _ h=>by simp at h,fun i hi=>absurd hi (Nat.not_lt_zero _)⟩,fun _=>rfl,Nat.le_refl _,by simp [Sl.nil]⟩,fun _ h _=>by cases h⟩
theorem Gb.take {D:Nat→Prop}(h:Gb D w v l){n:Nat}(hn:n≤v.len):Gb D w ⟨v.a,n,v.cap⟩ (l.take n):=by
 have hl:=h.len;have hc:=h.le;have hb:=h.big;refine⟨?_,h.nil,by show n≤v.cap;omega,by show n≤1000;omega,fun ad ha h0=>h.home ad ha ?_,fun i hi=>?_,fun x hx=>h.bs x (List.mem_of_mem_take hx)⟩
 · show _=n;rw [List.length_take];omega
 · have:0<n:=h0;omega
 · replace hi:i<n:=hi;obtain⟨b,off,ha,aa⟩:=h.cell i (by omega);refine⟨b,off,ha,?_⟩;rw [aa];simp [List.getD,hi]
theorem Zi5 (l:List Sb)(n:Nat):bss (l.take n)=(bss l).take n:=by simp [bss,List.map_take]
def dropA (s:List (List Nat)) (i:Int):Ans:=if Zap s i=false then ⟨s,3⟩ else ⟨trim (s.set i.toNat []),0⟩
def ZmS:Value→Nat
  | .slice _ n _=>n
  | _=>0
theorem Zih {D:Nat→Prop}(w:World)(u v:Sl)(l:List Sb)(hg:Gb D w v l)(i:Int)(hs:Zap (bss l) i=false) :
    Calls Tryz.prog 63 #[lfV u v,.int .i64 i] w fun e w'=>AnsIs D w u ⟨bss l,3⟩ e w':=by
  have hT:=Tb.start u hg;have ad:=hide (Zb5 _ u v l hT.g i);rw [hs] at ad;have c0:=hT.k1.c0;have c1:=hT.k1.c1;have HT:=hide hT;have aa:Hid (∀w1,Tb D w w1 u v l→∃W,(Instr.storeAt 67 (.pointer (some ⟨w.heap.size+1,0,none⟩)) (lfV u v)).run Tryz.prog w1=.ok () W∧LfBlk W (w.heap.size+1) u.val v.val∧AnsIs D w u ⟨bss l,3⟩ (.returned (.tuple #[lfV u v,.int .i64 3])) W):=by
   intro w1 t;obtain⟨W,ac,k,f,hB⟩:=t.lay v;exact⟨W,ac,k,hB,v,l,rfl,hg.old hB,rfl⟩
  clear hg hT;obtain⟨a,len,cap⟩:=v;obtain⟨ua,ul,uc⟩:=u;unfold lfV Sl.val at *;simp only at *;go_enter Tryz.func63,Tryz.ntmps63;go_wp2_with fail;refine ad.out.mono ?_;rintro e w1 ⟨rfl,af⟩;have ab:=HT.out.below af;obtain⟨W,ac,k,hF⟩:=aa.out w1 ab;have d0:=ab.k1.c0;have d1:=ab.k1.c1;have ae:=hide ac;have HK:=hide k;have HF:=hide hF;clear ab ac k hF af aa HT ad c0 c1;unfold Sl.val at d0 d1;simp only at d0 d1;go_wp2_with (refine Zac _ rfl rfl 67 (.tmp 4) (.tmp 11) rfl (.pointer (some ⟨w.heap.size+1,0,none⟩)) (.agg #[.slice ua ul uc,.slice a len cap]) rfl rfl W ae.out ?_);refine bodyPost_ret (Zai (u:=⟨ua,ul,uc⟩) (v:=⟨a,len,cap⟩) rfl HK.out _ rfl rfl) rfl ?_;exact HF.out
theorem Zig {D : Nat → Prop} (w : World) (u v : Sl) (l : List Sb) (hg : Gb D w v l) (k : Nat) (hs : Zap (bss l) (k : Int) = true) :
    Calls Tryz.prog 63 #[lfV u v, .int .i64 (k : Int)] w fun e w' => AnsIs D w u ⟨trim ((bss l).set k []), 0⟩ e w' := by
  have hT := Tb.start u hg
  have hlen := hg.len
  have hbig := hg.big
  have hkl : k < v.len := by
   obtain ⟨k', e, hk'⟩ := Zb2 hs
   rw [Zag] at hk'
   omega
  have HSA := hide (Zb5 _ u v l hT.g (k : Int))
  rw [hs] at HSA
  have c0 := hT.k1.c0
  have c1 := hT.k1.c1
  have HT := hide hT
  have HMINE : Hid (∀ (w1 w2 : World) (b o cap : Nat), Tb D w w1 u v l → Below w1.heap.size w1 w2 → OwnB w2 ⟨some ⟨b, o, none⟩, v.len, cap⟩ l → w1.heap.size ≤ b → ∃ W, (Instr.storeAt 56 (.pointer (some ⟨b, o + k, none⟩)) (.slice none 0 0)).run Tryz.prog w2 = .ok () W ∧ Tb D w W u v l ∧ Gb (New D w) W ⟨some ⟨b, o, none⟩, v.len, cap⟩ (l.set k Sb.zero)) := fun w1 w2 b o cap t hb ho hw => t.mine hg hb ho hw hbig k hkl Sb.zero (Cm.none w) (by simp [Sb.zero])
  have hbs : bss (l.set k Sb.zero) = (bss l).set k [] := ZbT l k Sb.zero
  obtain ⟨l2, hl2⟩ : ∃ l2, l2 = l.set k Sb.zero := ⟨_, rfl⟩
  have hlen2 : l2.length = v.len := by rw [hl2, List.length_set]; exact hlen
  rw [← hl2] at HMINE hbs
  rw [← hbs]
  have HW := hide (fun W s => ZgB W u v s)
  clear hg hT hs hl2 hbs
  obtain ⟨a, len, cap⟩ := v
  obtain ⟨ua, ul, uc⟩ := u
  unfold lfV Sl.val at *
  simp only at *
  go_enter Tryz.func63, Tryz.ntmps63
  go_wp2_with fail
  refine HSA.out.mono ?_
  rintro e w1 ⟨rfl, hb1⟩
  have hT1 := HT.out.below hb1
  have d0 := hT1.k1.c0
  have d1 := hT1.k1.c1
  have d2 := (hT1.k1.below (Zaa w1 (.cells #[] 56))).c1
  have HT1 := hide hT1
  clear hT1 hb1 HT HSA c0 c1
  unfold Sl.val at d0 d1 d2
  simp only at d0 d1 d2
  go_wp2_with (at_builtin; refine ZaO _ rfl (.tmp 12) (.tmp 14) rfl ⟨a, len, cap⟩ l rfl rfl HT1.out.g ?_)
  intro v1 w2 ho hl1 hb2 hk1
  obtain ⟨b, o, ha⟩ := ho.pos (by rw [hl1]; show 0 < len; omega)
  obtain ⟨sa, sn, sc⟩ := v1
  replace ha : sa = some ⟨b, o, none⟩ := ha
  replace hl1 : len = sn := hl1.symm
  subst ha
  subst hl1
  have hlc : len ≤ sc := ho.lecap
  obtain ⟨W3, hst3, t3, g3⟩ := HMINE.out w1 w2 b o sc HT1.out hb2 ho (hk1 b rfl)
  have HST3 := hide hst3
  have HT3 := hide t3
  have HG3 := hide g3
  clear ho hb2 hk1 hst3 t3 g3 d0 d1 d2 HT1 HMINE
  unfold Sl.val at *
  simp only at *
  go_wp2_with (refine Zac _ rfl rfl 56 (.tmp 18) (.const (.slice none 0 0)) rfl (.pointer (some ⟨b, o + k, none⟩)) (.slice none 0 0) rfl rfl W3 HST3.out ?_)
  go_loopw [6] (fun sv wr => wr = W3 ∧ ∃ n : Nat, n ≤ len ∧ sv = .slice (some ⟨b, o, none⟩) n sc ∧ Hid (cutN (bss l2) n = cutN (bss l2) len)) (fun sv _ => ZmS sv)
  case atStart => exact ⟨rfl, len, Nat.le_refl _, rfl, rfl⟩
  case round =>
   obtain ⟨rfl, n, hn, rfl, hc⟩ := hrel
   have HEND : Hid (n = cutN (bss l2) len → ∀ w6 : World, Below wr.heap.size wr w6 → ∃ W7, (Instr.storeAt 67 (.pointer (some ⟨w.heap.size + 1, 0, none⟩)) (.agg #[.slice ua ul uc, .slice (some ⟨b, o, none⟩) n sc])).run Tryz.prog w6 = .ok () W7 ∧ LfBlk W7 (w.heap.size + 1) (.slice ua ul uc) (.slice (some ⟨b, o, none⟩) n sc) ∧ AnsIs D w ⟨ua, ul, uc⟩ ⟨trim (bss l2), 0⟩ (.returned (.tuple #[lfV ⟨ua, ul, uc⟩ ⟨some ⟨b, o, none⟩, n, sc⟩, .int .i64 0])) W7) := by
    intro hcut w6 hb6
    obtain ⟨W7, hst7, k7, f7, hB7⟩ := (HT3.out.below hb6).lay ⟨some ⟨b, o, none⟩, n, sc⟩
    have g6 := (HG3.out.below hb6 (Nat.le_refl _)).take (n := n) hn
    refine ⟨W7, hst7, k7, hB7, _, _, rfl, g6.told f7, ?_⟩
    rw [Zi5]
    unfold trim
    rw [Zag, hlen2, ← hcut]
   have HWn := hide (HW.out wr ⟨some ⟨b, o, none⟩, n, sc⟩)
   simp only at HWn
   have e0 := HT3.out.k1.c0
   have e1 := HT3.out.k1.c1
   unfold Sl.val at e0 e1
   simp only at e0 e1
   cases n with
   | zero =>
    have HQ := hide (HEND.out hc.out)
    clear HEND HW HT3 HG3 HST3
    go_wp2_with fail
    refine HWn.out.mono ?_
    rintro e w6 ⟨rfl, hb6⟩
    obtain ⟨W7, hst7, k7, hF⟩ := HQ.out w6 hb6
    have HST7 := hide hst7
    have HK7 := hide k7
    have HF := hide hF
    clear hst7 k7 hF HQ HWn hb6 e0 e1
    unfold lfV Sl.val at *
    simp only at *
    go_wp2_with (refine Zac _ rfl rfl 67 (.tmp 4) (.tmp 39) rfl (.pointer (some ⟨w.heap.size + 1, 0, none⟩)) (.agg #[.slice ua ul uc, .slice (some ⟨b, o, none⟩) 0 sc]) rfl rfl W7 HST7.out ?_)
    refine bodyPost_ret (Zai (u := ⟨ua, ul, uc⟩) (v := ⟨some ⟨b, o, none⟩, 0, sc⟩) rfl HK7.out _ rfl rfl) rfl ?_
    exact HF.out
   | succ m =>
    obtain ⟨bb, oo, ha, cm⟩ := HG3.out.cell m (by show m < len; omega)
    simp only [Option.some.injEq, Addr.mk.injEq, and_true] at ha
    obtain ⟨rfl, rfl⟩ := ha
    obtain ⟨_, hsl, h1000⟩ := HG3.out.at (i := m) (by show m < len; omega)
    obtain ⟨⟨xa, xn, xc⟩, hxb⟩ : ∃ s, s = (l2.getD m Sb.zero).s := ⟨_, rfl⟩
    rw [← hxb] at cm hsl
    unfold Sl.val at cm
    simp only at cm hsl
    have hxn : xn ≤ 1000 := by omega
    have i1 : (0 : Int) < ((m + 1 : Nat) : Int) := by omega
    have i4 : (((m + 1 : Nat) : Int) - 1) = (m : Int) := by omega
    by_cases hx0 : xn = 0
    · have HC : Hid (cutN (bss l2) m = cutN (bss l2) len) := by
       have h := hc.out
       rw [cutN, if_pos (by omega)] at h
       exact h
      subst hx0
      clear HEND HW HT3 HG3 HST3 HWn hsl h1000 hxb hc
      go_wp2_with fail
      go_roundw
      case rel => exact ⟨trivial, m, by omega, by first | rfl | go_num | simp, HC⟩
      case measure => simp [ZmS]
    · have i2 : ¬ (xn : Int) = 0 := by omega
      have HQ : Hid (∀ w6 : World, _) := HEND.out (by
       have h := hc.out
       rw [cutN, if_neg (by omega)] at h
       exact h)
      clear HEND HW HT3 HG3 HST3 hsl h1000 hxb hc
      go_wp2_with fail
      refine HWn.out.mono ?_
      rintro e w6 ⟨rfl, hb6⟩
      obtain ⟨W7, hst7, k7, hF⟩ := HQ.out w6 hb6
      have HST7 := hide hst7
      have HK7 := hide k7
      have HF := hide hF
      clear hst7 k7 hF HQ HWn hb6 e0 e1
      unfold lfV Sl.val at *
      simp only at *
      go_wp2_with (refine Zac _ rfl rfl 67 (.tmp 4) (.tmp 39) rfl (.pointer (some ⟨w.heap.size + 1, 0, none⟩)) (.agg #[.slice ua ul uc, .slice (some ⟨b, o, none⟩) (m + 1) sc]) rfl rfl W7 HST7.out ?_)
      refine bodyPost_ret (Zai (u := ⟨ua, ul, uc⟩) (v := ⟨some ⟨b, o, none⟩, m + 1, sc⟩) rfl HK7.out _ rfl rfl) rfl ?_
      exact HF.out
theorem ZfM {D : Nat → Prop} (w : World) (u v : Sl) (l : List Sb) (hg : Gb D w v l) (i : Int) :
    Calls Tryz.prog 63 #[lfV u v, .int .i64 i] w fun e w' => AnsIs D w u (dropA (bss l) i) e w' := by
  cases hs : Zap (bss l) i with
  | false =>
    have e : dropA (bss l) i = ⟨bss l, 3⟩ := if_pos hs
    rw [e]
    exact Zih w u v l hg i hs
  | true =>
    obtain ⟨k, rfl, hk⟩ := Zb2 hs
    have e : dropA (bss l) (k : Int) = ⟨trim ((bss l).set k []), 0⟩ := if_neg (by simp [hs])
    rw [e]
    exact Zig w u v l hg k hs
end Go.Proofs.YtdojdcncncgncaaGreat
