/-
  Lemmas.
-/
import Derived.Test.YtiecfcjlhldhdaaGreatKead
namespace Go.Proofs.YtiecfcjlhldhdaaGreat
open Go.RowKit
set_option linter.unusedVariables false
set_option linter.unusedSimpArgs false
set_option maxRecDepth 100000
set_option maxHeartbeats 4000000
variable {w W w1:World}{v u:Sl}{l:List Sb}{g x:Nat}{fn:Func}
theorem ZlI:(Tryz.prog.info? 107).map (fun i=>(i.zero,i.size,i.bytes))=some (some (.slice none 0 0),1,24):=by kernel_rfl
def ZaU (l:List Sb):List Value:=l.map fun x=>x.s.val
theorem Zd0 (l:List Sb):∀u∈ZaU l,u.oneCell'=true:=by
 intro u hu;obtain⟨i,_,rfl⟩:=List.mem_map.1 hu;rfl
theorem Zfl {i:Nat}(h:i<l.length):(ZaU l)[i]? = some (l.getD i Sb.zero).s.val:=by simp [ZaU,List.getD,h]
theorem ZbM (l:List Sb):(ZaU l).length=l.length:=by simp [ZaU]
def OwnB (w:World) (v:Sl) (l:List Sb):Prop:=Own 107 1 w v (ZaU l)
theorem OwnB.len (h:OwnB w v l):l.length=v.len:=by
 have:=h.1;rw [ZbM] at this;omega
theorem OwnB.new (w:World):OwnB (w.alloc (.cells #[] 107)) ⟨some ⟨w.heap.size,0,none⟩,0,0⟩ []:=
 ⟨rfl,.inr ⟨w.heap.size,0,_,rfl,heap_alloc_new w _,by simp,Nat.le_refl _,by simp,rfl⟩⟩
theorem OwnB.cellAt (h:OwnB w v l){off:Nat}(ha:v.a=some ⟨g,off,none⟩){i:Nat}(hi:i<v.len):w.cell? ⟨g,off+i,none⟩=some (l.getD i Sb.zero).s.val:=by
 have:=h.cell ha i _ (Zfl (by rw [h.len];exact hi));rwa [Addr.add_lit] at this
theorem OwnB.frozen (h:OwnB w v l){off:Nat}(ha:v.a=some ⟨g,off,none⟩)(o:Nat):w.frozen? ⟨g,o,none⟩=false:=by
 obtain⟨cur,hc⟩:=h.kind (k:=g) (by rw [Sl.blk,ha];rfl);exact frozen_of_row w g _ cur 107 hc
theorem OwnB.pos (h:OwnB w v l)(hp:0<v.len):∃g off,v.a=some ⟨g,off,none⟩:=by
 rcases h.2 with ⟨h0,_⟩ | ⟨g,off,cur,ha,_⟩
 · rw [h0] at hp;exact absurd hp (Nat.not_lt_zero _)
 · exact⟨g,off,ha⟩
theorem OwnB.gb {D:Nat→Prop}(h:OwnB w v l)(hb:∀x∈l,Cm D w x.s x.bs∧x.bs.length≤1000)(hD:∀k,v.blk=some k→D k)(hm:v.len≤1000):Gb D w v l:=by
 refine⟨h.len,h.nilcap,h.lecap,hm,fun ad ha _=>hD _ (by rw [Sl.blk,ha];rfl),fun i hi=>?_,hb⟩;obtain⟨g,off,ha⟩:=h.pos (by omega);exact⟨g,off,ha,h.cellAt ha hi⟩
theorem Gb.src {D:Nat→Prop}(h:Gb D w v l):Src Tryz.prog 1 99 v.val v.len (ZaU l) w:=by
 obtain⟨a,len,cap⟩:=v;have hl:l.length=len:=h.len;cases a with
 | none =>
  have hc:cap=0:=h.nil rfl;(have h0:len=0:=by have:len≤cap:=h.le;omega);subst hc;subst h0;have:l=[]:=List.eq_nil_of_length_eq_zero hl;subst this;exact Src.ofNil w Tryz.underlying99 0
 | some ad =>
  refine Src.ofSlice w Tryz.underlying99 ad len cap (ZaU l) (by rw [ZbM,hl,Nat.mul_one]) (fun j u hj=>?_) (Zd0 l);have aa:j<l.length:=by
   have:=(List.getElem?_eq_some_iff.1 hj).1;rwa [ZbM] at this
  obtain⟨b,off,e,c0⟩:=h.cell j (by show j<len;omega);obtain rfl:=Option.some.inj e;rw [Addr.add_lit,c0,← Zfl aa,hj]
theorem ZhO {D:Nat→Prop}(w:World)(v:Sl)(l:List Sb)(h:Gb D w v l)(ty:TypeId) :
    ∃v' w',(Builtin.append_ #[99,99] ty #[.slice (some ⟨w.heap.size,0,none⟩) 0 0,v.val]).run Tryz.prog (w.alloc (.cells #[] 107))=.ok v'.val w'∧OwnB w' v' l∧v'.len=v.len∧Below w.heap.size w w'∧∀k,v'.blk=some k→w.heap.size≤k:=by
  have hB:=Zaa w (.cells #[] 107);have h1:=(h.below hB (Nat.le_refl _)).src;obtain⟨v',w',ab,ho,aa,hf,ac⟩:=Zax Tryz.underlying99 ZlI rfl (by decide) _ ⟨some ⟨w.heap.size,0,none⟩,0,0⟩ [] (OwnB.new w) (fun _ h=>by cases h) _ v.len (ZaU l) h1 (by have:=h.big;show 0+v.len≤_;omega) ty;refine⟨v',w',ab,ho,by rw [aa];exact Nat.zero_add _,hB.trans (hf.below hB.size (fun k hk=>?_)),fun k hk=>?_⟩
  · have:some w.heap.size=some k:=hk;cases this;exact Nat.le_refl _
  · rcases ac with e | ⟨e,_⟩
    · rw [e] at hk;have:some w.heap.size=some k:=hk;cases this;exact Nat.le_refl _
    · rw [e] at hk;cases hk;exact hB.size
section
variable {ops : Array Oper} {rest : List Oper} {o : Oper} {a : Act} {Q : Exit → Act → World → Prop}
theorem Zb1 {D:Nat→Prop}(w:World)(ab:o.guard=none)(s y:Operand)(ho:o.op=.call { callee:=.builtin .append,args:=#[s,y],argTypes:=#[99,99] })(v:Sl)(l:List Sb)(hs:a.eval s=.slice (some ⟨w.heap.size,0,none⟩) 0 0)(hy:a.eval y=v.val)(h:Gb D w v l)
    (hK:∀v' w',OwnB w' v' l→v'.len=v.len→Below w.heap.size w w'→(∀k,v'.blk=some k→w.heap.size≤k)→wpList Tryz.prog ops Q rest (a.put o.dst v'.val) w'):wpList Tryz.prog ops Q (o :: rest) a (w.alloc (.cells #[] 107)):=by
  refine wpList_plain ab fun K hK'=>?_;obtain⟨v',w',aa,r1,r2,r3,r4⟩:=ZhO w v l h o.type;unfold Oper.wp;simp [execOp,ho,resolve,invoke,builtin,hs,hy,aa,Result.andThen];exact hK' _ _ (hK v' w' r1 r2 r3 r4)
end
theorem Own.setCell {e:TypeId}{z:Nat}{s:Sl}{vs:List Value}(h:Own e z w s vs){off:Nat}(ha:s.a=some ⟨g,off,none⟩)(j:Nat)(u:Value):Own e z (w.setCell ⟨g,off+j,none⟩ u) s (vs.set j u):=by
 refine⟨by rw [List.length_set];exact h.1,?_⟩;rcases h.2 with ⟨h0,_⟩ | ⟨g',off',cur,ha',hg,ac,ab,aa,ht⟩
 · rw [h0] at ha;cases ha
 · rw [ha] at ha';simp only [Option.some.injEq,Addr.mk.injEq,and_true] at ha';obtain⟨rfl,rfl⟩:=ha';refine .inr ⟨g,off,_,ha,heap_setCell_same w g (off+j) cur e u hg,by simpa using ac,ab,aa,?_⟩;rw [Array.toList_setIfInBounds,List.drop_set,if_neg (by omega),Nat.add_sub_cancel_left,List.take_set,ht]
theorem ZjJ (l:List Sb)(i:Nat)(x:Sb):ZaU (l.set i x)=(ZaU l).set i x.s.val:=by simp [ZaU,List.map_set]
theorem Zlm (l:List Sb)(i:Nat)(x:Sb):bss (l.set i x)=(bss l).set i x.bs:=by simp [bss,List.map_set]
theorem ZpC (w:World)(g off len cap:Nat)(l:List Sb)(o:OwnB w ⟨some ⟨g,off,none⟩,len,cap⟩ l)(i:Nat)(hi:i<len)(x:Sb):∃W,(Instr.storeAt 107 (.pointer (some ⟨g,off+i,none⟩)) x.s.val).run Tryz.prog w=.ok () W∧OwnB W ⟨some ⟨g,off,none⟩,len,cap⟩ (l.set i x)∧Frm (fun k=>k=g) w W:=by
 have k0:=o.cellAt rfl hi;have f0:=o.frozen rfl (off+i);refine⟨w.setCell ⟨g,off+i,none⟩ x.s.val,?_,?_,(Frm.refl (fun k=>k=g) w).setCell (p:=⟨g,off+i,none⟩) rfl _⟩
 · obtain⟨⟨sa,sl,sc⟩,bs⟩:=x;unfold Sl.val at *;simp [go_sem,Instr.storeAt,k0,f0]
 · unfold OwnB;rw [ZjJ];exact Own.setCell o rfl i _
theorem LfBlk.off {p q:Nat}{u v:Value}(k:LfBlk w p u v)(hf:Frm (fun k=>k=q) w W)(aa:p≠q):LfBlk W p u v:=(hf.block _ k.lt aa).trans k
theorem Zg2 (w:World)(p:Nat)(u0 v0:Value)(k:LfBlk w p u0 v0)(u v:Sl):∃W,(Instr.storeAt 101 (.pointer (some ⟨p,0,none⟩)) (lfV u v)).run Tryz.prog w=.ok () W∧LfBlk W p u.val v.val∧Frm (fun k=>k=p) w W:=by
 have c0:=k.c0;have c1:=k.c1;have f0:=k.fz 0;have f1:=k.fz 1;refine⟨(w.setCell ⟨p,0,none⟩ u.val).setCell ⟨p,1,none⟩ v.val,?_,?_,((Frm.refl (fun k=>k=p) w).setCell (p:=⟨p,0,none⟩) rfl _).setCell (p:=⟨p,1,none⟩) rfl _⟩
 · obtain⟨ua,ul,uc⟩:=u;obtain⟨va,vl,vc⟩:=v;unfold lfV Sl.val;simp [go_sem,Instr.storeAt,c0,c1,f0,f1]
 · have h1:=heap_setCell_same w p 0 _ 101 u.val k;have h2:=heap_setCell_same _ p 1 _ 101 v.val h1;unfold LfBlk;rw [h2];simp
theorem Zoh (w:World)(p:Nat)(u0 v0:Value)(k:LfBlk w p u0 v0)(v:Sl):∃W,(Instr.storeAt 99 (.pointer (some ⟨p,1,none⟩)) v.val).run Tryz.prog w=.ok () W∧LfBlk W p u0 v.val∧Frm (fun k=>k=p) w W:=by
 have c1:=k.c1;have f1:=k.fz 1;refine⟨w.setCell ⟨p,1,none⟩ v.val,?_,?_,(Frm.refl (fun k=>k=p) w).setCell (p:=⟨p,1,none⟩) rfl _⟩
 · obtain⟨va,vl,vc⟩:=v;unfold Sl.val;simp [go_sem,Instr.storeAt,c1,f1]
 · have h2:=heap_setCell_same _ p 1 _ 101 v.val k;unfold LfBlk;rw [h2];simp
theorem Zks (hr:fn.results=#[.cell x 101])(k:LfBlk W g u.val v.val)(tmps:Array Value)(ht:tmps.getD x undef=.pointer (some ⟨g,0,none⟩)):(results fn tmps).run Tryz.prog W=.ok (lfV u v) W:=by
 have c0:=k.c0;have c1:=k.c1;unfold lfV Sl.val at *;(have aa:tmps[x]?.getD undef=.pointer (some ⟨g,0,none⟩):=by simpa using ht);simp [results,hr,aa,go_sem,c0,c1]
theorem Zbd {y:Nat}(hr:fn.results=#[.cell x 101,.tmp y])(k:LfBlk W g u.val v.val)(tmps:Array Value)(ht:tmps.getD x undef=.pointer (some ⟨g,0,none⟩)){z:Value}(hy:tmps.getD y undef=z):(results fn tmps).run Tryz.prog W=.ok (.tuple #[lfV u v,z]) W:=by
 have c0:=k.c0;have c1:=k.c1;unfold lfV Sl.val at *;(have aa:tmps[x]?.getD undef=.pointer (some ⟨g,0,none⟩):=by simpa using ht);(have ab:tmps[y]?.getD undef=z:=by simpa using hy);simp [results,hr,aa,ab,go_sem,c0,c1]
theorem Zor (w:World)(u v v2:Sl):Calls Tryz.prog 101 #[lfV u v,v2.val] w fun e w'=>e=.returned (lfV u v2)∧Below w.heap.size w w':=by
 have ag:=Zaa w (.cells #[u.val,v.val] 101);have ae:=Zaa (w.alloc (.cells #[u.val,v.val] 101)) (.cells #[.slice none 0 0,.slice none 0 0] 101);have hk:=(Za6 w u.val v.val).below ae;have af:=Za6 (w.alloc (.cells #[u.val,v.val] 101)) (.slice none 0 0) (.slice none 0 0);rw [Zae] at af;obtain⟨W1,aa,k1,f1⟩:=Zoh _ _ _ _ hk v2;have r1:=af.off f1 (by omega);obtain⟨W2,ab,k2,f2⟩:=Zg2 _ _ _ _ r1 u v2;have hA:=Zac ag ae;have e1:Below w.heap.size w W1:=hA.trans (f1.below hA.size (fun k hk=>by rw [hk];exact Nat.le_refl _));have HB:Hid (Below w.heap.size w W2):=e1.trans (f2.below e1.size (fun k hk=>by rw [hk];exact Nat.le_succ _));have c0:=k1.c0;have c1:=k1.c1;have ac:=hide aa;have ad:=hide ab;have ah:=hide k2;clear ag ae hk af aa k1 f1 r1 ab k2 f2 hA e1;obtain⟨ua,ul,uc⟩:=u;obtain⟨a,len,cap⟩:=v;obtain⟨a2,len2,cap2⟩:=v2;unfold lfV Sl.val at *;simp only at *;go_enter Tryz.func101,Tryz.ntmps101;go_wp2_with (first | refine Zad _ rfl rfl 99 (.tmp 6) (.tmp 5) rfl (.pointer (some ⟨w.heap.size,1,none⟩)) (.slice a2 len2 cap2) rfl rfl W1 ac.out ?_ | refine Zad _ rfl rfl 101 (.tmp 4) (.tmp 7) rfl (.pointer (some ⟨w.heap.size+1,0,none⟩)) (.agg #[.slice ua ul uc,.slice a2 len2 cap2]) rfl rfl W2 ad.out ?_);refine bodyPost_ret (Zks (u:=⟨ua,ul,uc⟩) (v:=⟨a2,len2,cap2⟩) rfl ah.out _ rfl) rfl ?_;exact⟨rfl,HB.out⟩
def Old (D:Nat→Prop) (w:World):Nat→Prop:=fun k=>D k∨w.heap.size≤k
theorem Cm.wide {D E:Nat→Prop}{s:Sl}{xs:List Nat}(h:Cm D w s xs)(hE:∀k,D k→E k):Cm E w s xs:=h.mono (fun k hk _=>hE k hk)
theorem Gb.wide {D E:Nat→Prop}(h:Gb D w v l)(hE:∀k,D k→E k):Gb E w v l:=
 ⟨h.len,h.nil,h.le,h.big,fun ad ha hl=>hE _ (h.home ad ha hl),h.cell,fun x hx=>⟨(h.bs x hx).1.wide hE,(h.bs x hx).2⟩⟩
theorem Gi.wide {D E:Nat→Prop}{t:List Int}(h:Gi D w v t)(hE:∀k,D k→E k):Gi E w v t:=
 ⟨h.len,h.nil,h.le,h.big,fun ad ha hl=>hE _ (h.home ad ha hl),h.cell⟩
theorem Gb.old {D:Nat→Prop}(h:Gb D w v l)(hb:Below w.heap.size w W):Gb (Old D w) W v l:=(h.below hb (Nat.le_refl _)).wide (fun _ hk=>.inl hk)
theorem Gi.old {D:Nat→Prop}{t:List Int}(h:Gi D w v t)(hb:Below w.heap.size w W):Gi (Old D w) W v t:=(h.below hb (Nat.le_refl _)).wide (fun _ hk=>.inl hk)
def New (D:Nat→Prop) (w:World):Nat→Prop:=fun k=>(D k∧k<w.heap.size)∨w.heap.size+2≤k
theorem Gb.told {D:Nat→Prop}(h:Gb (New D w) w1 v l)(f:Frm (fun k=>k=w.heap.size+1) w1 W):Gb (Old D w) W v l:=
 (h.keep (Kept.frm f (fun k hk e=>by rcases hk with h | h <;> omega))).wide (fun k hk=>by
  rcases hk with h | h
  · exact .inl h.1
  · exact .inr (by omega))
structure Tb (D:Nat→Prop) (w w1:World) (u v:Sl) (l:List Sb):Prop where
  k1:LfBlk w1 w.heap.size u.val v.val
  k2:LfBlk w1 (w.heap.size+1) (.slice none 0 0) (.slice none 0 0)
  g:Gb D w1 v l
  e:Below w.heap.size w w1
  sz:w.heap.size+2≤w1.heap.size
theorem Tb.below {D:Nat→Prop}{w2:World}(t:Tb D w w1 u v l)(hb:Below w1.heap.size w1 w2):Tb D w w2 u v l:=
 ⟨t.k1.below hb,t.k2.below hb,t.g.below hb (Nat.le_refl _),Zac t.e hb,Nat.le_trans t.sz hb.size⟩
theorem Tb.start {D:Nat→Prop}(u:Sl)(hg:Gb D w v l):Tb D w ((w.alloc (.cells #[u.val,v.val] 101)).alloc (.cells #[.slice none 0 0,.slice none 0 0] 101)) u v l:=by
 have ab:=Zaa w (.cells #[u.val,v.val] 101);have aa:=Zaa (w.alloc (.cells #[u.val,v.val] 101)) (.cells #[.slice none 0 0,.slice none 0 0] 101);have ac:=Za6 (w.alloc (.cells #[u.val,v.val] 101)) (.slice none 0 0) (.slice none 0 0);rw [Zae] at ac;exact⟨(Za6 w u.val v.val).below aa,ac,hg.below (Zac ab aa) (Nat.le_refl _),Zac ab aa,by rw [Zae,Zae];exact Nat.le_refl _⟩
theorem Tb.lay {D:Nat→Prop}(t:Tb D w w1 u v l)(s:Sl):∃W,(Instr.storeAt 101 (.pointer (some ⟨w.heap.size+1,0,none⟩)) (lfV u s)).run Tryz.prog w1=.ok () W∧LfBlk W (w.heap.size+1) u.val s.val∧Frm (fun k=>k=w.heap.size+1) w1 W∧Below w.heap.size w W:=by
 obtain⟨W,aa,k,f⟩:=Zg2 w1 _ _ _ t.k2 u s;exact⟨W,aa,k,f,t.e.trans (f.below t.e.size (fun k hk=>by rw [hk];exact Nat.le_succ _))⟩
theorem Cm.none {D:Nat→Prop}(w:World):Cm D w Sl.nil []:=⟨⟨⟨rfl,fun _ h=>by simp at h,fun i hi=>absurd hi (Nat.not_lt_zero _)⟩,fun _=>rfl,Nat.le_refl _,by simp [Sl.nil]⟩,fun _ h _=>by cases h⟩
def ZqL:Value→Nat
  | .slice _ n _=>n
  | _=>0
theorem Zov {s:List (List Nat)}{n:Nat}(h:∀j,j<n→(sl s j).length≠0)(hn:n=s.length∨n<s.length∧(sl s n).length=0):atE s=n:=by
 rcases Ze1 s with ⟨e,aa⟩ | ⟨ab,h0,aa⟩
 · rcases hn with rfl | ⟨h1,h2⟩
   · exact e
   · exact absurd h2 (aa n h1)
 · rcases Nat.lt_trichotomy (atE s) n with h1 | h1 | h1
   · exact absurd h0 (h _ h1)
   · exact h1
   · rcases hn with rfl | ⟨_,h2⟩
     · omega
     · exact absurd h2 (aa n h1)
theorem ZhR (w:World)(v:Sl)(l:List Sb)(h:OwnB w v l)(hl:v.len≤1000){B:Nat}(hB:B≤w.heap.size)(hk:∀k,v.blk=some k→B≤k)(ty:TypeId) :
    ∃v' w',(Builtin.append_ #[99,99] ty #[v.val,.slice (some ⟨w.heap.size,0,none⟩) 1 1]).run Tryz.prog (w.alloc (.cells #[.slice none 0 0] 107))=.ok v'.val w'∧OwnB w' v' (l ++ [Sb.zero])∧v'.len=v.len+1∧Below B w w'∧∀k,v'.blk=some k→B≤k:=by
  have hA:=Zaa w (.cells #[.slice none 0 0] 107);have h1:OwnB (w.alloc (.cells #[.slice none 0 0] 107)) v l:=Own.frame h (fun k hk'=>hA.block k (Own.lt h hk'));have hs:Src Tryz.prog 1 99 (.slice (some ⟨w.heap.size,0,none⟩) 1 1) 1 (ZaU [Sb.zero]) (w.alloc (.cells #[.slice none 0 0] 107)):=by
   refine Src.ofSlice _ Tryz.underlying99 _ 1 1 (ZaU [Sb.zero]) rfl (fun j u hj=>?_) (Zd0 _);cases j with
   | zero =>
    have e:Value.slice none 0 0=u:=Option.some.inj hj;subst e;have hn:=heap_alloc_new w (.cells #[.slice none 0 0] 107);rw [Addr.add_lit];simp only [World.cell?];rw [hn];rfl
   | succ j=>simp [ZaU] at hj
  obtain⟨v',w',ab,ho,aa,hf,ac⟩:=Zax Tryz.underlying99 ZlI rfl (by decide) _ v (ZaU l) h1 (Zd0 l) _ 1 _ hs (by omega) ty;refine⟨v',w',ab,?_,aa,(hA.mono hB).trans (hf.below (Nat.le_trans hB hA.size) hk),fun k hk'=>?_⟩
  · (have e:ZaU (l ++ [Sb.zero])=ZaU l ++ ZaU [Sb.zero]:=by simp [ZaU]);unfold OwnB;rw [e];exact ho
  · rcases ac with e | ⟨e,_⟩
    · rw [e] at hk';exact hk k hk'
    · rw [e] at hk';cases hk';exact Nat.le_trans hB hA.size
section
variable {ops : Array Oper} {rest : List Oper} {o : Oper} {a : Act} {Q : Exit → Act → World → Prop}
theorem Zdu (w:World)(ab:o.guard=none)(s y:Operand)(ho:o.op=.call { callee:=.builtin .append,args:=#[s,y],argTypes:=#[99,99] })(v:Sl)(l:List Sb)(hs:a.eval s=v.val)(hy:a.eval y=.slice (some ⟨w.heap.size,0,none⟩) 1 1)(h:OwnB w v l)(hl:v.len≤1000)(B:Nat)(hB:B≤w.heap.size)(hk:∀k,v.blk=some k→B≤k)
    (hK:∀v' w',OwnB w' v' (l ++ [Sb.zero])→v'.len=v.len+1→Below B w w'→(∀k,v'.blk=some k→B≤k)→wpList Tryz.prog ops Q rest (a.put o.dst v'.val) w'):wpList Tryz.prog ops Q (o :: rest) a (w.alloc (.cells #[.slice none 0 0] 107)):=by
  refine wpList_plain ab fun K hK'=>?_;obtain⟨v',w',aa,r1,r2,r3,r4⟩:=ZhR w v l h hl hB hk o.type;unfold Oper.wp;simp [execOp,ho,resolve,invoke,builtin,hs,hy,aa,Result.andThen];exact hK' _ _ (hK v' w' r1 r2 r3 r4)
end
theorem Tb.mine2 {D:Nat→Prop}{w2:World}{l3:List Sb}(t:Tb D w w1 u v l)(h3:∀y∈l3,Cm D w y.s y.bs∧y.bs.length≤1000)(hb:Below w1.heap.size w1 w2){b o len cap:Nat}(ho:OwnB w2 ⟨some ⟨b,o,none⟩,len,cap⟩ l3)(hw:w1.heap.size≤b)(hl:len≤1000)(k:Nat)(hk:k<len)(x:Sb)(hx:Cm D w x.s x.bs)(ac:x.bs.length≤1000):∃W,(Instr.storeAt 107 (.pointer (some ⟨b,o+k,none⟩)) x.s.val).run Tryz.prog w2=.ok () W∧Tb D w W u v l∧Gb (New D w) W ⟨some ⟨b,o,none⟩,len,cap⟩ (l3.set k x):=by
 obtain⟨W,ab,o2,f⟩:=ZpC w2 b o len cap l3 ho k hk x;have aa:Below w1.heap.size w1 W:=hb.trans (f.below hb.size (fun k hk=>by rw [hk];exact hw));have t2:=t.below aa;have hK:Kept (New D w) w W:=Kept.all t2.e (Nat.le_refl _);refine⟨W,ab,t2,o2.gb (fun y hy=>?_) (fun k hk=>?_) hl⟩
 · rcases List.mem_or_eq_of_mem_set hy with h | rfl
   · exact⟨((h3 y h).1.mono (fun _ hk hl=>.inl ⟨hk,hl⟩)).keep hK,(h3 y h).2⟩
   · exact⟨(hx.mono (fun _ hk hl=>.inl ⟨hk,hl⟩)).keep hK,ac⟩
 · have e:some b=some k:=hk;cases e;exact .inr (Nat.le_trans t.sz hw)
structure An3 where
  s:List (List Nat)
  at_:Int
  e:Int
def insA (s:List (List Nat)) (r:List Nat):An3:=
  if r.length<1∨255<r.length then ⟨s,-1,1⟩ else if 64<(insS s r).length∨508<need (insS s r) then ⟨s,-1,7⟩ else ⟨insS s r,((atE s:Nat):Int),0⟩
def An3Is (D:Nat→Prop) (w:World) (u:Sl) (x:An3) (e:Ending) (w':World):Prop:=Below w.heap.size w w'∧∃(v':Sl) (l':List Sb),e=.returned (.tuple #[lfV u v',.int .i64 x.at_,.int .i64 x.e])∧Gb (Old D w) w' v' l'∧bss l'=x.s
theorem ZaH {y z:Nat}(hr:fn.results=#[.cell x 101,.tmp y,.tmp z])(k:LfBlk W g u.val v.val)(tmps:Array Value)(ht:tmps.getD x undef=.pointer (some ⟨g,0,none⟩)){p q:Value}(hy:tmps.getD y undef=p)(hz:tmps.getD z undef=q):(results fn tmps).run Tryz.prog W=.ok (.tuple #[lfV u v,p,q]) W:=by
 have c0:=k.c0;have c1:=k.c1;unfold lfV Sl.val at *;(have aa:tmps[x]?.getD undef=.pointer (some ⟨g,0,none⟩):=by simpa using ht);(have ab:tmps[y]?.getD undef=p:=by simpa using hy);(have ac:tmps[z]?.getD undef=q:=by simpa using hz);simp [results,hr,aa,ab,ac,go_sem,c0,c1]
theorem ZnX {D:Nat→Prop}(w:World)(u v:Sl)(l:List Sb)(hg:Gb D w v l)(r:Sl)(hr:r.len<1∨255<r.len) :
    Calls Tryz.prog 61 #[lfV u v,r.val] w fun e w'=>An3Is D w u ⟨bss l,-1,1⟩ e w':=by
  have hT:=Tb.start u hg;have c0:=hT.k1.c0;have c1:=hT.k1.c1;obtain⟨W,ab,k,f,hB⟩:=hT.lay v;have aa:=hide ab;have HK:=hide k;have HF:Hid (An3Is D w u ⟨bss l,-1,1⟩ (.returned (.tuple #[lfV u v,.int .i64 (-1),.int .i64 1])) W):=⟨hB,v,l,rfl,hg.old hB,rfl⟩;clear hg hT ab k f hB;obtain⟨a,len,cap⟩:=v;obtain⟨ua,ul,uc⟩:=u;obtain⟨ra,rl,rc⟩:=r;unfold lfV Sl.val at *;simp only at *;by_cases h1:rl<1
  · (have i1:(rl:Int)<1:=by omega);go_enter Tryz.func61,Tryz.ntmps61;go_wp2_with (refine Zad _ rfl rfl 101 (.tmp 4) (.tmp 17) rfl (.pointer (some ⟨w.heap.size+1,0,none⟩)) (.agg #[.slice ua ul uc,.slice a len cap]) rfl rfl W aa.out ?_);refine bodyPost_ret (ZaH (u:=⟨ua,ul,uc⟩) (v:=⟨a,len,cap⟩) rfl HK.out _ rfl rfl rfl) rfl ?_;exact HF.out
  · (have i1:¬(rl:Int)<1:=by omega);(have i2:(255:Int)<(rl:Int):=by omega);go_enter Tryz.func61,Tryz.ntmps61;go_wp2_with (refine Zad _ rfl rfl 101 (.tmp 4) (.tmp 17) rfl (.pointer (some ⟨w.heap.size+1,0,none⟩)) (.agg #[.slice ua ul uc,.slice a len cap]) rfl rfl W aa.out ?_);refine bodyPost_ret (ZaH (u:=⟨ua,ul,uc⟩) (v:=⟨a,len,cap⟩) rfl HK.out _ rfl rfl rfl) rfl ?_;exact HF.out
theorem Zmx {D:Nat→Prop}(w:World)(u v:Sl)(l:List Sb)(hg:Gb D w v l)(hv:v.len≤900)(x:Sb)(hx:Cm D w x.s x.bs)(h1:1≤x.bs.length)(h2:x.bs.length≤255)(X:An3)(cb:64<(insS (bss l) x.bs).length∨508<need (insS (bss l) x.bs)→X=⟨bss l,-1,7⟩)(ca:¬64<(insS (bss l) x.bs).length→¬508<need (insS (bss l) x.bs)→X=⟨insS (bss l) x.bs,((atE (bss l):Nat):Int),0⟩) :
    Calls Tryz.prog 61 #[lfV u v,x.s.val] w fun e w'=>An3Is D w u X e w':=by
  have hT:=Tb.start u hg;have bw:=hg.len;have cl:=hx.len;have c0:=hT.k1.c0;have c1:=hT.k1.c1;have HT:=hide hT;have ai:Hid (∀(w1 w2:World) (b o n cap k:Nat) (l3:List Sb),Tb D w w1 u v l→l3=l∨l3=l ++ [Sb.zero]→Below w1.heap.size w1 w2→OwnB w2 ⟨some ⟨b,o,none⟩,n,cap⟩ l3→w1.heap.size≤b→n≤1000→k<n→∃W,(Instr.storeAt 107 (.pointer (some ⟨b,o+k,none⟩)) x.s.val).run Tryz.prog w2=.ok () W∧Tb D w W u v l∧Gb (New D w) W ⟨some ⟨b,o,none⟩,n,cap⟩ (l3.set k x)):=by
   intro w1 w2 b o n cap k l3 t ch hb ho hw hn hk;refine t.mine2 (fun y hy=>?_) hb ho hw hn k hk x hx (by omega);rcases ch with rfl | rfl
   · exact hg.bs y hy
   · rcases List.mem_append.1 hy with h | h
     · exact hg.bs y h
     · rw [List.mem_singleton.1 h];exact⟨Cm.none w,by simp [Sb.zero]⟩
  have ab:Hid (∀W,Below w.heap.size w W→Gb (Old D w) W v l):=fun W hB=>hg.old hB;have ce:Hid (∀k,k<l.length→bss (l.set k x)=(bss l).set k x.bs):=fun k _=>Zlm l k x;have cf:Hid (bss ((l ++ [Sb.zero]).set l.length x)=bss l ++ [x.bs]):=by
   show _=_;rw [Zlm];simp [bss]
  have HW:=hide (fun W s=>Zor W u v s);have HN:=hide (fun (W:World) (s:Sl) (l4:List Sb) (hW:Gb (New D w) W s l4)=>Zh4 W u s l4 hW);have ao:=hide cb;have av:=hide ca;clear hg hT hx cb ca;obtain⟨⟨ra,rl,rc⟩,bs⟩:=x;obtain⟨a,len,cap⟩:=v;obtain⟨ua,ul,uc⟩:=u;unfold lfV Sl.val at *;simp only at *;(have i1:¬(rl:Int)<1:=by omega);(have i2:¬(255:Int)<(rl:Int):=by omega);go_enter Tryz.func61,Tryz.ntmps61;go_wp2_with fail;generalize (w.alloc (.cells #[.slice ua ul uc,.slice a len cap] 101)).alloc (.cells #[.slice none 0 0,.slice none 0 0] 101)=w1 at *;have d2:=(HT.out.k1.below (Zaa w1 (.cells #[] 107))).c1;unfold Sl.val at d2;simp only at d2;go_loopw [7] (fun iv wr=>wr=w1∧∃n:Nat,n≤len∧iv=.int .i64 (n:Int)∧Hid (∀j,j<n→(sl (bss l) j).length≠0)) (fun iv _=>len-(intOf iv).toNat)
  case atStart=>exact ⟨rfl,0,Nat.zero_le _,rfl,fun _ h=>absurd h (Nat.not_lt_zero _)⟩
  case round =>
   obtain⟨rfl,n,hn,rfl,aj⟩:=hrel;rcases Nat.lt_or_ge n len with cd | ck
   · (have i3:(n:Int)<(len:Int):=by omega);obtain⟨bb,oo,ha,cm⟩:=HT.out.g.cell n cd;replace ha:a=some ⟨bb,oo,none⟩:=ha;subst ha;obtain⟨_,br,aw⟩:=HT.out.g.at (i:=n) cd;obtain⟨⟨xa,xn,xc⟩,bx⟩:∃s,s=(l.getD n Sb.zero).s:=⟨_,rfl⟩;rw [← bx] at cm br;unfold Sl.val at cm;simp only at cm br;(have cn:xn≤1000:=by omega);by_cases cj:xn=0
     · subst cj;have bj:Hid (atE (bss l)=n):=Zov aj.out (.inr ⟨by rw [Zaj];omega,by omega⟩);(have cg:Hid (n<(bss l).length):=by show _<_;rw [Zaj];omega);clear br aw bx aj;go_wp2_with (at_builtin;refine Zb1 _ rfl (.tmp 34) (.tmp 36) rfl ⟨some ⟨bb,oo,none⟩,len,cap⟩ l rfl rfl HT.out.g ?_);intro v1 w2 ho az ax ay;obtain⟨b,o,ha⟩:=ho.pos (by rw [az];show 0<len;omega);obtain⟨sa,sn,sc⟩:=v1;replace ha:sa=some ⟨b,o,none⟩:=ha;replace az:len=sn:=az.symm;subst ha;subst az;(have i5:¬(n:Int)=(len:Int):=by omega);obtain⟨W3,am,t3,g3⟩:=ai.out _ w2 b o len sc n l HT.out (.inl rfl) ax ho (ay b rfl) (by omega) (by omega);have ap:Hid (bss (l.set n ⟨⟨ra,rl,rc⟩,bs⟩)=insS (bss l) bs):=by
        show _=_;have:=cg.out;unfold insS;rw [bj.out,if_neg (by omega),ce.out n (by omega)]
       clear ho ax ay cm;have bd:Hid ((insS (bss l) bs).length=len):=by
        show _=_;rw [← ap.out,Zaj];exact g3.len
       have af:=hide am;have e0:=t3.k1.c0;have e1:=t3.k1.c1;have ar:=hide t3;have ba:=hide g3;have bf:=hide (HW.out W3 ⟨some ⟨b,o,none⟩,len,sc⟩);clear am t3 g3 d2 HT ai;unfold Sl.val at *;simp only at *;by_cases bm:64<len
       · (have i6:(64:Int)<(len:Int):=by omega);have HX:=hide (ao.out (.inl (by rw [bd.out];exact bm)));obtain⟨W6,aa,k6,f6,ah⟩:=ar.out.lay ⟨some ⟨bb,oo,none⟩,len,cap⟩;have ag:=hide aa;have bc:=hide k6;have HF:Hid (An3Is D w ⟨ua,ul,uc⟩ X (.returned (.tuple #[lfV ⟨ua,ul,uc⟩ ⟨some ⟨bb,oo,none⟩,len,cap⟩,.int .i64 (-1),.int .i64 7])) W6):=by
          show An3Is _ _ _ _ _ _;rw [HX.out];exact⟨ah,_,l,rfl,ab.out W6 ah,rfl⟩
         clear aa k6 f6 ah ar ba bf HW HN HX ao av ab bd ap;unfold lfV Sl.val at *;simp only at *;go_wp2_with (first | refine Zad _ rfl rfl 107 (.tmp 48) (.tmp 47) rfl (.pointer (some ⟨b,o+n,none⟩)) (.slice ra rl rc) rfl rfl W3 af.out ?_ | refine Zad _ rfl rfl 101 (.tmp 4) (.tmp 59) rfl (.pointer (some ⟨w.heap.size+1,0,none⟩)) (.agg #[.slice ua ul uc,.slice (some ⟨bb,oo,none⟩) len cap]) rfl rfl W6 ag.out ?_);refine bodyPost_ret (ZaH (u:=⟨ua,ul,uc⟩) (v:=⟨some ⟨bb,oo,none⟩,len,cap⟩) rfl bc.out _ rfl rfl rfl) rfl ?_;exact HF.out
       · (have i6:¬(64:Int)<(len:Int):=by omega);go_wp2_with (refine Zad _ rfl rfl 107 (.tmp 48) (.tmp 47) rfl (.pointer (some ⟨b,o+n,none⟩)) (.slice ra rl rc) rfl rfl W3 af.out ?_);refine bf.out.mono ?_;rintro e w4 ⟨rfl,bh⟩;have au:=hide (ar.out.below bh);have aq:=hide (ba.out.below bh (Nat.le_refl _));have ae:=hide (HN.out w4 _ _ aq.out);rw [ap.out] at ae;clear bf ar ba bh af e0 e1 HN;simp only at *;by_cases ac:508<need (insS (bss l) bs)
         · have HX:=hide (ao.out (.inr ac));(have i7:(508:Int)<((need (insS (bss l) bs):Nat):Int):=by omega);obtain⟨nd,al⟩:∃nd,nd=need (insS (bss l) bs):=⟨_,rfl⟩;rw [← al] at ae i7;clear al ac ao av;go_wp2_with fail;refine ae.out.mono ?_;rintro e w5 ⟨rfl,ak⟩;have ad:=au.out.below ak;obtain⟨W6,aa,k6,f6,ah⟩:=ad.lay ⟨some ⟨bb,oo,none⟩,len,cap⟩;have d0:=ad.k1.c0;have d1:=ad.k1.c1;have ag:=hide aa;have bc:=hide k6;have HF:Hid (An3Is D w ⟨ua,ul,uc⟩ X (.returned (.tuple #[lfV ⟨ua,ul,uc⟩ ⟨some ⟨bb,oo,none⟩,len,cap⟩,.int .i64 (-1),.int .i64 7])) W6):=by
            show An3Is _ _ _ _ _ _;rw [HX.out];exact⟨ah,_,l,rfl,ab.out W6 ah,rfl⟩
           clear ad aa k6 f6 ah ak au aq ae ab HW HX;unfold lfV Sl.val at *;simp only at *;go_wp2_with (refine Zad _ rfl rfl 101 (.tmp 4) (.tmp 59) rfl (.pointer (some ⟨w.heap.size+1,0,none⟩)) (.agg #[.slice ua ul uc,.slice (some ⟨bb,oo,none⟩) len cap]) rfl rfl W6 ag.out ?_);refine bodyPost_ret (ZaH (u:=⟨ua,ul,uc⟩) (v:=⟨some ⟨bb,oo,none⟩,len,cap⟩) rfl bc.out _ rfl rfl rfl) rfl ?_;exact HF.out
         · have HX:=hide (av.out (by rw [bd.out];exact bm) ac);rw [bj.out] at HX;(have i7:¬(508:Int)<((need (insS (bss l) bs):Nat):Int):=by omega);obtain⟨nd,al⟩:∃nd,nd=need (insS (bss l) bs):=⟨_,rfl⟩;rw [← al] at ae i7;clear al ac ao av;go_wp2_with fail;refine ae.out.mono ?_;rintro e w5 ⟨rfl,ak⟩;have ad:=au.out.below ak;have bk:=hide (aq.out.below ak (Nat.le_refl _));have bg:=hide (HW.out w5 ⟨some ⟨b,o,none⟩,len,sc⟩);have d0:=ad.k1.c0;have d1:=ad.k1.c1;have bl:=hide ad;clear ad ak au aq ae ab HW;unfold Sl.val at d0 d1;simp only at d0 d1 bg;go_wp2_with fail;refine bg.out.mono ?_;rintro e w6 ⟨rfl,bi⟩;have bo:=bl.out.below bi;have bp:=bk.out.below bi (Nat.le_refl _);obtain⟨W7,an,k7,f7,bn⟩:=bo.lay ⟨some ⟨b,o,none⟩,len,sc⟩;have be:=hide an;have bv:=hide k7;have HF:Hid (An3Is D w ⟨ua,ul,uc⟩ X (.returned (.tuple #[lfV ⟨ua,ul,uc⟩ ⟨some ⟨b,o,none⟩,len,sc⟩,.int .i64 (n:Int),.int .i64 0])) W7):=by
            show An3Is _ _ _ _ _ _;rw [HX.out];exact⟨bn,_,_,rfl,bp.told f7,ap.out⟩
           clear bo bp an k7 f7 bn bi bl bk bg HX d0 d1;unfold lfV Sl.val at *;simp only at *;go_wp2_with (refine Zad _ rfl rfl 101 (.tmp 4) (.tmp 62) rfl (.pointer (some ⟨w.heap.size+1,0,none⟩)) (.agg #[.slice ua ul uc,.slice (some ⟨b,o,none⟩) len sc]) rfl rfl W7 be.out ?_);refine bodyPost_ret (ZaH (u:=⟨ua,ul,uc⟩) (v:=⟨some ⟨b,o,none⟩,len,sc⟩) rfl bv.out _ rfl rfl rfl) rfl ?_;exact HF.out
     · (have i4:(0:Int)<(xn:Int):=by omega);have bt:Hid (∀j,j<n+1→(sl (bss l) j).length≠0):=by
        intro j hj;by_cases e:j=n
        · rw [e];omega
        · exact aj.out j (by omega)
       clear br aw bx aj;go_wp2_with fail;go_roundw
       case rel=>exact ⟨trivial,n+1,by omega,by go_num,bt⟩
       case measure=>simp only [intOf];omega
   · (have ci:n=len:=by omega);subst ci;(have i3:¬(n:Int)<(n:Int):=by omega);have bj:Hid (atE (bss l)=n):=Zov aj.out (.inl (by rw [Zaj];omega));clear aj;go_wp2_with (at_builtin;refine Zb1 _ rfl (.tmp 34) (.tmp 36) rfl ⟨a,n,cap⟩ l rfl rfl HT.out.g ?_);intro v1 w2 ho az ax ay;obtain⟨sa,sn,sc0⟩:=v1;replace az:n=sn:=az.symm;subst az;have HO:=hide ho;have bu:=hide ax;have bz:=hide ay;clear ho ax ay;unfold Sl.val at *;simp only at *;go_wp2_with (at_builtin;refine Zdu _ rfl (.tmp 42) (.tmp 43) rfl ⟨sa,n,sc0⟩ l rfl rfl HO.out (by show n≤1000;omega) _ bu.out.size bz.out ?_);intro v2 w3 ho bq cc ay;have ax:=bu.out.trans cc;obtain⟨b,o,ha⟩:=ho.pos (by rw [bq];exact Nat.succ_pos _);obtain⟨sa2,sn2,sc⟩:=v2;replace ha:sa2=some ⟨b,o,none⟩:=ha;replace bq:sn2=n+1:=bq;subst ha;obtain⟨W3,am,t3,g3⟩:=ai.out _ w3 b o sn2 sc n _ HT.out (.inr rfl) ax ho (ay b rfl) (by omega) (by omega);have ap:Hid (bss ((l ++ [Sb.zero]).set n ⟨⟨ra,rl,rc⟩,bs⟩)=insS (bss l) bs):=by
      show _=_;unfold insS;rw [bj.out,if_pos (by rw [Zaj];omega),← cf.out,bw]
     (have j1:sn2≤1000:=by omega);(have j2:n<sn2:=by omega);clear ho ax ay cc HO bu bz bq;have bd:Hid ((insS (bss l) bs).length=sn2):=by
      show _=_;rw [← ap.out,Zaj];exact g3.len
     have af:=hide am;have e0:=t3.k1.c0;have e1:=t3.k1.c1;have ar:=hide t3;have ba:=hide g3;have bf:=hide (HW.out W3 ⟨some ⟨b,o,none⟩,sn2,sc⟩);clear am t3 g3 d2 HT ai;unfold Sl.val at *;simp only at *;by_cases bm:64<sn2
     · (have i6:(64:Int)<(sn2:Int):=by omega);have HX:=hide (ao.out (.inl (by rw [bd.out];exact bm)));obtain⟨W6,aa,k6,f6,ah⟩:=ar.out.lay ⟨a,n,cap⟩;have ag:=hide aa;have bc:=hide k6;have HF:Hid (An3Is D w ⟨ua,ul,uc⟩ X (.returned (.tuple #[lfV ⟨ua,ul,uc⟩ ⟨a,n,cap⟩,.int .i64 (-1),.int .i64 7])) W6):=by
        show An3Is _ _ _ _ _ _;rw [HX.out];exact⟨ah,_,l,rfl,ab.out W6 ah,rfl⟩
       clear aa k6 f6 ah ar ba bf HW HN HX ao av ab bd ap;unfold lfV Sl.val at *;simp only at *;go_wp2_with (first | refine Zad _ rfl rfl 107 (.tmp 48) (.tmp 47) rfl (.pointer (some ⟨b,o+n,none⟩)) (.slice ra rl rc) rfl rfl W3 af.out ?_ | refine Zad _ rfl rfl 101 (.tmp 4) (.tmp 59) rfl (.pointer (some ⟨w.heap.size+1,0,none⟩)) (.agg #[.slice ua ul uc,.slice (a) n cap]) rfl rfl W6 ag.out ?_);refine bodyPost_ret (ZaH (u:=⟨ua,ul,uc⟩) (v:=⟨a,n,cap⟩) rfl bc.out _ rfl rfl rfl) rfl ?_;exact HF.out
     · (have i6:¬(64:Int)<(sn2:Int):=by omega);go_wp2_with (refine Zad _ rfl rfl 107 (.tmp 48) (.tmp 47) rfl (.pointer (some ⟨b,o+n,none⟩)) (.slice ra rl rc) rfl rfl W3 af.out ?_);refine bf.out.mono ?_;rintro e w4 ⟨rfl,bh⟩;have au:=hide (ar.out.below bh);have aq:=hide (ba.out.below bh (Nat.le_refl _));have ae:=hide (HN.out w4 _ _ aq.out);rw [ap.out] at ae;clear bf ar ba bh af e0 e1 HN;simp only at *;by_cases ac:508<need (insS (bss l) bs)
       · have HX:=hide (ao.out (.inr ac));(have i7:(508:Int)<((need (insS (bss l) bs):Nat):Int):=by omega);obtain⟨nd,al⟩:∃nd,nd=need (insS (bss l) bs):=⟨_,rfl⟩;rw [← al] at ae i7;clear al ac ao av;go_wp2_with fail;refine ae.out.mono ?_;rintro e w5 ⟨rfl,ak⟩;have ad:=au.out.below ak;obtain⟨W6,aa,k6,f6,ah⟩:=ad.lay ⟨a,n,cap⟩;have d0:=ad.k1.c0;have d1:=ad.k1.c1;have ag:=hide aa;have bc:=hide k6;have HF:Hid (An3Is D w ⟨ua,ul,uc⟩ X (.returned (.tuple #[lfV ⟨ua,ul,uc⟩ ⟨a,n,cap⟩,.int .i64 (-1),.int .i64 7])) W6):=by
          show An3Is _ _ _ _ _ _;rw [HX.out];exact⟨ah,_,l,rfl,ab.out W6 ah,rfl⟩
         clear ad aa k6 f6 ah ak au aq ae ab HW HX;unfold lfV Sl.val at *;simp only at *;go_wp2_with (refine Zad _ rfl rfl 101 (.tmp 4) (.tmp 59) rfl (.pointer (some ⟨w.heap.size+1,0,none⟩)) (.agg #[.slice ua ul uc,.slice (a) n cap]) rfl rfl W6 ag.out ?_);refine bodyPost_ret (ZaH (u:=⟨ua,ul,uc⟩) (v:=⟨a,n,cap⟩) rfl bc.out _ rfl rfl rfl) rfl ?_;exact HF.out
       · have HX:=hide (av.out (by rw [bd.out];exact bm) ac);rw [bj.out] at HX;(have i7:¬(508:Int)<((need (insS (bss l) bs):Nat):Int):=by omega);obtain⟨nd,al⟩:∃nd,nd=need (insS (bss l) bs):=⟨_,rfl⟩;rw [← al] at ae i7;clear al ac ao av;go_wp2_with fail;refine ae.out.mono ?_;rintro e w5 ⟨rfl,ak⟩;have ad:=au.out.below ak;have bk:=hide (aq.out.below ak (Nat.le_refl _));have bg:=hide (HW.out w5 ⟨some ⟨b,o,none⟩,sn2,sc⟩);have d0:=ad.k1.c0;have d1:=ad.k1.c1;have bl:=hide ad;clear ad ak au aq ae ab HW;unfold Sl.val at d0 d1;simp only at d0 d1 bg;go_wp2_with fail;refine bg.out.mono ?_;rintro e w6 ⟨rfl,bi⟩;have bo:=bl.out.below bi;have bp:=bk.out.below bi (Nat.le_refl _);obtain⟨W7,an,k7,f7,bn⟩:=bo.lay ⟨some ⟨b,o,none⟩,sn2,sc⟩;have be:=hide an;have bv:=hide k7;have HF:Hid (An3Is D w ⟨ua,ul,uc⟩ X (.returned (.tuple #[lfV ⟨ua,ul,uc⟩ ⟨some ⟨b,o,none⟩,sn2,sc⟩,.int .i64 (n:Int),.int .i64 0])) W7):=by
          show An3Is _ _ _ _ _ _;rw [HX.out];exact⟨bn,_,_,rfl,bp.told f7,ap.out⟩
         clear bo bp an k7 f7 bn bi bl bk bg HX d0 d1;unfold lfV Sl.val at *;simp only at *;go_wp2_with (refine Zad _ rfl rfl 101 (.tmp 4) (.tmp 62) rfl (.pointer (some ⟨w.heap.size+1,0,none⟩)) (.agg #[.slice ua ul uc,.slice (some ⟨b,o,none⟩) sn2 sc]) rfl rfl W7 be.out ?_);refine bodyPost_ret (ZaH (u:=⟨ua,ul,uc⟩) (v:=⟨some ⟨b,o,none⟩,sn2,sc⟩) rfl bv.out _ rfl rfl rfl) rfl ?_;exact HF.out
theorem Zet {D:Nat→Prop}(w:World)(u v:Sl)(l:List Sb)(hg:Gb D w v l)(hv:v.len≤900)(x:Sb)(hx:Cm D w x.s x.bs) :
    Calls Tryz.prog 61 #[lfV u v,x.s.val] w fun e w'=>An3Is D w u (insA (bss l) x.bs) e w':=by
  have hl:=hx.len;by_cases h1:x.bs.length<1∨255<x.bs.length
  · have e:insA (bss l) x.bs=⟨bss l,-1,1⟩:=if_pos h1;rw [e];exact ZnX w u v l hg x.s (by omega)
  · refine Zmx w u v l hg hv x hx (by omega) (by omega) _ (fun h=>?_) (fun h3 h4=>?_)
    · unfold insA;rw [if_neg h1,if_pos h]
    · unfold insA;rw [if_neg h1,if_neg (fun h=>h.elim h3 h4)]
end Go.Proofs.YtiecfcjlhldhdaaGreat
