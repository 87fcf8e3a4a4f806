/-
  Lemmas.
-/
import Derived.Test.YtdojdcncncgncaaGreatKtat
import Derived.Test.YtdojdcncncgncaaGreatKtam
namespace Go.Proofs.YtdojdcncncgncaaGreat
open Go.RowKit
set_option linter.unusedVariables false
set_option maxRecDepth 100000
set_option maxHeartbeats 4000000
variable {e:TypeId}{w w':World}{s:Sl}{z i g:Nat}{vs:List Value}{l:List Sb}{A:Act}{xs:List Nat}
theorem Zos {zv:Value}{bytes:Nat}(hi:(Tryz.prog.info? e).map (fun i=>(i.zero,i.size,i.bytes))=some (some zv,z,bytes))(w:World):(sizeOf e).run Tryz.prog w=.ok z w:=by
 obtain⟨i0,hi,ab,aa,ac⟩:=info_parts hi;simp [sizeOf,typeInfo,hi,aa]
theorem Zgm {S:TypeId}(hu:Tryz.prog.underlying S=some (.slice (Tryz.prog.elem S)))(he:Tryz.prog.elem S=e)(hz:∀w,(sizeOf e).run Tryz.prog w=.ok z w)(a:Option Addr)(len cap n:Nat)(hn:n≤cap)(w:World) :
    (Instr.sliceAt S (.slice a len cap) none (some (.int .i64 (n:Int))) (some (.int .i64 (n:Int)))).run Tryz.prog w=.ok (.slice a n n) w:=by
  have ea:(if n=0 then a else a.map (fun x=>x.add 0))=a:=by
   split
   · rfl
   · cases a with
     | none=>rfl
     | some x=>simp [Addr.add]
  rw [run_sliceAt_slice w S _ _ _ _ hu,run_slice_hm w S a len cap hu .i64 .i64 (n:Int) (n:Int) (by omega) (by omega) (by omega),he,hz];simp only [Result.andThen,sliced,Int.toNat_natCast,Nat.sub_zero,Nat.zero_mul,ea]
theorem Own.cut (h:Own e 1 w s vs){n:Nat}(hn:n≤s.len):Own e 1 w ⟨s.a,n,n⟩ (vs.take n):=by
 have hl:=h.1;refine⟨by rw [List.length_take,hl];show min n (s.len*1)=n*1;omega,?_⟩;rcases h.2 with ⟨h0,hv⟩ | ⟨g,off,cur,ha,hg,ac,ab,aa,ht⟩
 · subst h0;subst hv;(have:n=0:=by have:n≤0:=hn;omega);subst this;exact .inl ⟨rfl,by simp⟩
 · refine .inr ⟨g,off,cur,ha,hg,?_,Nat.le_refl _,?_,?_⟩
   · show off+n*1≤cur.size;omega
   · show n≤maxLen;omega
   · show (cur.toList.drop off).take (n*1)=_;rw [← ht,List.take_take];congr 1;omega
section
variable {ops : Array Oper} {rest : List Oper} {o : Oper} {a : Act} {Q : Exit → Act → World → Prop}
theorem Zbc (w:World)(ab:o.guard=none)(t:TypeId)(x:Operand)(lo hi mx:Option Operand)(ho:o.op=.slice t x lo hi mx)(v:Value)(aa:(Instr.sliceAt t (a.eval x) (lo.map a.eval) (hi.map a.eval) (mx.map a.eval)).run Tryz.prog w=.ok v w)(hK:wpList Tryz.prog ops Q rest (a.put o.dst v) w):wpList Tryz.prog ops Q (o :: rest) a w:=by
 refine ZcU w ab v w ?_ hK;have e:execOp a.eval o=(do pure (.value (← Instr.sliceAt t (a.eval x) (lo.map a.eval) (hi.map a.eval) (mx.map a.eval)))):=by
  unfold execOp;rw [ho]
 rw [e];simp [aa]
theorem Zbi {S:TypeId}{zv:Value}{bytes:Nat}(hu:Tryz.prog.underlying S=some (.slice e))(hi:(Tryz.prog.info? e).map (fun i=>(i.zero,i.size,i.bytes))=some (some zv,1,bytes))(ad:zv.cells.size=1)(ab:bytes≤1000)
    (w:World)(ac:o.guard=none)(s y:Operand)(ho:o.op=.call { callee:=.builtin .append,args:=#[s,y],argTypes:=#[S,S] })(hs:a.eval s=.slice none 0 0)(x:Value)(hy:a.eval y=x)(n:Nat)(vs:List Value)(h:Src Tryz.prog 1 S x n vs w)(hn:n≤1000000)
    (hK:∀v' w',Own e 1 w' v' vs→v'.len=n→Below w.heap.size w w'→(∀k,v'.blk=some k→w.heap.size≤k)→wpList Tryz.prog ops Q rest (a.put o.dst v'.val) w'):wpList Tryz.prog ops Q (o :: rest) a w:=by
  refine wpList_plain ac fun K hK'=>?_;obtain⟨v',w',aa,ho',hl',hf',hb'⟩:=ZaA hu hi ad ab w Sl.nil [] (Own.nil e 1 w) (fun _ h=>by cases h) x n vs h (by show 0+n≤_;omega) o.type;unfold Sl.val Sl.nil at aa;unfold Oper.wp;simp [execOp,ho,resolve,invoke,builtin,hs,hy,aa,Result.andThen];refine hK' _ _ (hK v' w' ho' (by rw [hl'];show 0+n=n;omega) (hf'.below (Nat.le_refl _) (fun k hk=>by cases hk)) (fun k hk=>?_));rcases hb' with e | ⟨e,_⟩
  · rw [e] at hk;cases hk
  · rw [e] at hk;cases hk;exact Nat.le_refl _
end
theorem Zn2 (w:World)(a:Option Addr)(len cap n:Nat)(hn:n≤cap):Calls Tryz.prog 151 #[.slice a len cap,.int .i64 (n:Int)] w fun e w'=>e=.returned (.slice a n n)∧w'=w:=by
 have HR:=hide (Zgm (S:=46) (e:=3) (by kernel_rfl) (by kernel_rfl) (fun w=>Zos ZeG w) a len cap n hn w);go_enter Tryz.func151,Tryz.ntmps151;go_wp2_with (refine Zbc _ rfl 46 (.tmp 5) none (some (.tmp 6)) (some (.tmp 7)) rfl (.slice a n n) HR.out ?_);go_ret;exact⟨rfl,rfl⟩
theorem Zoc {D:Nat→Prop}(w:World)(v:Sl)(t:List Int)(h:Gi D w v t):Calls Tryz.prog 131 #[v.val] w fun e w'=>Below w.heap.size w w'∧∃s:Sl,e=.returned s.val∧Own 3 1 w' s (Zax t)∧s.len=v.len∧s.cap=v.len∧∀k,s.blk=some k→w.heap.size≤k:=by
 have HS:=hide (h.src);(have ab:v.len≤1000000:=by have:=h.big;omega);clear h;obtain⟨va,vl,vc⟩:=v;unfold Sl.val at *;simp only at *;go_enter Tryz.func131,Tryz.ntmps131;go_wp2_with (at_builtin;refine Zbi Tryz.underlying46 ZeG rfl (by decide) _ rfl (.const (.slice none 0 0)) (.tmp 3) rfl rfl (.slice va vl vc) rfl vl _ HS.out ab ?_);intro v1 w1 aa ac ae af;obtain⟨a1,n1,c1⟩:=v1;replace ac:n1=vl:=ac;subst ac;have ad:=hide (aa.cut (n:=n1) (Nat.le_refl _));rw [List.take_of_length_le (by have:=aa.1;rw [this];show n1*1≤n1;omega)] at ad;have HC:=hide (Zn2 w1 a1 n1 c1 n1 aa.lecap);have ag:=hide ae;have ah:=hide af;clear aa ae af HS;unfold Sl.val;simp only;go_wp2_with fail;refine HC.out.mono ?_;rintro e w2 ⟨rfl,hw⟩;obtain rfl:=hw;go_wp2_with fail;go_ret;exact⟨ag.out,⟨a1,n1,n1⟩,rfl,ad.out,rfl,rfl,ah.out⟩
theorem Zdp (w:World)(a:Option Addr)(len cap n:Nat)(hn:n≤cap):Calls Tryz.prog 105 #[.slice a len cap,.int .i64 (n:Int)] w fun e w'=>e=.returned (.slice a n n)∧w'=w:=by
 have HR:=hide (Zgm (S:=65) (e:=56) (by kernel_rfl) (by kernel_rfl) (fun w=>Zos ZdT w) a len cap n hn w);go_enter Tryz.func105,Tryz.ntmps105;go_wp2_with (refine Zbc _ rfl 65 (.tmp 5) none (some (.tmp 6)) (some (.tmp 7)) rfl (.slice a n n) HR.out ?_);go_ret;exact⟨rfl,rfl⟩
theorem Zly {D:Nat→Prop}(w:World)(v:Sl)(l:List Sb)(h:Gb D w v l):Calls Tryz.prog 132 #[v.val] w fun e w'=>Below w.heap.size w w'∧∃s:Sl,e=.returned s.val∧Own 56 1 w' s (Za2 l)∧s.len=v.len∧s.cap=v.len∧∀k,s.blk=some k→w.heap.size≤k:=by
 have HS:=hide (h.src);(have ab:v.len≤1000000:=by have:=h.big;omega);clear h;obtain⟨va,vl,vc⟩:=v;unfold Sl.val at *;simp only at *;go_enter Tryz.func132,Tryz.ntmps132;go_wp2_with (at_builtin;refine Zbi Tryz.underlying65 ZdT rfl (by decide) _ rfl (.const (.slice none 0 0)) (.tmp 3) rfl rfl (.slice va vl vc) rfl vl _ HS.out ab ?_);intro v1 w1 aa ac ae af;obtain⟨a1,n1,c1⟩:=v1;replace ac:n1=vl:=ac;subst ac;have ad:=hide (aa.cut (n:=n1) (Nat.le_refl _));rw [List.take_of_length_le (by have:=aa.1;rw [this];show n1*1≤n1;omega)] at ad;have HC:=hide (Zdp w1 a1 n1 c1 n1 aa.lecap);have ag:=hide ae;have ah:=hide af;clear aa ae af HS;unfold Sl.val;simp only;go_wp2_with fail;refine HC.out.mono ?_;rintro e w2 ⟨rfl,hw⟩;obtain rfl:=hw;go_wp2_with fail;go_ret;exact⟨ag.out,⟨a1,n1,n1⟩,rfl,ad.out,rfl,rfl,ah.out⟩
theorem Zk3 (w:World)(a:Option Addr)(len cap n:Nat)(hn:n≤cap):Calls Tryz.prog 152 #[.slice a len cap,.int .i64 (n:Int)] w fun e w'=>e=.returned (.slice a n n)∧w'=w:=by
 have HR:=hide (Zgm (S:=56) (e:=5) (by kernel_rfl) (by kernel_rfl) (fun w=>Zos info5 w) a len cap n hn w);go_enter Tryz.func152,Tryz.ntmps152;go_wp2_with (refine Zbc _ rfl 56 (.tmp 5) none (some (.tmp 6)) (some (.tmp 7)) rfl (.slice a n n) HR.out ?_);go_ret;exact⟨rfl,rfl⟩
theorem Zht {D:Nat→Prop}(w:World)(v:Sl)(xs:List Nat)(h:Cm D w v xs)(h0:v.len≤1000000):Calls Tryz.prog 133 #[v.val] w fun e w'=>Below w.heap.size w w'∧∃s:Sl,e=.returned s.val∧Own 5 1 w' s (vals xs)∧s.len=v.len∧s.cap=v.len∧∀k,s.blk=some k→w.heap.size≤k:=by
 have HS:=hide (h.came.src);(have ab:v.len≤1000000:=by have:=h0;omega);clear h;obtain⟨va,vl,vc⟩:=v;unfold Sl.val at *;simp only at *;go_enter Tryz.func133,Tryz.ntmps133;go_wp2_with (at_builtin;refine Zbi Tryz.underlying56 info5 rfl (by decide) _ rfl (.const (.slice none 0 0)) (.tmp 3) rfl rfl (.slice va vl vc) rfl vl _ HS.out ab ?_);intro v1 w1 aa ac ae af;obtain⟨a1,n1,c1⟩:=v1;replace ac:n1=vl:=ac;subst ac;have ad:=hide (aa.cut (n:=n1) (Nat.le_refl _));rw [List.take_of_length_le (by have:=aa.1;rw [this];show n1*1≤n1;omega)] at ad;have HC:=hide (Zk3 w1 a1 n1 c1 n1 aa.lecap);have ag:=hide ae;have ah:=hide af;clear aa ae af HS;unfold Sl.val;simp only;go_wp2_with fail;refine HC.out.mono ?_;rintro e w2 ⟨rfl,hw⟩;obtain rfl:=hw;go_wp2_with fail;go_ret;exact⟨ag.out,⟨a1,n1,n1⟩,rfl,ad.out,rfl,rfl,ah.out⟩
theorem Own.below (h:Own e z w s vs)(hb:Below w.heap.size w w'):Own e z w' s vs:=h.frame (fun k hk=>hb.block k (h.lt hk))
theorem Own.kept (h:Own e z w s vs)(f:Frm (fun k=>k=g) w w')(hg:s.blk≠some g):Own e z w' s vs:=h.frame (fun k hk=>f.block k (h.lt hk) (fun e=>hg (by rw [hk,e])))
theorem Own.unbox {u v:Value}(h:Own e z w s vs)(k:LfBlk w g u v)(he:e≠67):s.blk≠some g:=by
 intro hs;obtain⟨cur,hc⟩:=h.kind hs;unfold LfBlk at k;rw [k] at hc;simp only [Option.some.injEq,Obj.cells.injEq] at hc;exact he hc.2.1.symm
theorem Zav (w:World):(Instr.alloc 67 true (.tuple #[])).run Tryz.prog w=.ok (.pointer (some ⟨w.heap.size,0,none⟩)) (w.alloc (.cells #[.slice none 0 0,.slice none 0 0] 67)):=by
 simp [go_sem,Instr.alloc]
theorem Zgf (u v:Sl)(w:World):(Instr.build 67 #[(0,u.val),(1,v.val)]).run Tryz.prog w=.ok (lfV u v) w:=by
 obtain⟨ua,ul,uc⟩:=u;obtain⟨va,vl,vc⟩:=v;unfold lfV Sl.val;simp [go_sem]
theorem Zk8:∀args w,(callFunc 131 args).run Tryz.prog w=.ok (.enter 131 args) w:=Pl.qj Tryz.func131
theorem ZhN:∀args w,(callFunc 132 args).run Tryz.prog w=.ok (.enter 132 args) w:=Pl.qj Tryz.func132
theorem Zk9:∀args w,(callFunc 133 args).run Tryz.prog w=.ok (.enter 133 args) w:=Pl.qj Tryz.func133
structure Cp (w w':World) (g:Nat) (u v:Sl) (t:List Int) (l:List Sb):Prop where
  k:LfBlk w' g u.val v.val
  oi:OwnN w' u t
  ob:OwnB w' v l
  ui:∀k,u.blk=some k→w.heap.size≤k
  vi:∀k,v.blk=some k→w.heap.size≤k
  gi:w.heap.size≤g
  e:Below w.heap.size w w'
theorem Zpn (w:World)(g:Nat)(u v:Sl)(t:List Int)(l:List Sb)(hg:LfBlk w g u.val v.val)(hN:∀W,Below w.heap.size w W→Calls Tryz.prog 131 #[u.val] W fun e w'=>Below W.heap.size W w'∧∃s:Sl,e=.returned s.val∧Own 3 1 w' s (Zax t)∧s.len=u.len∧s.cap=u.len∧∀k,s.blk=some k→W.heap.size≤k)(hB:∀W,Below w.heap.size w W→Calls Tryz.prog 132 #[v.val] W fun e w'=>Below W.heap.size W w'∧∃s:Sl,e=.returned s.val∧Own 56 1 w' s (Za2 l)∧s.len=v.len∧s.cap=v.len∧∀k,s.blk=some k→W.heap.size≤k)
    {Q:Exit→Act→World→Prop}(aj:A.tmps.size=29)(ai:A.defers=[])(s1:A.tmps.getD 1 undef=.pointer (some ⟨g,0,none⟩))
    (hend:∀(u:Nat→Value) w' (g3:Nat)(s2 s5:Sl),Cp w w' g3 s2 s5 t l→Q .normal (((((((((A).put (some 6) (u 6)).put (some 7) (u 7)).put (some 9) (u 9)).put (some 10) (u 10)).put (some 8) (u 8)).put (some 11) (u 11)).put (some 12) (u 12)).put (some 3) (.pointer (some ⟨g3,0,none⟩))) w') :
    (Code.region 1 (Pl.find 1 ((Tryz.f95.body).getD .skip)) true).wp Tryz.prog Q A w:=by
  have hA:=Pl.At.same (v:=.pointer (some ⟨g,0,none⟩)) (d:=1) (Pl.At.here aj ai) s1;refine Pl.qa (S:=(fun w'=>Below w.heap.size w w')) hA (Zab w) ?_;rw [show (Pl.find 1 ((Tryz.f95.body).getD .skip)).size=9 by kernel_rfl];refine Pl.q0 0 6 (.pointer (some ⟨g,0,none⟩)) (Pl.q1) (Pl.q5 67 (.tmp 1) 0 (Zda g)) (Zab w) ?_;refine Pl.q0 1 7 (Sl.val u) (Pl.q1) (Pl.q3 46 (.tmp 6) (fun w' hS=>Zdc g u v.val w' (hg.below hS))) (Zab w) ?_;refine Pl.q0 3 9 (.pointer (some ⟨g,1,none⟩)) (Pl.q1) (Pl.q5 67 (.tmp 1) 1 (Zjz g)) (Zab w) ?_;refine Pl.q0 4 10 (Sl.val v) (Pl.q1) (Pl.q3 65 (.tmp 9) (fun w' hS=>ZjF g u.val v w' (hg.below hS))) (Zab w) ?_;refine Pl.qr 2 7 ?_ ?_
  · refine Pl.qm 2 8 131 [(.tmp 7)] #[46] Zk8 (Calls.mono (hN w.drew (Zab w)) ?_);rintro e w2 ⟨af,s2,rfl,ag,_,_,ah⟩;have e2:=Zad (Zab w) af;have un:∀k,s2.blk=some k→w.heap.size≤k:=fun k hk=>Nat.le_trans (Zab w).size (ah k hk);refine⟨Sl.val s2,rfl,e2,?_⟩;refine Pl.qr 5 7 ?_ ?_
    · refine Pl.qm 5 11 132 [(.tmp 10)] #[65] ZhN (Calls.mono (hB w2 e2) ?_);rintro e w5 ⟨ab,s5,rfl,ad,_,_,ae⟩;have e5:=Zad e2 ab;have n5:OwnN w5 s2 t:=Own.below ag ab;have vn:∀k,s5.blk=some k→w.heap.size≤k:=fun k hk=>Nat.le_trans e2.size (ae k hk);refine⟨Sl.val s5,rfl,e5,?_⟩;refine Pl.q0 6 12 (lfV s2 s5) (Pl.q1) (Pl.qy 67 [(0,.tmp 8),(1,.tmp 11)] (Zgf s2 s5)) e5 ?_;have ac:=Zaa w5 (.cells #[.slice none 0 0,.slice none 0 0] 67);have e7:=Zad e5 ac;have n7:OwnN (w5.alloc (.cells #[.slice none 0 0,.slice none 0 0] 67)) s2 t:=Own.below n5 ac;have b7:OwnB (w5.alloc (.cells #[.slice none 0 0,.slice none 0 0] 67)) s5 l:=Own.below ad ac;have k7:=Zaj w5 (.slice none 0 0) (.slice none 0 0);have gn:w.heap.size≤w5.heap.size:=e5.size;refine Pl.qo 7 3 (.pointer (some ⟨w5.heap.size,0,none⟩)) (w5.alloc (.cells #[.slice none 0 0,.slice none 0 0] 67)) (Pl.q1) (Pl.qq 67 (Zav w5)) e7 ?_;obtain⟨W8,aa,k8,f8⟩:=ZaN (w5.alloc (.cells #[.slice none 0 0,.slice none 0 0] 67)) w5.heap.size _ _ k7 s2 s5;have e8:Below w.heap.size w W8:=e7.trans (f8.below e7.size (fun k hk=>by rw [hk];exact gn));have cp:Cp w W8 w5.heap.size s2 s5 t l:=⟨k8,Own.kept n7 f8 (Own.unbox n7 k7 (by decide)),Own.kept b7 f8 (Own.unbox b7 k7 (by decide)),un,vn,gn,e8⟩;refine Pl.qh 8 W8 (Pl.q1) (Pl.qi 67 (.tmp 3) (.tmp 12) aa) e8 ?_;refine Pl.q7 (fun A' hA'=>?_);rw [Pl.At.ext hA' ((((((((hA.put 6 _).put 7 _).put 9 _).put 10 _).put 8 _).put 11 _).put 12 _).put 3 _)];exact hend hA'.fn _ _ s2 s5 cp
    · have ac:=Zaa w2 (.cells #[.slice none 0 0,.slice none 0 0] 67);have e7:=Zad e2 ac;have n7:OwnN (w2.alloc (.cells #[.slice none 0 0,.slice none 0 0] 67)) s2 t:=Own.below ag ac;have k7:=Zaj w2 (.slice none 0 0) (.slice none 0 0);have gn:w.heap.size≤w2.heap.size:=e2.size;refine Pl.qk 7 3 (.pointer (some ⟨w2.heap.size,0,none⟩)) (w2.alloc (.cells #[.slice none 0 0,.slice none 0 0] 67)) (Pl.qq 67 (Zav w2)) e7 ?_;refine Pl.qd 5 11 132 [(.tmp 10)] #[65] (Pl.q1) ZhN (Calls.mono (hB (w2.alloc (.cells #[.slice none 0 0,.slice none 0 0] 67)) e7) ?_);rintro e w5 ⟨ab,s5,rfl,ad,_,_,ae⟩;have e5:=Zad e7 ab;have n5:OwnN w5 s2 t:=Own.below n7 ab;have k5:LfBlk w5 w2.heap.size (.slice none 0 0) (.slice none 0 0):=LfBlk.below k7 ab;have vn:∀k,s5.blk=some k→w.heap.size≤k:=fun k hk=>Nat.le_trans e7.size (ae k hk);refine⟨Sl.val s5,rfl,e5,?_⟩;rw [Pl.qg 3 11];refine Pl.q0 6 12 (lfV s2 s5) (Pl.q1) (Pl.qy 67 [(0,.tmp 8),(1,.tmp 11)] (Zgf s2 s5)) e5 ?_;rw [Pl.qg 3 12];obtain⟨W8,aa,k8,f8⟩:=ZaN w5 w2.heap.size _ _ k5 s2 s5;have e8:Below w.heap.size w W8:=e5.trans (f8.below e5.size (fun k hk=>by rw [hk];exact gn));have cp:Cp w W8 w2.heap.size s2 s5 t l:=⟨k8,Own.kept n5 f8 (Own.unbox n5 k5 (by decide)),Own.kept ad f8 (Own.unbox ad k5 (by decide)),un,vn,gn,e8⟩;refine Pl.qh 8 W8 (Pl.q1) (Pl.qi 67 (.tmp 3) (.tmp 12) aa) e8 ?_;refine Pl.q7 (fun A' hA'=>?_);rw [Pl.At.ext hA' ((((((((hA.put 6 _).put 7 _).put 9 _).put 10 _).put 8 _).put 11 _).put 12 _).put 3 _)];exact hend hA'.fn _ _ s2 s5 cp
  · have ac:=Zaa w.drew (.cells #[.slice none 0 0,.slice none 0 0] 67);have e7:=Zad (Zab w) ac;have k7:=Zaj w.drew (.slice none 0 0) (.slice none 0 0);have gn:w.heap.size≤w.drew.heap.size:=(Zab w).size;refine Pl.qk 7 3 (.pointer (some ⟨w.drew.heap.size,0,none⟩)) (w.drew.alloc (.cells #[.slice none 0 0,.slice none 0 0] 67)) (Pl.qq 67 (Zav w.drew)) e7 ?_;refine Pl.qd 2 8 131 [(.tmp 7)] #[46] (Pl.q1) Zk8 (Calls.mono (hN (w.drew.alloc (.cells #[.slice none 0 0,.slice none 0 0] 67)) e7) ?_);rintro e w2 ⟨af,s2,rfl,ag,_,_,ah⟩;have e2:=Zad e7 af;have k2:LfBlk w2 w.drew.heap.size (.slice none 0 0) (.slice none 0 0):=LfBlk.below k7 af;have un:∀k,s2.blk=some k→w.heap.size≤k:=fun k hk=>Nat.le_trans e7.size (ah k hk);refine⟨Sl.val s2,rfl,e2,?_⟩;rw [Pl.qg 3 8];refine Pl.qd 5 11 132 [(.tmp 10)] #[65] (Pl.q1) ZhN (Calls.mono (hB w2 e2) ?_);rintro e w5 ⟨ab,s5,rfl,ad,_,_,ae⟩;have e5:=Zad e2 ab;have n5:OwnN w5 s2 t:=Own.below ag ab;have k5:LfBlk w5 w.drew.heap.size (.slice none 0 0) (.slice none 0 0):=LfBlk.below k2 ab;have vn:∀k,s5.blk=some k→w.heap.size≤k:=fun k hk=>Nat.le_trans e2.size (ae k hk);refine⟨Sl.val s5,rfl,e5,?_⟩;rw [Pl.qg 3 11];refine Pl.q0 6 12 (lfV s2 s5) (Pl.q1) (Pl.qy 67 [(0,.tmp 8),(1,.tmp 11)] (Zgf s2 s5)) e5 ?_;rw [Pl.qg 3 12];obtain⟨W8,aa,k8,f8⟩:=ZaN w5 w.drew.heap.size _ _ k5 s2 s5;have e8:Below w.heap.size w W8:=e5.trans (f8.below e5.size (fun k hk=>by rw [hk];exact gn));have cp:Cp w W8 w.drew.heap.size s2 s5 t l:=⟨k8,Own.kept n5 f8 (Own.unbox n5 k5 (by decide)),Own.kept ad f8 (Own.unbox ad k5 (by decide)),un,vn,gn,e8⟩;refine Pl.qh 8 W8 (Pl.q1) (Pl.qi 67 (.tmp 3) (.tmp 12) aa) e8 ?_;refine Pl.q7 (fun A' hA'=>?_);rw [Pl.At.ext hA' ((((((((hA.put 6 _).put 7 _).put 9 _).put 10 _).put 8 _).put 11 _).put 12 _).put 3 _)];exact hend hA'.fn _ _ s2 s5 cp
structure Ly (w w':World) (g:Nat) (u v:Sl) (l:List Sb) (i:Nat) (xs:List Nat) (s:Sl):Prop where
  k:LfBlk w' g u.val v.val
  ob:OwnB w' v (l.set i ⟨s,xs⟩)
  os:Own 5 1 w' s (vals xs)
  si:∀k,s.blk=some k→w.heap.size≤k
  len:s.len=xs.length
  f:Frm (fun k=>v.blk=some k) w w'
theorem Own.apart {e2:TypeId}{z2:Nat}{s2:Sl}{vs2:List Value}(h:Own e z w s vs)(h2:Own e2 z2 w s2 vs2)(he:e≠e2):∀k,s.blk=some k→s2.blk≠some k:=by
 intro k hk ab;obtain⟨c,hc⟩:=h.kind hk;obtain⟨c2,aa⟩:=h2.kind ab;rw [hc] at aa;simp only [Option.some.injEq,Obj.cells.injEq] at aa;exact he aa.2.1
theorem Zpo (w:World)(g b o len cap i:Nat)(un x:Sl)(l:List Sb)(xs:List Nat)(hi:i<len)(ak:x.len=xs.length)(hg:LfBlk w g un.val (.slice (some ⟨b,o,none⟩) len cap))(aa:OwnB w ⟨some ⟨b,o,none⟩,len,cap⟩ l)(hU:∀W,Below w.heap.size w W→Calls Tryz.prog 133 #[x.val] W fun e w'=>Below W.heap.size W w'∧∃s:Sl,e=.returned s.val∧Own 5 1 w' s (vals xs)∧s.len=x.len∧s.cap=x.len∧∀k,s.blk=some k→W.heap.size≤k)
    {Q:Exit→Act→World→Prop}(aj:A.tmps.size=29)(af:A.defers=[])(s3:A.tmps.getD 3 undef=.pointer (some ⟨g,0,none⟩))(s4:A.tmps.getD 4 undef=.int .i64 (i:Int))(s5:A.tmps.getD 5 undef=Sl.val x)
    (hend:∀(u:Nat→Value) w' (s4:Sl),Ly w w' g un ⟨some ⟨b,o,none⟩,len,cap⟩ l i xs s4→Q .normal (((((((A).put (some 21) (u 21)).put (some 22) (u 22)).put (some 23) (u 23)).put (some 24) (u 24)).put (some 25) (u 25)).put (some 26) (u 26)) w') :
    (Code.region 5 (Pl.find 5 ((Tryz.f95.body).getD .skip)) true).wp Tryz.prog Q A w:=by
  have hA:=Pl.At.same (v:=Sl.val x) (d:=5) (Pl.At.same (v:=.int .i64 (i:Int)) (d:=4) (Pl.At.same (v:=.pointer (some ⟨g,0,none⟩)) (d:=3) (Pl.At.here aj af) s3) s4) s5;refine Pl.qa (S:=(fun w'=>Below w.heap.size w w'∨∃s,Ly w w' g un ⟨some ⟨b,o,none⟩,len,cap⟩ l i xs s)) hA (.inl (Zab w)) ?_;rw [show (Pl.find 5 ((Tryz.f95.body).getD .skip)).size=7 by kernel_rfl];refine Pl.q0 0 21 (.pointer (some ⟨g,1,none⟩)) (Pl.q1) (Pl.q5 67 (.tmp 3) 1 (Zjz g)) (.inl (Zab w)) ?_;refine Pl.q0 1 22 (.slice (some ⟨b,o,none⟩) len cap) (Pl.q1) (Pl.q3 65 (.tmp 21) (fun w' hS=>ZjF g un.val ⟨some ⟨b,o,none⟩,len,cap⟩ w' (hS.elim (fun h=>hg.below h) (fun h=>h.elim fun _ q=>q.k)))) (.inl (Zab w)) ?_;refine Pl.q0 2 23 (.int .i64 (i:Int)) (Pl.q1) (Pl.q2 (.tmp 4)) (.inl (Zab w)) ?_;refine Pl.q0 3 24 (Sl.val x) (Pl.q1) (Pl.q2 (.tmp 5)) (.inl (Zab w)) ?_;refine Pl.qd 4 25 133 [(.tmp 24)] #[56] (Pl.q1) Zk9 (Calls.mono (hU w.drew (Zab w)) ?_);rintro e w4 ⟨ae,s4,rfl,ad,ah,_,ag⟩;have e4:=Zad (Zab w) ae;refine⟨Sl.val s4,rfl,(.inl e4),?_⟩;refine Pl.q0 5 26 (.pointer (some ⟨b,o+i,none⟩)) (Pl.q1) (Pl.qb 65 (.tmp 22) (.tmp 23) (ixB1 b o len cap i hi)) (.inl e4) ?_;obtain⟨W6,ab,ob6,f6⟩:=Zea w4 b o len cap l (Own.below aa e4) i hi ⟨s4,xs⟩;have ac:LfBlk w4 g un.val (.slice (some ⟨b,o,none⟩) len cap):=hg.below e4;have ai:g≠b:=fun e=>Own.unbox (Own.below aa e4) ac (by decide) (by rw [e];rfl);have ly:Ly w W6 g un ⟨some ⟨b,o,none⟩,len,cap⟩ l i xs s4:=⟨ac.off f6 ai,ob6,Own.kept ad f6 (fun e=>Own.apart ad (Own.below aa e4) (by decide) b e rfl),fun k hk=>ag k hk,by rw [ah,ak],(Frm.ofBelow e4).trans (f6.mono (fun k _ e=>by rw [e];rfl)) (fun _ _ h=>h)⟩;refine Pl.qh 6 W6 (Pl.q1) (Pl.qi 56 (.tmp 26) (.tmp 25) ab) (.inr ⟨s4,ly⟩) ?_;refine Pl.q7 (fun A' hA'=>?_);rw [Pl.At.ext hA' ((((((hA.put 21 _).put 22 _).put 23 _).put 24 _).put 25 _).put 26 _)];exact hend hA'.fn _ s4 ly
theorem lay4 (w:World)(g b o len cap i:Nat)(un x:Sl)(l:List Sb)(xs:List Nat)(hi:i<len)(ak:x.len=xs.length)(hg:LfBlk w g un.val (.slice (some ⟨b,o,none⟩) len cap))(aa:OwnB w ⟨some ⟨b,o,none⟩,len,cap⟩ l)(hU:∀W,Below w.heap.size w W→Calls Tryz.prog 133 #[x.val] W fun e w'=>Below W.heap.size W w'∧∃s:Sl,e=.returned s.val∧Own 5 1 w' s (vals xs)∧s.len=x.len∧s.cap=x.len∧∀k,s.blk=some k→W.heap.size≤k)
    {Q:Exit→Act→World→Prop}(aj:A.tmps.size=36)(af:A.defers=[])(s8:A.tmps.getD 8 undef=.pointer (some ⟨g,0,none⟩))(s1:A.tmps.getD 1 undef=.int .i64 (i:Int))(s2:A.tmps.getD 2 undef=Sl.val x)
    (hend:∀(u:Nat→Value) w' (s4:Sl),Ly w w' g un ⟨some ⟨b,o,none⟩,len,cap⟩ l i xs s4→Q .normal (((((((A).put (some 24) (u 24)).put (some 25) (u 25)).put (some 26) (u 26)).put (some 27) (u 27)).put (some 28) (u 28)).put (some 29) (u 29)) w') :
    (Code.region 4 (Pl.find 4 ((Tryz.f101.body).getD .skip)) true).wp Tryz.prog Q A w:=by
  have hA:=Pl.At.same (v:=Sl.val x) (d:=2) (Pl.At.same (v:=.int .i64 (i:Int)) (d:=1) (Pl.At.same (v:=.pointer (some ⟨g,0,none⟩)) (d:=8) (Pl.At.here aj af) s8) s1) s2;refine Pl.qa (S:=(fun w'=>Below w.heap.size w w'∨∃s,Ly w w' g un ⟨some ⟨b,o,none⟩,len,cap⟩ l i xs s)) hA (.inl (Zab w)) ?_;rw [show (Pl.find 4 ((Tryz.f101.body).getD .skip)).size=7 by kernel_rfl];refine Pl.q0 0 24 (.pointer (some ⟨g,1,none⟩)) (Pl.q1) (Pl.q5 67 (.tmp 8) 1 (Zjz g)) (.inl (Zab w)) ?_;refine Pl.q0 1 25 (.slice (some ⟨b,o,none⟩) len cap) (Pl.q1) (Pl.q3 65 (.tmp 24) (fun w' hS=>ZjF g un.val ⟨some ⟨b,o,none⟩,len,cap⟩ w' (hS.elim (fun h=>hg.below h) (fun h=>h.elim fun _ q=>q.k)))) (.inl (Zab w)) ?_;refine Pl.q0 2 26 (.int .i64 (i:Int)) (Pl.q1) (Pl.q2 (.tmp 1)) (.inl (Zab w)) ?_;refine Pl.q0 3 27 (Sl.val x) (Pl.q1) (Pl.q2 (.tmp 2)) (.inl (Zab w)) ?_;refine Pl.qd 4 28 133 [(.tmp 27)] #[56] (Pl.q1) Zk9 (Calls.mono (hU w.drew (Zab w)) ?_);rintro e w4 ⟨ae,s4,rfl,ad,ah,_,ag⟩;have e4:=Zad (Zab w) ae;refine⟨Sl.val s4,rfl,(.inl e4),?_⟩;refine Pl.q0 5 29 (.pointer (some ⟨b,o+i,none⟩)) (Pl.q1) (Pl.qb 65 (.tmp 25) (.tmp 26) (ixB1 b o len cap i hi)) (.inl e4) ?_;obtain⟨W6,ab,ob6,f6⟩:=Zea w4 b o len cap l (Own.below aa e4) i hi ⟨s4,xs⟩;have ac:LfBlk w4 g un.val (.slice (some ⟨b,o,none⟩) len cap):=hg.below e4;have ai:g≠b:=fun e=>Own.unbox (Own.below aa e4) ac (by decide) (by rw [e];rfl);have ly:Ly w W6 g un ⟨some ⟨b,o,none⟩,len,cap⟩ l i xs s4:=⟨ac.off f6 ai,ob6,Own.kept ad f6 (fun e=>Own.apart ad (Own.below aa e4) (by decide) b e rfl),fun k hk=>ag k hk,by rw [ah,ak],(Frm.ofBelow e4).trans (f6.mono (fun k _ e=>by rw [e];rfl)) (fun _ _ h=>h)⟩;refine Pl.qh 6 W6 (Pl.q1) (Pl.qi 56 (.tmp 29) (.tmp 28) ab) (.inr ⟨s4,ly⟩) ?_;refine Pl.q7 (fun A' hA'=>?_);rw [Pl.At.ext hA' ((((((hA.put 24 _).put 25 _).put 26 _).put 27 _).put 28 _).put 29 _)];exact hend hA'.fn _ s4 ly
def Off (B:Nat) (u v:Sl):Nat→Prop:=fun k=>B≤k∧u.blk≠some k∧v.blk≠some k
structure Lw (B:Nat) (w:World) (u v:Sl) (t:List Int) (l:List Sb):Prop where
  oi:OwnN w u t
  ob:OwnB w v l
  ui:∀k,u.blk=some k→B≤k
  vi:∀k,v.blk=some k→B≤k
  bs:∀x∈l,Cm (Off B u v) w x.s x.bs∧x.bs.length≤1000
theorem Frm.lf {F:Nat→Prop}{p:Nat}{u v:Value}(f:Frm F w w')(k:LfBlk w p u v)(hp:¬F p):LfBlk w' p u v:=(f.block p k.lt hp).trans k
theorem Zfj (h:i<l.length)(x:Sb):(l.set i x).getD i Sb.zero=x:=by simp [List.getD,h]
theorem Zcx {j:Nat}(h:i≠j)(x:Sb):(l.set i x).getD j Sb.zero=l.getD j Sb.zero:=by simp [List.getD,h]
theorem Zls {x:Sb}(h:x∈l):∃i,i<l.length∧l.getD i Sb.zero=x:=by
 obtain⟨i,hi,e⟩:=List.mem_iff_getElem.1 h;exact⟨i,hi,by simp [List.getD,hi,e]⟩
structure Co (w wr:World) (g:Nat) (u v:Sl) (t:List Int) (l m:List Sb) (i:Nat):Prop where
  k3:LfBlk wr g u.val v.val
  k2:LfBlk wr (w.heap.size+1) (.slice none 0 0) (.slice none 0 0)
  oi:OwnN wr u t
  ob:OwnB wr v m
  ui:∀k,u.blk=some k→w.heap.size+2≤k
  vi:∀k,v.blk=some k→w.heap.size+2≤k
  len:m.length=l.length
  same:bss m=bss l
  new:∀j,j<i→Cm (Off (w.heap.size+2) u v) wr (m.getD j Sb.zero).s (m.getD j Sb.zero).bs
  old:∀j,i≤j→m.getD j Sb.zero=l.getD j Sb.zero
  e:Below w.heap.size w wr
  sz:w.heap.size+2≤wr.heap.size
theorem Own.offs {B:Nat}{u v:Sl}{t:List Int}(h:Own 5 1 w s (vals xs))(hx:Bytes xs)(hk:∀k,s.blk=some k→B≤k)(oi:OwnN w u t)(ob:OwnB w v l):Cm (Off B u v) w s xs:=by
 refine⟨h.came hx,fun ad ha _=>?_⟩;(have hb:s.blk=some ad.block:=by rw [Sl.blk,ha];rfl);exact⟨hk _ hb,Own.apart h oi (by decide) _ hb,Own.apart h ob (by decide) _ hb⟩
theorem Co.step {wr:World}{u v:Sl}{t:List Int}{m:List Sb}(c:Co w wr g u v t l m i)(hi:i<l.length)(hx:Bytes (l.getD i Sb.zero).bs)(y:Ly wr w' g u v m i (l.getD i Sb.zero).bs s):Co w w' g u v t l (m.set i ⟨s,(l.getD i Sb.zero).bs⟩) (i+1):=by
 have ab:=c.sz;have aa:OwnN w' u t:=Own.frame c.oi (fun k hk=>y.f.block k (Own.lt c.oi hk) (Own.apart c.oi c.ob (by decide) k hk));refine⟨y.k,y.f.lf c.k2 (fun e=>Own.unbox c.ob c.k2 (by decide) e),aa,y.ob,c.ui,c.vi,by rw [List.length_set];exact c.len,?_,fun j hj=>?_,fun j hj=>?_,?_,Nat.le_trans ab y.f.size⟩
 · rw [ZbT,← c.same];(have hm:i<m.length:=by rw [c.len];exact hi);have:(l.getD i Sb.zero).bs=(bss m)[i]'(by rw [Zag];exact hm):=by
    rw [← c.old i (Nat.le_refl _)];simp [bss,List.getD,hm]
   rw [this];exact List.set_getElem_self _
 · by_cases e:i=j
   · subst e;rw [Zfj (by rw [c.len];exact hi)];exact Own.offs y.os hx (fun k hk=>Nat.le_trans ab (y.si k hk)) aa y.ob
   · rw [Zcx e];exact(c.new j (by omega)).keep (Kept.frm y.f (fun k hk=>hk.2.2))
 · rw [Zcx (by omega)];exact c.old j (by omega)
 · exact c.e.trans (y.f.below c.e.size (fun k hk=>by have:=c.vi k hk;omega))
def Ziy (w:World) (t:List Int) (l:List Sb) (e:Ending) (w':World):Prop:=Below w.heap.size w w'∧∃(u' v':Sl) (l':List Sb),e=.returned (lfV u' v')∧Lw (w.heap.size+2) w' u' v' t l'∧bss l'=bss l
theorem ZbH {D:Nat→Prop}(w:World)(u v:Sl)(t:List Int)(l:List Sb)(hi:Gi D w u t)(hg:Gb D w v l) :
    Calls Tryz.prog 95 #[lfV u v] w fun e w'=>Ziy w t l e w':=by
  have hT:=Tb.start u hg;have HT:=hide hT;have HI:=hide hi;have HG:=hide hg;have HL:=hide hg.len;have ao:=hg.big;clear hT hi hg;obtain⟨a,len,cap⟩:=v;obtain⟨ua,ul,uc⟩:=u;unfold lfV Sl.val at *;simp only at *;go_enter Tryz.func95,Tryz.ntmps95;go_wp2_with fail;generalize (w.alloc (.cells #[.slice ua ul uc,.slice a len cap] 67)).alloc (.cells #[.slice none 0 0,.slice none 0 0] 67)=W at *;refine Pl.q9 (ops:=Pl.find 1 ((Tryz.f95.body).getD .skip)) ?_;refine Zpn W w.heap.size ⟨ua,ul,uc⟩ ⟨a,len,cap⟩ t l HT.out.k1 (fun W' hW=>Zoc W' _ t (HI.out.below (Zad HT.out.e hW) (Nat.le_refl _))) (fun W' hW=>Zly W' _ l (HG.out.below (Zad HT.out.e hW) (Nat.le_refl _))) (by rfl) rfl (by rfl) ?_;intro q w1 g3 s2 s5 cp;obtain⟨a2,n2,c2⟩:=s2;obtain⟨a5,n5,c5⟩:=s5;(have ar:n5=len:=by have:=OwnB.len cp.ob;rw [HL.out] at this;exact this.symm);subst ar;have al:Hid (Co w w1 g3 ⟨a2,n2,c2⟩ ⟨a5,n5,c5⟩ t l l 0):=⟨cp.k,HT.out.k2.below cp.e,cp.oi,cp.ob,fun k hk=>Nat.le_trans HT.out.sz (cp.ui k hk),fun k hk=>Nat.le_trans HT.out.sz (cp.vi k hk),rfl,rfl,fun _ h=>absurd h (Nat.not_lt_zero _),fun _ _=>rfl,Zad HT.out.e cp.e,Nat.le_trans HT.out.sz cp.e.size⟩;have c0:=cp.k.c0;have c1:=cp.k.c1;have au:Hid (w.heap.size+2≤g3):=Nat.le_trans HT.out.sz cp.gi;clear cp;simp only [Act.put,List.setIfInBounds_toArray,List.set_cons_zero,List.set_cons_succ];unfold Sl.val at *;simp only at *;go_wp2_with fail;go_loopw [16] (fun iv wr=>∃i:Nat,i≤n5∧iv=.int .i64 (i:Nat)∧Hid (∃m,Co w wr g3 ⟨a2,n2,c2⟩ ⟨a5,n5,c5⟩ t l m i)) (fun iv _=>n5-(intOf iv).toNat)
  case atStart=>exact ⟨0,Nat.zero_le _,rfl,⟨l,al.out⟩⟩
  case round =>
   obtain⟨i,hi,rfl,ai⟩:=hrel;obtain⟨m,co⟩:=ai.out;rcases Nat.lt_or_ge i n5 with ad | av
   · (have i1:(i:Int)<(n5:Int):=by omega);obtain⟨b5,o5,ag⟩:=OwnB.pos co.ob (by show 0<n5;omega);replace ag:a5=some ⟨b5,o5,none⟩:=ag;subst ag;have ci:=OwnB.cellAt co.ob rfl ad;rw [co.old i (Nat.le_refl _)] at ci;have ab:=HG.out.bs _ (ZbL (l:=l) (i:=i) (by rw [HL.out];exact ad));have HU:Hid (∀W',Below wr.heap.size wr W'→Calls Tryz.prog 133 #[(l.getD i Sb.zero).s.val] W' fun e w'=>Below W'.heap.size W' w'∧∃s:Sl,e=.returned s.val∧Own 5 1 w' s (vals (l.getD i Sb.zero).bs)∧s.len=(l.getD i Sb.zero).s.len∧s.cap=(l.getD i Sb.zero).s.len∧∀k,s.blk=some k→W'.heap.size≤k):=fun W' hW=>Zht W' _ _ (ab.1.keep (Kept.all (Zad co.e hW) (Nat.le_refl _))) (by have:=ab.1.len;have:=ab.2;omega);have HX:=hide ab.1.came.bs.2.1;have af:=hide ab.1.len.symm;have aa:=hide co;clear co ai ab;obtain⟨x,hx⟩:∃x,x=l.getD i Sb.zero:=⟨_,rfl⟩;rw [← hx] at ci HU HX af;have aj:=hide hx;clear hx;obtain⟨⟨xa,xl,xc⟩,xs⟩:=x;unfold Sl.val at ci HU;simp only at *;go_wp2_with fail;refine Pl.q9 (ops:=Pl.find 5 ((Tryz.f95.body).getD .skip)) ?_;refine Zpo wr g3 b5 o5 n5 c5 i ⟨a2,n2,c2⟩ ⟨xa,xl,xc⟩ m xs ad af.out aa.out.k3 aa.out.ob HU.out (by rfl) rfl (by rfl) (by rfl) (by rfl) ?_;intro q w2 s4 ly;have an:Hid (∃m,Co w w2 g3 ⟨a2,n2,c2⟩ ⟨some ⟨b5,o5,none⟩,n5,c5⟩ t l m (i+1)):=by
      (have ak:xs=(l.getD i Sb.zero).bs:=by rw [← aj.out]);rw [ak] at ly;(have ah:Bytes (l.getD i Sb.zero).bs:=by rw [← ak];exact HX.out);exact⟨_,aa.out.step (by rw [HL.out];exact ad) ah ly⟩
     clear ly aj HX af HU aa;simp only [Act.put,List.setIfInBounds_toArray,List.set_cons_zero,List.set_cons_succ];go_wp2_with fail;go_roundw
     case rel=>exact ⟨i+1,by omega,by go_num,an⟩
     case measure=>simp only [intOf];omega
   · (have i1:¬(i:Int)<(n5:Int):=by omega);(have e0:i=n5:=by omega);subst e0;have d0:=co.k3.c0;have d1:=co.k3.c1;obtain⟨W9,ac,k9,f9⟩:=ZaN wr _ _ _ co.k2 ⟨a2,n2,c2⟩ ⟨a5,i,c5⟩;have ae:=hide ac;have am:=hide k9;have HF:Hid (Ziy w t l (.returned (lfV ⟨a2,n2,c2⟩ ⟨a5,i,c5⟩)) W9):=by
      refine⟨co.e.trans (f9.below co.e.size (fun k hk=>by rw [hk];exact Nat.le_succ _)),⟨a2,n2,c2⟩,⟨a5,i,c5⟩,m,rfl,⟨Own.kept co.oi f9 (Own.unbox co.oi co.k2 (by decide)),Own.kept co.ob f9 (Own.unbox co.ob co.k2 (by decide)),co.ui,co.vi,fun x hx=>?_⟩,co.same⟩;obtain⟨j,hj,rfl⟩:=Zls hx;(have aq:j<l.length:=by rw [← co.len];exact hj);have ah:(m.getD j Sb.zero).bs=(l.getD j Sb.zero).bs:=by
       have h1:=Zfn m j;have h2:=Zfn l j;rw [co.same,h2] at h1;exact h1.symm
      (have ap:j<i:=by have:=HL.out;omega);refine⟨(co.new j ap).keep (Kept.frm f9 (fun k hk e=>by rw [e] at hk;have:=hk.1;omega)),?_⟩;rw [ah];exact(HG.out.bs _ (ZbL aq)).2
     clear co ac k9 f9 ai;unfold Sl.val at *;simp only at *;go_wp2_with (refine Zac _ rfl rfl 67 (.tmp 2) (.tmp 28) rfl (.pointer (some ⟨w.heap.size+1,0,none⟩)) (.agg #[.slice a2 n2 c2,.slice a5 i c5]) rfl rfl W9 ae.out ?_);refine bodyPost_ret (ZfC (u:=⟨a2,n2,c2⟩) (v:=⟨a5,i,c5⟩) rfl am.out _ rfl) rfl ?_;exact HF.out
def lvV (b:Nat):Value:=.func (.func 136) #[] #[.pointer (some ⟨b,0,none⟩)]
def outB (live:List Int) (x:Int):Bool:=!(live.contains x)
theorem Zlj {D:Nat→Prop}(x:Int)(b:Nat)(r:Sl)(live:List Int)(w:World)(hb:w.cell? ⟨b,0,none⟩=some r.val)(hr:Gi D w r live):Calls Tryz.prog 136 #[.int .i64 x,.pointer (some ⟨b,0,none⟩)] w fun e w'=>e=.returned (.bool (outB live x))∧w'=w:=by
 have HC:=hide (Zcu w r live hr x);unfold outB;obtain⟨c,hc⟩:∃c,c=live.contains x:=⟨_,rfl⟩;rw [← hc] at HC;rw [← hc];clear hc hr;obtain⟨ra,rl,rc⟩:=r;unfold Sl.val at *;simp only at *;go_enter Tryz.func136,Tryz.ntmps136;go_wp2_with fail;refine HC.out.mono ?_;rintro e w1 ⟨rfl,hw⟩;obtain rfl:=hw.symm;go_wp2_with fail;go_ret;exact⟨rfl,rfl⟩
theorem Zmy {D:Nat→Prop}(w:World)(v:Sl)(t:List Int)(h:Gi D w v t)(b:Nat)(r:Sl)(live:List Int)(hb:w.cell? ⟨b,0,none⟩=some r.val)(hr:Gi D w r live) :
    Calls Tryz.prog 135 #[v.val,lvV b] w fun e w'=>e=.returned (.int .i64 (ixI (outB live) t 0))∧w'=w:=by
  obtain⟨a,len,cap⟩:=v;have HG:=hide h;have hl:t.length=len:=h.len;have HL:=hide hl;have ad:len≤1000000:=h.big;have HC:Hid (∀x,Calls Tryz.prog 136 #[.int .i64 x,.pointer (some ⟨b,0,none⟩)] w fun e w'=>e=.returned (.bool (outB live x))∧w'=w):=fun x=>Zlj x b r live w hb hr;have HI:Hid (ixI (outB live) t 0=ixI (outB live) (t.drop 0) 0):=rfl;clear h hl hb hr;unfold Sl.val lvV;simp only;go_enter Tryz.func135,Tryz.ntmps135;go_wp2_with fail;go_loopw [8] (fun iv wr=>wr=w∧∃i:Nat,i≤len∧iv=.int .i64 (i:Nat)∧Hid (ixI (outB live) t 0=ixI (outB live) (t.drop i) i)) (fun iv _=>len-(intOf iv).toNat)
  case atStart=>exact ⟨rfl,0,Nat.zero_le _,rfl,HI⟩
  case round =>
   obtain⟨rfl,i,hi,rfl,aa⟩:=hrel;rcases Nat.lt_or_ge i len with ac | ae
   · (have i1:(i:Int)<(len:Int):=by omega);obtain⟨bb,oo,ha,c0⟩:=HG.out.cell i ac;replace ha:a=some ⟨bb,oo,none⟩:=ha;subst ha;obtain⟨x,hx⟩:∃x,x=t.getD i 0:=⟨_,rfl⟩;rw [← hx] at c0;have HX:=hide hx;have ab:=hide (HC.out x);clear hx;cases hon:outB live x with
     | true =>
      rw [hon] at ab;have HE:Hid (ixI (outB live) t 0=(i:Int)):=aa.out.trans (Zlg (by rw [HL.out];exact ac) (by rw [← HX.out];exact hon));clear aa hon HX;go_wp2_with fail;refine ab.out.mono ?_;rintro e w1 ⟨rfl,hw⟩;obtain rfl:=hw.symm;go_wp2_with fail;go_ret;exact⟨by rw [HE.out];rfl,rfl⟩
     | false =>
      rw [hon] at ab;have HE:Hid (ixI (outB live) t 0=ixI (outB live) (t.drop (i+1)) (i+1)):=aa.out.trans (ZiP (by rw [HL.out];exact ac) (by rw [← HX.out];exact hon));clear aa hon HX;go_wp2_with fail;refine ab.out.mono ?_;rintro e w1 ⟨rfl,hw⟩;obtain rfl:=hw.symm;go_wp2_with fail;go_roundw
      case rel=>exact ⟨trivial,i+1,by omega,by go_num,HE⟩
      case measure=>simp only [intOf];omega
   · have HE:Hid (ixI (outB live) t 0 = -1):=aa.out.trans (Zlf (by rw [HL.out];exact ae));(have i1:¬(i:Int)<(len:Int):=by omega);clear aa;go_wp2_with fail;go_ret;exact⟨by rw [HE.out];rfl,rfl⟩
theorem ZlX:(fun x:Int=>(0:Int) == x)=fun x=>x == 0:=by
 funext x;exact BEq.comm
theorem ZgW {D:Nat→Prop}(w:World)(u:Sl)(t:List Int)(hi:Gi D w u t)(r:Sl)(live:List Int)(hr:Gi D w r live) :
    Calls Tryz.prog 97 #[u.val,r.val] w fun e w'=>e=.returned (.int .i64 (freeI t live))∧Below w.heap.size w w':=by
  have ac:∀(fn:Fn) (first cap:Array Value) (w:World),(Instr.makeFunc fn first cap).run Tryz.prog w=.ok (.func fn first cap) w:=fun _ _ _ _=>rfl;have hA:=Zaa w (.cells #[r.val] 46);have HX:=hide (ZkU _ u t (hi.below hA (Nat.le_refl _)) 0);rw [ZlX] at HX;have aa:(w.alloc (.cells #[r.val] 46)).cell? ⟨w.heap.size,0,none⟩=some r.val:=by
   have hb:=heap_alloc_new w (.cells #[r.val] 46);rw [cell_of_row _ _ _ _ _ _ hb];rfl
  have HF:=hide (Zmy _ u t (hi.below hA (Nat.le_refl _)) w.heap.size r live aa (hr.below hA (Nat.le_refl _)));have HA:=hide hA;have ab:Hid (freeI t live=if 0≤ixI (fun x=>x == 0) t 0 then ixI (fun x=>x == 0) t 0 else ixI (outB live) t 0):=rfl;obtain⟨z,hz⟩:∃z,z=ixI (fun x=>x == 0) t 0:=⟨_,rfl⟩;rw [← hz] at HX ab;obtain⟨y,hy⟩:∃y,y=ixI (outB live) t 0:=⟨_,rfl⟩;rw [← hy] at HF ab;clear hz hy hi hr hA aa;obtain⟨ua,ul,uc⟩:=u;obtain⟨ra,rl,rc⟩:=r;unfold lvV Sl.val at *;simp only at *;by_cases h0:0≤z
  · have HE:Hid (freeI t live=z):=ab.out.trans (if_pos h0);clear ab;go_enter Tryz.func97,Tryz.ntmps97;go_wp2_with fail;refine HX.out.mono ?_;rintro e w1 ⟨rfl,hw⟩;obtain rfl:=hw;go_wp2_with fail;go_ret;exact⟨by rw [HE.out];rfl,HA.out⟩
  · have HE:Hid (freeI t live=y):=ab.out.trans (if_neg h0);(have h1:z<0:=by omega);clear ab h0;go_enter Tryz.func97,Tryz.ntmps97;go_wp2_with fail;refine HX.out.mono ?_;rintro e w1 ⟨rfl,hw⟩;obtain rfl:=hw;go_wp2_with fail;refine HF.out.mono ?_;rintro e w1 ⟨rfl,hw⟩;obtain rfl:=hw;go_wp2_with fail;go_ret;exact⟨by rw [HE.out];rfl,HA.out⟩
def ixE (s:List (List Nat)):Int:=if atE s=s.length then -1 else ((atE s:Nat):Int)
theorem ZnL (w:World)(x:Sl)(hx:x.len≤1000000):Calls Tryz.prog 100 #[x.val] w fun e w'=>e=.returned (.bool (decide (x.len=0)))∧w'=w:=by
 obtain⟨a,n,c⟩:=x;unfold Sl.val;simp only;by_cases h:n=0
 · subst h;go_enter Tryz.func100,Tryz.ntmps100;go_wp2_with fail;go_ret;exact⟨rfl,rfl⟩
 · (have i1:¬(n:Int)=0:=by omega);(have i2:((n:Int) == 0)=false:=by simp [h]);rw [decide_eq_false h];go_enter Tryz.func100,Tryz.ntmps100;go_wp2_with fail;go_ret;exact⟨by simp,rfl⟩
theorem Zmx {D:Nat→Prop}(w:World)(v:Sl)(l:List Sb)(h:Gb D w v l) :
    Calls Tryz.prog 99 #[v.val,.func (.func 100) #[] #[]] w fun e w'=>e=.returned (.int .i64 (ixE (bss l)))∧w'=w:=by
  obtain⟨a,len,cap⟩:=v
  have HG:=hide h
  have HL:Hid ((bss l).length=len):=by show _=_;rw [Zag];exact h.len
  have hbig:len≤1000:=h.big
  clear h
  unfold Sl.val
  simp only
  go_enter Tryz.func99,Tryz.ntmps99
  go_wp2_with fail
  go_loopw [8] (fun iv wr=>wr=w∧∃i:Nat,i≤len∧iv=.int .i64 (i:Nat)∧Hid (∀j,j<i→(sl (bss l) j).length≠0)) (fun iv _=>len-(intOf iv).toNat)
  case atStart=>exact ⟨rfl,0,Nat.zero_le _,rfl,fun _ h=>absurd h (Nat.not_lt_zero _)⟩
  case round =>
   obtain⟨rfl,i,hi,rfl,hix⟩:=hrel
   rcases Nat.lt_or_ge i len with hlt | hge
   · have i1:(i:Int)<(len:Int):=by omega
     obtain⟨bb,oo,ha,c0⟩:=HG.out.cell i hlt
     replace ha:a=some ⟨bb,oo,none⟩:=ha
     subst ha
     obtain⟨_,hsl,h1000⟩:=HG.out.at hlt
     obtain⟨⟨sa,sn,sc⟩,hsb⟩:∃s,s=(l.getD i Sb.zero).s:=⟨_,rfl⟩
     rw [← hsb] at c0 hsl
     have HCL:=hide (ZnL wr ⟨sa,sn,sc⟩ (by show sn≤_;have:sn=_:=hsl;omega))
     unfold Sl.val at c0 HCL
     simp only at c0 hsl HCL
     have HS:=hide hsl
     clear hsb hsl h1000
     by_cases h0:sn=0
     · rw [decide_eq_true h0] at HCL
       have HE:Hid (ixE (bss l)=(i:Int)):=by
        have e:=Zfm (s:=bss l) (n:=i) hix.out (.inr ⟨by rw [HL.out];exact hlt,by rw [← HS.out];exact h0⟩)
        show _=_
        unfold ixE
        rw [e,if_neg (by rw [HL.out];omega)]
       clear hix HS h0
       go_wp2_with fail
       refine HCL.out.mono ?_
       rintro e w1 ⟨rfl,hw⟩
       obtain rfl:=hw.symm
       go_wp2_with fail
       go_ret
       exact⟨by rw [HE.out];rfl,rfl⟩
     · rw [decide_eq_false h0] at HCL
       have HE:Hid (∀j,j<i+1→(sl (bss l) j).length≠0):=by
        intro j hj
        by_cases e:j=i
        · rw [e,← HS.out];exact h0
        · exact hix.out j (by omega)
       clear hix HS h0
       go_wp2_with fail
       refine HCL.out.mono ?_
       rintro e w1 ⟨rfl,hw⟩
       obtain rfl:=hw.symm
       go_wp2_with fail
       go_roundw
       case rel=>exact ⟨trivial,i+1,by omega,by go_num,HE⟩
       case measure=>simp only [intOf];omega
   · have i1:¬(i:Int)<(len:Int):=by omega
     have HE:Hid (ixE (bss l) = -1):=by
      have e:=Zfm (s:=bss l) (n:=(bss l).length) (fun j hj=>hix.out j (by rw [HL.out] at hj;omega)) (.inl rfl)
      show _=_
      unfold ixE
      rw [if_pos e]
     clear hix
     go_wp2_with fail
     go_ret
     exact⟨by rw [HE.out];rfl,rfl⟩
def nul (xs:List Nat):Bool:=xs.all fun x=>x == 0
theorem ZoU (h:i<xs.length)(hx:xs.getD i 0≠0):nul xs=false:=by
 unfold nul;rw [List.all_eq_false];refine⟨xs.getD i 0,?_,by simpa using hx⟩;simp [List.getD,h]
theorem ZnX (h:∀i,i<xs.length→xs.getD i 0=0):nul xs=true:=by
 unfold nul;rw [List.all_eq_true];intro x hx;obtain⟨i,hi,e⟩:=List.mem_iff_getElem.1 hx;have:=h i hi;simp [List.getD,hi] at this;simp [← e,this]
end Go.Proofs.YtdojdcncncgncaaGreat
