/-
  Lemmas.
-/
import Derived.Test.YtdojdcncncgncaaGreatKoat
import Derived.Test.YtdojdcncncgncaaGreatKoam
namespace Go.Proofs.YtdojdcncncgncaaGreat
open Go.RowKit
set_option linter.unusedVariables false
set_option maxRecDepth 100000
set_option maxHeartbeats 4000000
variable {e:TypeId}{w w':World}{s:Sl}{z i g:Nat}{vs:List Value}{l:List Sb}{A:Act}{xs:List Nat}
theorem ZnA {zv:Value}{bytes:Nat}(hi:(Tryz.prog.info? e).map (fun i=>(i.zero,i.size,i.bytes))=some (some zv,z,bytes))(w:World):(sizeOf e).run Tryz.prog w=.ok z w:=by
 obtain⟨i0,hi,hz0,hz1,hz2⟩:=info_parts hi
 simp [sizeOf,typeInfo,hi,hz1]
theorem ZfP {S:TypeId}(hu : Tryz.prog.underlying S = some (.slice (Tryz.prog.elem S))) (he : Tryz.prog.elem S = e) (hz : ∀ w, (sizeOf e).run Tryz.prog w = .ok z w) (a : Option Addr) (len cap n : Nat) (hn : n ≤ cap) (w : World) :
    (Instr.sliceAt S (.slice a len cap) none (some (.int .i64 (n : Int))) (some (.int .i64 (n : Int)))).run Tryz.prog w = .ok (.slice a n n) w := by
  have ea : (if n = 0 then a else a.map (fun x => x.add 0)) = a := by
   split
   · rfl
   · cases a with
     | none => rfl
     | some x => simp [Addr.add]
  rw [run_sliceAt_slice w S _ _ _ _ hu, run_slice_hm w S a len cap hu .i64 .i64 (n : Int) (n : Int) (by omega) (by omega) (by omega), he, hz]
  simp only [Result.andThen, sliced, Int.toNat_natCast, Nat.sub_zero, Nat.zero_mul, ea]
theorem Own.cut (h:Own e 1 w s vs){n:Nat}(hn:n≤s.len):Own e 1 w ⟨s.a,n,n⟩ (vs.take n):=by
 have hl:=h.1
 refine⟨by rw [List.length_take,hl];show min n (s.len*1)=n*1;omega,?_⟩
 rcases h.2 with ⟨h0,hv⟩ | ⟨g,off,cur,ha,hg,hoc,hlc,hcm,ht⟩
 · subst h0;subst hv
   have:n=0:=by have:n≤0:=hn;omega
   subst this
   exact .inl ⟨rfl,by simp⟩
 · refine .inr ⟨g,off,cur,ha,hg,?_,Nat.le_refl _,?_,?_⟩
   · show off+n*1≤cur.size
     omega
   · show n≤maxLen
     omega
   · show (cur.toList.drop off).take (n*1)=_
     rw [← ht,List.take_take]
     congr 1
     omega
section
variable {ops : Array Oper} {rest : List Oper} {o : Oper} {a : Act} {Q : Exit → Act → World → Prop}
theorem ZbY (w:World)(hgd:o.guard=none)(t:TypeId)(x:Operand)(lo hi mx:Option Operand)(ho:o.op=.slice t x lo hi mx)(v:Value)(hrun:(Instr.sliceAt t (a.eval x) (lo.map a.eval) (hi.map a.eval) (mx.map a.eval)).run Tryz.prog w=.ok v w)(hK:wpList Tryz.prog ops Q rest (a.put o.dst v) w):wpList Tryz.prog ops Q (o :: rest) a w:=by
 refine ZcG w hgd v w ?_ hK
 have e:execOp a.eval o=(do pure (.value (← Instr.sliceAt t (a.eval x) (lo.map a.eval) (hi.map a.eval) (mx.map a.eval)))):=by
  unfold execOp
  rw [ho]
 rw [e]
 simp [hrun]
theorem ZaX {S:TypeId}{zv:Value}{bytes:Nat}(hu:Tryz.prog.underlying S=some (.slice e))(hi:(Tryz.prog.info? e).map (fun i=>(i.zero,i.size,i.bytes))=some (some zv,1,bytes))(hzc:zv.cells.size=1)(hby:bytes≤1000)
    (w:World)(hgd:o.guard=none)(s y:Operand)(ho:o.op=.call { callee:=.builtin .append,args:=#[s,y],argTypes:=#[S,S] })(hs:a.eval s=.slice none 0 0)(x:Value)(hy:a.eval y=x)(n:Nat)(vs:List Value)(h:Src Tryz.prog 1 S x n vs w)(hn:n≤1000000)
    (hK:∀v' w',Own e 1 w' v' vs→v'.len=n→Below w.heap.size w w'→(∀k,v'.blk=some k→w.heap.size≤k)→wpList Tryz.prog ops Q rest (a.put o.dst v'.val) w'):wpList Tryz.prog ops Q (o :: rest) a w:=by
  refine wpList_plain hgd fun K hK'=>?_
  obtain⟨v',w',hrun,ho',hl',hf',hb'⟩:=ZaO hu hi hzc hby w Sl.nil [] (Own.nil e 1 w) (fun _ h=>by cases h) x n vs h (by show 0+n≤_;omega) o.type
  unfold Sl.val Sl.nil at hrun
  unfold Oper.wp
  simp [execOp,ho,resolve,invoke,builtin,hs,hy,hrun,Result.andThen]
  refine hK' _ _ (hK v' w' ho' (by rw [hl'];show 0+n=n;omega) (hf'.below (Nat.le_refl _) (fun k hk=>by cases hk)) (fun k hk=>?_))
  rcases hb' with e | ⟨e,_⟩
  · rw [e] at hk;cases hk
  · rw [e] at hk;cases hk;exact Nat.le_refl _
end
theorem ZmL (w : World) (a : Option Addr) (len cap n : Nat) (hn : n ≤ cap) : Calls Tryz.prog 151 #[.slice a len cap, .int .i64 (n : Int)] w fun e w' => e = .returned (.slice a n n) ∧ w' = w := by
 have HR := hide (ZfP (S := 46) (e := 3) (by kernel_rfl) (by kernel_rfl) (fun w => ZnA ZfW w) a len cap n hn w)
 go_enter Tryz.func151, Tryz.ntmps151
 go_wp2_with (refine ZbY _ rfl 46 (.tmp 5) none (some (.tmp 6)) (some (.tmp 7)) rfl (.slice a n n) HR.out ?_)
 go_ret
 exact ⟨rfl, rfl⟩
theorem Znu {D:Nat→Prop}(w:World)(v:Sl)(t:List Int)(h:Gi D w v t):Calls Tryz.prog 131 #[v.val] w fun e w'=>Below w.heap.size w w'∧∃s:Sl,e=.returned s.val∧Own 3 1 w' s (Zav t)∧s.len=v.len∧s.cap=v.len∧∀k,s.blk=some k→w.heap.size≤k:=by
 have HS:=hide (h.src)
 have hbig:v.len≤1000000:=by have:=h.big;omega
 clear h
 obtain⟨va,vl,vc⟩:=v
 unfold Sl.val at *
 simp only at *
 go_enter Tryz.func131,Tryz.ntmps131
 go_wp2_with (at_builtin;refine ZaX Tryz.underlying46 ZfW rfl (by decide) _ rfl (.const (.slice none 0 0)) (.tmp 3) rfl rfl (.slice va vl vc) rfl vl _ HS.out hbig ?_)
 intro v1 w1 ho1 hl1 hb1 hk1
 obtain⟨a1,n1,c1⟩:=v1
 replace hl1:n1=vl:=hl1
 subst hl1
 have HO1:=hide (ho1.cut (n:=n1) (Nat.le_refl _))
 rw [List.take_of_length_le (by have:=ho1.1;rw [this];show n1*1≤n1;omega)] at HO1
 have HC:=hide (ZmL w1 a1 n1 c1 n1 ho1.lecap)
 have HB1:=hide hb1
 have HK1:=hide hk1
 clear ho1 hb1 hk1 HS
 unfold Sl.val
 simp only
 go_wp2_with fail
 refine HC.out.mono ?_
 rintro e w2 ⟨rfl,hw⟩
 obtain rfl:=hw
 go_wp2_with fail
 go_ret
 exact⟨HB1.out,⟨a1,n1,n1⟩,rfl,HO1.out,rfl,rfl,HK1.out⟩
theorem Zda (w : World) (a : Option Addr) (len cap n : Nat) (hn : n ≤ cap) : Calls Tryz.prog 105 #[.slice a len cap, .int .i64 (n : Int)] w fun e w' => e = .returned (.slice a n n) ∧ w' = w := by
 have HR := hide (ZfP (S := 65) (e := 56) (by kernel_rfl) (by kernel_rfl) (fun w => ZnA ZfV w) a len cap n hn w)
 go_enter Tryz.func105, Tryz.ntmps105
 go_wp2_with (refine ZbY _ rfl 65 (.tmp 5) none (some (.tmp 6)) (some (.tmp 7)) rfl (.slice a n n) HR.out ?_)
 go_ret
 exact ⟨rfl, rfl⟩
theorem ZkG {D:Nat→Prop}(w:World)(v:Sl)(l:List Sb)(h:Gb D w v l):Calls Tryz.prog 132 #[v.val] w fun e w'=>Below w.heap.size w w'∧∃s:Sl,e=.returned s.val∧Own 56 1 w' s (Za8 l)∧s.len=v.len∧s.cap=v.len∧∀k,s.blk=some k→w.heap.size≤k:=by
 have HS:=hide (h.src)
 have hbig:v.len≤1000000:=by have:=h.big;omega
 clear h
 obtain⟨va,vl,vc⟩:=v
 unfold Sl.val at *
 simp only at *
 go_enter Tryz.func132,Tryz.ntmps132
 go_wp2_with (at_builtin;refine ZaX Tryz.underlying65 ZfV rfl (by decide) _ rfl (.const (.slice none 0 0)) (.tmp 3) rfl rfl (.slice va vl vc) rfl vl _ HS.out hbig ?_)
 intro v1 w1 ho1 hl1 hb1 hk1
 obtain⟨a1,n1,c1⟩:=v1
 replace hl1:n1=vl:=hl1
 subst hl1
 have HO1:=hide (ho1.cut (n:=n1) (Nat.le_refl _))
 rw [List.take_of_length_le (by have:=ho1.1;rw [this];show n1*1≤n1;omega)] at HO1
 have HC:=hide (Zda w1 a1 n1 c1 n1 ho1.lecap)
 have HB1:=hide hb1
 have HK1:=hide hk1
 clear ho1 hb1 hk1 HS
 unfold Sl.val
 simp only
 go_wp2_with fail
 refine HC.out.mono ?_
 rintro e w2 ⟨rfl,hw⟩
 obtain rfl:=hw
 go_wp2_with fail
 go_ret
 exact⟨HB1.out,⟨a1,n1,n1⟩,rfl,HO1.out,rfl,rfl,HK1.out⟩
theorem ZjL (w : World) (a : Option Addr) (len cap n : Nat) (hn : n ≤ cap) : Calls Tryz.prog 152 #[.slice a len cap, .int .i64 (n : Int)] w fun e w' => e = .returned (.slice a n n) ∧ w' = w := by
 have HR := hide (ZfP (S := 56) (e := 5) (by kernel_rfl) (by kernel_rfl) (fun w => ZnA info5 w) a len cap n hn w)
 go_enter Tryz.func152, Tryz.ntmps152
 go_wp2_with (refine ZbY _ rfl 56 (.tmp 5) none (some (.tmp 6)) (some (.tmp 7)) rfl (.slice a n n) HR.out ?_)
 go_ret
 exact ⟨rfl, rfl⟩
theorem ZgX {D:Nat→Prop}(w:World)(v:Sl)(xs:List Nat)(h:Cm D w v xs)(h0:v.len≤1000000):Calls Tryz.prog 133 #[v.val] w fun e w'=>Below w.heap.size w w'∧∃s:Sl,e=.returned s.val∧Own 5 1 w' s (vals xs)∧s.len=v.len∧s.cap=v.len∧∀k,s.blk=some k→w.heap.size≤k:=by
 have HS:=hide (h.came.src)
 have hbig:v.len≤1000000:=by have:=h0;omega
 clear h
 obtain⟨va,vl,vc⟩:=v
 unfold Sl.val at *
 simp only at *
 go_enter Tryz.func133,Tryz.ntmps133
 go_wp2_with (at_builtin;refine ZaX Tryz.underlying56 info5 rfl (by decide) _ rfl (.const (.slice none 0 0)) (.tmp 3) rfl rfl (.slice va vl vc) rfl vl _ HS.out hbig ?_)
 intro v1 w1 ho1 hl1 hb1 hk1
 obtain⟨a1,n1,c1⟩:=v1
 replace hl1:n1=vl:=hl1
 subst hl1
 have HO1:=hide (ho1.cut (n:=n1) (Nat.le_refl _))
 rw [List.take_of_length_le (by have:=ho1.1;rw [this];show n1*1≤n1;omega)] at HO1
 have HC:=hide (ZjL w1 a1 n1 c1 n1 ho1.lecap)
 have HB1:=hide hb1
 have HK1:=hide hk1
 clear ho1 hb1 hk1 HS
 unfold Sl.val
 simp only
 go_wp2_with fail
 refine HC.out.mono ?_
 rintro e w2 ⟨rfl,hw⟩
 obtain rfl:=hw
 go_wp2_with fail
 go_ret
 exact⟨HB1.out,⟨a1,n1,n1⟩,rfl,HO1.out,rfl,rfl,HK1.out⟩
theorem Own.below {e : TypeId} {z : Nat} {w w' : World} {s : Sl} {vs : List Value} (h : Own e z w s vs) (hb : Below w.heap.size w w') : Own e z w' s vs := h.frame (fun k hk => hb.block k (h.lt hk))
theorem Own.kept {e : TypeId} {z : Nat} {w w' : World} {s : Sl} {vs : List Value} {g : Nat} (h : Own e z w s vs) (f : Frm (fun k => k = g) w w') (hg : s.blk ≠ some g) : Own e z w' s vs := h.frame (fun k hk => f.block k (h.lt hk) (fun e => hg (by rw [hk, e])))
theorem Own.unbox {u v : Value} (h : Own e z w s vs) (k : LfBlk w g u v) (he : e ≠ 67) : s.blk ≠ some g := by
 intro hs
 obtain ⟨cur, hc⟩ := h.kind hs
 unfold LfBlk at k
 rw [k] at hc
 simp only [Option.some.injEq, Obj.cells.injEq] at hc
 exact he hc.2.1.symm
theorem Za0 (w : World) : (Instr.alloc 67 true (.tuple #[])).run Tryz.prog w = .ok (.pointer (some ⟨w.heap.size, 0, none⟩)) (w.alloc (.cells #[.slice none 0 0, .slice none 0 0] 67)) := by
  simp [go_sem, Instr.alloc]
theorem ZfI (u v : Sl) (w : World) : (Instr.build 67 #[(0, u.val), (1, v.val)]).run Tryz.prog w = .ok (lfV u v) w := by
 obtain ⟨ua, ul, uc⟩ := u
 obtain ⟨va, vl, vc⟩ := v
 unfold lfV Sl.val
 simp [go_sem]
theorem ZjR : ∀ args w, (callFunc 131 args).run Tryz.prog w = .ok (.enter 131 args) w := Pl.enters Tryz.func131 (by kernel_rfl) (by kernel_rfl)
theorem Zhv : ∀ args w, (callFunc 132 args).run Tryz.prog w = .ok (.enter 132 args) w := Pl.enters Tryz.func132 (by kernel_rfl) (by kernel_rfl)
theorem ZjS : ∀ args w, (callFunc 133 args).run Tryz.prog w = .ok (.enter 133 args) w := Pl.enters Tryz.func133 (by kernel_rfl) (by kernel_rfl)
structure Cp (w w' : World) (g : Nat) (u v : Sl) (t : List Int) (l : List Sb) : Prop where
  k : LfBlk w' g u.val v.val
  oi : OwnN w' u t
  ob : OwnB w' v l
  ui : ∀ k, u.blk = some k → w.heap.size ≤ k
  vi : ∀ k, v.blk = some k → w.heap.size ≤ k
  gi : w.heap.size ≤ g
  e : Below w.heap.size w w'
theorem Zoy (w:World)(g:Nat)(u v:Sl)(t:List Int)(l:List Sb)(hg:LfBlk w g u.val v.val)(hN:∀W,Below w.heap.size w W→Calls Tryz.prog 131 #[u.val] W fun e w'=>Below W.heap.size W w'∧∃s:Sl,e=.returned s.val∧Own 3 1 w' s (Zav t)∧s.len=u.len∧s.cap=u.len∧∀k,s.blk=some k→W.heap.size≤k)(hB:∀W,Below w.heap.size w W→Calls Tryz.prog 132 #[v.val] W fun e w'=>Below W.heap.size W w'∧∃s:Sl,e=.returned s.val∧Own 56 1 w' s (Za8 l)∧s.len=v.len∧s.cap=v.len∧∀k,s.blk=some k→W.heap.size≤k)
    {Q:Exit→Act→World→Prop}(hsz:A.tmps.size=29)(hdf:A.defers=[])(s1:A.tmps.getD 1 undef=.pointer (some ⟨g,0,none⟩))
    (hend:∀(u:Nat→Value) w' (g3:Nat)(s2 s5:Sl),Cp w w' g3 s2 s5 t l→Q .normal (((((((((A).put (some 6) (u 6)).put (some 7) (u 7)).put (some 9) (u 9)).put (some 10) (u 10)).put (some 8) (u 8)).put (some 11) (u 11)).put (some 12) (u 12)).put (some 3) (.pointer (some ⟨g3,0,none⟩))) w') :
    (Code.region 1 (Pl.find 1 ((Tryz.f95.body).getD .skip)) true).wp Tryz.prog Q A w:=by
  have hA:=Pl.At.same (v:=.pointer (some ⟨g,0,none⟩)) (d:=1) (Pl.At.here hsz hdf) s1
  refine Pl.qa (S:=(fun w'=>Below w.heap.size w w')) hA (Zad w) ?_
  rw [show (Pl.find 1 ((Tryz.f95.body).getD .skip)).size=9 by kernel_rfl]
  refine Pl.q0 0 6 (.pointer (some ⟨g,0,none⟩)) (Pl.q1) (Pl.q5 67 (.tmp 1) 0 (ZfR g)) (Zad w) ?_
  refine Pl.q0 1 7 (Sl.val u) (Pl.q1) (Pl.q4 46 (.tmp 6) (fun w' hS=>Zgc g u v.val w' (hg.below hS))) (Zad w) ?_
  refine Pl.q0 3 9 (.pointer (some ⟨g,1,none⟩)) (Pl.q1) (Pl.q5 67 (.tmp 1) 1 (Zl9 g)) (Zad w) ?_
  refine Pl.q0 4 10 (Sl.val v) (Pl.q1) (Pl.q4 65 (.tmp 9) (fun w' hS=>ZlS g u.val v w' (hg.below hS))) (Zad w) ?_
  refine Pl.qu 2 7 ?_ ?_
  · refine Pl.qo 2 8 131 [(.tmp 7)] #[46] ZjR (Calls.mono (hN w.drew (Zad w)) ?_)
    rintro e w2 ⟨hb2,s2,rfl,ho2,_,_,hk2⟩
    have e2:=Zac (Zad w) hb2
    have un:∀k,s2.blk=some k→w.heap.size≤k:=fun k hk=>Nat.le_trans (Zad w).size (hk2 k hk)
    refine⟨Sl.val s2,rfl,e2,?_⟩
    refine Pl.qu 5 7 ?_ ?_
    · refine Pl.qo 5 11 132 [(.tmp 10)] #[65] Zhv (Calls.mono (hB w2 e2) ?_)
      rintro e w5 ⟨hb5,s5,rfl,ho5,_,_,hk5⟩
      have e5:=Zac e2 hb5
      have n5:OwnN w5 s2 t:=Own.below ho2 hb5
      have vn:∀k,s5.blk=some k→w.heap.size≤k:=fun k hk=>Nat.le_trans e2.size (hk5 k hk)
      refine⟨Sl.val s5,rfl,e5,?_⟩
      refine Pl.q0 6 12 (lfV s2 s5) (Pl.q1) (Pl.qx 67 [(0,.tmp 8),(1,.tmp 11)] (ZfI s2 s5)) e5 ?_
      have hb7:=Zaa w5 (.cells #[.slice none 0 0,.slice none 0 0] 67)
      have e7:=Zac e5 hb7
      have n7:OwnN (w5.alloc (.cells #[.slice none 0 0,.slice none 0 0] 67)) s2 t:=Own.below n5 hb7
      have b7:OwnB (w5.alloc (.cells #[.slice none 0 0,.slice none 0 0] 67)) s5 l:=Own.below ho5 hb7
      have k7:=Zam w5 (.slice none 0 0) (.slice none 0 0)
      have gn:w.heap.size≤w5.heap.size:=e5.size
      refine Pl.qp 7 3 (.pointer (some ⟨w5.heap.size,0,none⟩)) (w5.alloc (.cells #[.slice none 0 0,.slice none 0 0] 67)) (Pl.q1) (Pl.qt 67 (Za0 w5)) e7 ?_
      obtain⟨W8,hst8,k8,f8⟩:=ZbD (w5.alloc (.cells #[.slice none 0 0,.slice none 0 0] 67)) w5.heap.size _ _ k7 s2 s5
      have e8:Below w.heap.size w W8:=e7.trans (f8.below e7.size (fun k hk=>by rw [hk];exact gn))
      have cp:Cp w W8 w5.heap.size s2 s5 t l:=⟨k8,Own.kept n7 f8 (Own.unbox n7 k7 (by decide)),Own.kept b7 f8 (Own.unbox b7 k7 (by decide)),un,vn,gn,e8⟩
      refine Pl.qh 8 W8 (Pl.q1) (Pl.qi 67 (.tmp 3) (.tmp 12) hst8) e8 ?_
      refine Pl.q8 (fun A' hA'=>?_)
      rw [Pl.At.ext hA' ((((((((hA.put 6 _).put 7 _).put 9 _).put 10 _).put 8 _).put 11 _).put 12 _).put 3 _)]
      exact hend hA'.fn _ _ s2 s5 cp
    · have hb7:=Zaa w2 (.cells #[.slice none 0 0,.slice none 0 0] 67)
      have e7:=Zac e2 hb7
      have n7:OwnN (w2.alloc (.cells #[.slice none 0 0,.slice none 0 0] 67)) s2 t:=Own.below ho2 hb7
      have k7:=Zam w2 (.slice none 0 0) (.slice none 0 0)
      have gn:w.heap.size≤w2.heap.size:=e2.size
      refine Pl.qm 7 3 (.pointer (some ⟨w2.heap.size,0,none⟩)) (w2.alloc (.cells #[.slice none 0 0,.slice none 0 0] 67)) (Pl.qt 67 (Za0 w2)) e7 ?_
      refine Pl.qc 5 11 132 [(.tmp 10)] #[65] (Pl.q1) Zhv (Calls.mono (hB (w2.alloc (.cells #[.slice none 0 0,.slice none 0 0] 67)) e7) ?_)
      rintro e w5 ⟨hb5,s5,rfl,ho5,_,_,hk5⟩
      have e5:=Zac e7 hb5
      have n5:OwnN w5 s2 t:=Own.below n7 hb5
      have k5:LfBlk w5 w2.heap.size (.slice none 0 0) (.slice none 0 0):=LfBlk.below k7 hb5
      have vn:∀k,s5.blk=some k→w.heap.size≤k:=fun k hk=>Nat.le_trans e7.size (hk5 k hk)
      refine⟨Sl.val s5,rfl,e5,?_⟩
      rw [Pl.ql 3 11]
      refine Pl.q0 6 12 (lfV s2 s5) (Pl.q1) (Pl.qx 67 [(0,.tmp 8),(1,.tmp 11)] (ZfI s2 s5)) e5 ?_
      rw [Pl.ql 3 12]
      obtain⟨W8,hst8,k8,f8⟩:=ZbD w5 w2.heap.size _ _ k5 s2 s5
      have e8:Below w.heap.size w W8:=e5.trans (f8.below e5.size (fun k hk=>by rw [hk];exact gn))
      have cp:Cp w W8 w2.heap.size s2 s5 t l:=⟨k8,Own.kept n5 f8 (Own.unbox n5 k5 (by decide)),Own.kept ho5 f8 (Own.unbox ho5 k5 (by decide)),un,vn,gn,e8⟩
      refine Pl.qh 8 W8 (Pl.q1) (Pl.qi 67 (.tmp 3) (.tmp 12) hst8) e8 ?_
      refine Pl.q8 (fun A' hA'=>?_)
      rw [Pl.At.ext hA' ((((((((hA.put 6 _).put 7 _).put 9 _).put 10 _).put 8 _).put 11 _).put 12 _).put 3 _)]
      exact hend hA'.fn _ _ s2 s5 cp
  · have hb7:=Zaa w.drew (.cells #[.slice none 0 0,.slice none 0 0] 67)
    have e7:=Zac (Zad w) hb7
    have k7:=Zam w.drew (.slice none 0 0) (.slice none 0 0)
    have gn:w.heap.size≤w.drew.heap.size:=(Zad w).size
    refine Pl.qm 7 3 (.pointer (some ⟨w.drew.heap.size,0,none⟩)) (w.drew.alloc (.cells #[.slice none 0 0,.slice none 0 0] 67)) (Pl.qt 67 (Za0 w.drew)) e7 ?_
    refine Pl.qc 2 8 131 [(.tmp 7)] #[46] (Pl.q1) ZjR (Calls.mono (hN (w.drew.alloc (.cells #[.slice none 0 0,.slice none 0 0] 67)) e7) ?_)
    rintro e w2 ⟨hb2,s2,rfl,ho2,_,_,hk2⟩
    have e2:=Zac e7 hb2
    have k2:LfBlk w2 w.drew.heap.size (.slice none 0 0) (.slice none 0 0):=LfBlk.below k7 hb2
    have un:∀k,s2.blk=some k→w.heap.size≤k:=fun k hk=>Nat.le_trans e7.size (hk2 k hk)
    refine⟨Sl.val s2,rfl,e2,?_⟩
    rw [Pl.ql 3 8]
    refine Pl.qc 5 11 132 [(.tmp 10)] #[65] (Pl.q1) Zhv (Calls.mono (hB w2 e2) ?_)
    rintro e w5 ⟨hb5,s5,rfl,ho5,_,_,hk5⟩
    have e5:=Zac e2 hb5
    have n5:OwnN w5 s2 t:=Own.below ho2 hb5
    have k5:LfBlk w5 w.drew.heap.size (.slice none 0 0) (.slice none 0 0):=LfBlk.below k2 hb5
    have vn:∀k,s5.blk=some k→w.heap.size≤k:=fun k hk=>Nat.le_trans e2.size (hk5 k hk)
    refine⟨Sl.val s5,rfl,e5,?_⟩
    rw [Pl.ql 3 11]
    refine Pl.q0 6 12 (lfV s2 s5) (Pl.q1) (Pl.qx 67 [(0,.tmp 8),(1,.tmp 11)] (ZfI s2 s5)) e5 ?_
    rw [Pl.ql 3 12]
    obtain⟨W8,hst8,k8,f8⟩:=ZbD w5 w.drew.heap.size _ _ k5 s2 s5
    have e8:Below w.heap.size w W8:=e5.trans (f8.below e5.size (fun k hk=>by rw [hk];exact gn))
    have cp:Cp w W8 w.drew.heap.size s2 s5 t l:=⟨k8,Own.kept n5 f8 (Own.unbox n5 k5 (by decide)),Own.kept ho5 f8 (Own.unbox ho5 k5 (by decide)),un,vn,gn,e8⟩
    refine Pl.qh 8 W8 (Pl.q1) (Pl.qi 67 (.tmp 3) (.tmp 12) hst8) e8 ?_
    refine Pl.q8 (fun A' hA'=>?_)
    rw [Pl.At.ext hA' ((((((((hA.put 6 _).put 7 _).put 9 _).put 10 _).put 8 _).put 11 _).put 12 _).put 3 _)]
    exact hend hA'.fn _ _ s2 s5 cp
structure Ly (w w' : World) (g : Nat) (u v : Sl) (l : List Sb) (i : Nat) (xs : List Nat) (s : Sl) : Prop where
  k : LfBlk w' g u.val v.val
  ob : OwnB w' v (l.set i ⟨s, xs⟩)
  os : Own 5 1 w' s (vals xs)
  si : ∀ k, s.blk = some k → w.heap.size ≤ k
  len : s.len = xs.length
  f : Frm (fun k => v.blk = some k) w w'
theorem Own.apart {e2:TypeId}{z2:Nat}{s2:Sl}{vs2:List Value}(h:Own e z w s vs)(h2:Own e2 z2 w s2 vs2)(he:e≠e2):∀k,s.blk=some k→s2.blk≠some k:=by
 intro k hk hk2
 obtain⟨c,hc⟩:=h.kind hk
 obtain⟨c2,hc2⟩:=h2.kind hk2
 rw [hc] at hc2
 simp only [Option.some.injEq,Obj.cells.injEq] at hc2
 exact he hc2.2.1
theorem Zoz (w:World)(g b o len cap i:Nat)(un x:Sl)(l:List Sb)(xs:List Nat)(hi:i<len)(hxl:x.len=xs.length)(hg:LfBlk w g un.val (.slice (some ⟨b,o,none⟩) len cap))(hob:OwnB w ⟨some ⟨b,o,none⟩,len,cap⟩ l)(hU:∀W,Below w.heap.size w W→Calls Tryz.prog 133 #[x.val] W fun e w'=>Below W.heap.size W w'∧∃s:Sl,e=.returned s.val∧Own 5 1 w' s (vals xs)∧s.len=x.len∧s.cap=x.len∧∀k,s.blk=some k→W.heap.size≤k)
    {Q:Exit→Act→World→Prop}(hsz:A.tmps.size=29)(hdf:A.defers=[])(s3:A.tmps.getD 3 undef=.pointer (some ⟨g,0,none⟩))(s4:A.tmps.getD 4 undef=.int .i64 (i:Int))(s5:A.tmps.getD 5 undef=Sl.val x)
    (hend:∀(u:Nat→Value) w' (s4:Sl),Ly w w' g un ⟨some ⟨b,o,none⟩,len,cap⟩ l i xs s4→Q .normal (((((((A).put (some 21) (u 21)).put (some 22) (u 22)).put (some 23) (u 23)).put (some 24) (u 24)).put (some 25) (u 25)).put (some 26) (u 26)) w') :
    (Code.region 5 (Pl.find 5 ((Tryz.f95.body).getD .skip)) true).wp Tryz.prog Q A w:=by
  have hA:=Pl.At.same (v:=Sl.val x) (d:=5) (Pl.At.same (v:=.int .i64 (i:Int)) (d:=4) (Pl.At.same (v:=.pointer (some ⟨g,0,none⟩)) (d:=3) (Pl.At.here hsz hdf) s3) s4) s5
  refine Pl.qa (S:=(fun w'=>Below w.heap.size w w'∨∃s,Ly w w' g un ⟨some ⟨b,o,none⟩,len,cap⟩ l i xs s)) hA (.inl (Zad w)) ?_
  rw [show (Pl.find 5 ((Tryz.f95.body).getD .skip)).size=7 by kernel_rfl]
  refine Pl.q0 0 21 (.pointer (some ⟨g,1,none⟩)) (Pl.q1) (Pl.q5 67 (.tmp 3) 1 (Zl9 g)) (.inl (Zad w)) ?_
  refine Pl.q0 1 22 (.slice (some ⟨b,o,none⟩) len cap) (Pl.q1) (Pl.q4 65 (.tmp 21) (fun w' hS=>ZlS g un.val ⟨some ⟨b,o,none⟩,len,cap⟩ w' (hS.elim (fun h=>hg.below h) (fun h=>h.elim fun _ q=>q.k)))) (.inl (Zad w)) ?_
  refine Pl.q0 2 23 (.int .i64 (i:Int)) (Pl.q1) (Pl.q2 (.tmp 4)) (.inl (Zad w)) ?_
  refine Pl.q0 3 24 (Sl.val x) (Pl.q1) (Pl.q2 (.tmp 5)) (.inl (Zad w)) ?_
  refine Pl.qc 4 25 133 [(.tmp 24)] #[56] (Pl.q1) ZjS (Calls.mono (hU w.drew (Zad w)) ?_)
  rintro e w4 ⟨hb4,s4,rfl,ho4,hl4,_,hk4⟩
  have e4:=Zac (Zad w) hb4
  refine⟨Sl.val s4,rfl,(.inl e4),?_⟩
  refine Pl.q0 5 26 (.pointer (some ⟨b,o+i,none⟩)) (Pl.q1) (Pl.qd 65 (.tmp 22) (.tmp 23) (ixB1 b o len cap i hi)) (.inl e4) ?_
  obtain⟨W6,hst6,ob6,f6⟩:=Zgk w4 b o len cap l (Own.below hob e4) i hi ⟨s4,xs⟩
  have hk6:LfBlk w4 g un.val (.slice (some ⟨b,o,none⟩) len cap):=hg.below e4
  have hne:g≠b:=fun e=>Own.unbox (Own.below hob e4) hk6 (by decide) (by rw [e];rfl)
  have ly:Ly w W6 g un ⟨some ⟨b,o,none⟩,len,cap⟩ l i xs s4:=⟨hk6.off f6 hne,ob6,Own.kept ho4 f6 (fun e=>Own.apart ho4 (Own.below hob e4) (by decide) b e rfl),fun k hk=>hk4 k hk,by rw [hl4,hxl],(Frm.ofBelow e4).trans (f6.mono (fun k _ e=>by rw [e];rfl)) (fun _ _ h=>h)⟩
  refine Pl.qh 6 W6 (Pl.q1) (Pl.qi 56 (.tmp 26) (.tmp 25) hst6) (.inr ⟨s4,ly⟩) ?_
  refine Pl.q8 (fun A' hA'=>?_)
  rw [Pl.At.ext hA' ((((((hA.put 21 _).put 22 _).put 23 _).put 24 _).put 25 _).put 26 _)]
  exact hend hA'.fn _ s4 ly
theorem lay4 (w:World)(g b o len cap i:Nat)(un x:Sl)(l:List Sb)(xs:List Nat)(hi:i<len)(hxl:x.len=xs.length)(hg:LfBlk w g un.val (.slice (some ⟨b,o,none⟩) len cap))(hob:OwnB w ⟨some ⟨b,o,none⟩,len,cap⟩ l)(hU:∀W,Below w.heap.size w W→Calls Tryz.prog 133 #[x.val] W fun e w'=>Below W.heap.size W w'∧∃s:Sl,e=.returned s.val∧Own 5 1 w' s (vals xs)∧s.len=x.len∧s.cap=x.len∧∀k,s.blk=some k→W.heap.size≤k)
    {Q:Exit→Act→World→Prop}(hsz:A.tmps.size=36)(hdf:A.defers=[])(s8:A.tmps.getD 8 undef=.pointer (some ⟨g,0,none⟩))(s1:A.tmps.getD 1 undef=.int .i64 (i:Int))(s2:A.tmps.getD 2 undef=Sl.val x)
    (hend:∀(u:Nat→Value) w' (s4:Sl),Ly w w' g un ⟨some ⟨b,o,none⟩,len,cap⟩ l i xs s4→Q .normal (((((((A).put (some 24) (u 24)).put (some 25) (u 25)).put (some 26) (u 26)).put (some 27) (u 27)).put (some 28) (u 28)).put (some 29) (u 29)) w') :
    (Code.region 4 (Pl.find 4 ((Tryz.f101.body).getD .skip)) true).wp Tryz.prog Q A w:=by
  have hA:=Pl.At.same (v:=Sl.val x) (d:=2) (Pl.At.same (v:=.int .i64 (i:Int)) (d:=1) (Pl.At.same (v:=.pointer (some ⟨g,0,none⟩)) (d:=8) (Pl.At.here hsz hdf) s8) s1) s2
  refine Pl.qa (S:=(fun w'=>Below w.heap.size w w'∨∃s,Ly w w' g un ⟨some ⟨b,o,none⟩,len,cap⟩ l i xs s)) hA (.inl (Zad w)) ?_
  rw [show (Pl.find 4 ((Tryz.f101.body).getD .skip)).size=7 by kernel_rfl]
  refine Pl.q0 0 24 (.pointer (some ⟨g,1,none⟩)) (Pl.q1) (Pl.q5 67 (.tmp 8) 1 (Zl9 g)) (.inl (Zad w)) ?_
  refine Pl.q0 1 25 (.slice (some ⟨b,o,none⟩) len cap) (Pl.q1) (Pl.q4 65 (.tmp 24) (fun w' hS=>ZlS g un.val ⟨some ⟨b,o,none⟩,len,cap⟩ w' (hS.elim (fun h=>hg.below h) (fun h=>h.elim fun _ q=>q.k)))) (.inl (Zad w)) ?_
  refine Pl.q0 2 26 (.int .i64 (i:Int)) (Pl.q1) (Pl.q2 (.tmp 1)) (.inl (Zad w)) ?_
  refine Pl.q0 3 27 (Sl.val x) (Pl.q1) (Pl.q2 (.tmp 2)) (.inl (Zad w)) ?_
  refine Pl.qc 4 28 133 [(.tmp 27)] #[56] (Pl.q1) ZjS (Calls.mono (hU w.drew (Zad w)) ?_)
  rintro e w4 ⟨hb4,s4,rfl,ho4,hl4,_,hk4⟩
  have e4:=Zac (Zad w) hb4
  refine⟨Sl.val s4,rfl,(.inl e4),?_⟩
  refine Pl.q0 5 29 (.pointer (some ⟨b,o+i,none⟩)) (Pl.q1) (Pl.qd 65 (.tmp 25) (.tmp 26) (ixB1 b o len cap i hi)) (.inl e4) ?_
  obtain⟨W6,hst6,ob6,f6⟩:=Zgk w4 b o len cap l (Own.below hob e4) i hi ⟨s4,xs⟩
  have hk6:LfBlk w4 g un.val (.slice (some ⟨b,o,none⟩) len cap):=hg.below e4
  have hne:g≠b:=fun e=>Own.unbox (Own.below hob e4) hk6 (by decide) (by rw [e];rfl)
  have ly:Ly w W6 g un ⟨some ⟨b,o,none⟩,len,cap⟩ l i xs s4:=⟨hk6.off f6 hne,ob6,Own.kept ho4 f6 (fun e=>Own.apart ho4 (Own.below hob e4) (by decide) b e rfl),fun k hk=>hk4 k hk,by rw [hl4,hxl],(Frm.ofBelow e4).trans (f6.mono (fun k _ e=>by rw [e];rfl)) (fun _ _ h=>h)⟩
  refine Pl.qh 6 W6 (Pl.q1) (Pl.qi 56 (.tmp 29) (.tmp 28) hst6) (.inr ⟨s4,ly⟩) ?_
  refine Pl.q8 (fun A' hA'=>?_)
  rw [Pl.At.ext hA' ((((((hA.put 24 _).put 25 _).put 26 _).put 27 _).put 28 _).put 29 _)]
  exact hend hA'.fn _ s4 ly
def Off (B : Nat) (u v : Sl) : Nat → Prop := fun k => B ≤ k ∧ u.blk ≠ some k ∧ v.blk ≠ some k
structure Lw (B : Nat) (w : World) (u v : Sl) (t : List Int) (l : List Sb) : Prop where
  oi : OwnN w u t
  ob : OwnB w v l
  ui : ∀ k, u.blk = some k → B ≤ k
  vi : ∀ k, v.blk = some k → B ≤ k
  bs : ∀ x ∈ l, Cm (Off B u v) w x.s x.bs ∧ x.bs.length ≤ 1000
theorem Frm.lf {F : Nat → Prop} {w w' : World} {p : Nat} {u v : Value} (f : Frm F w w') (k : LfBlk w p u v) (hp : ¬ F p) : LfBlk w' p u v := (f.block p k.lt hp).trans k
theorem ZeT {l : List Sb} {i : Nat} (h : i < l.length) (x : Sb) : (l.set i x).getD i Sb.zero = x := by simp [List.getD, h]
theorem Zcg {l : List Sb} {i j : Nat} (h : i ≠ j) (x : Sb) : (l.set i x).getD j Sb.zero = l.getD j Sb.zero := by simp [List.getD, h]
theorem Znl {x : Sb} (h : x ∈ l) : ∃ i, i < l.length ∧ l.getD i Sb.zero = x := by
 obtain ⟨i, hi, e⟩ := List.mem_iff_getElem.1 h
 exact ⟨i, hi, by simp [List.getD, hi, e]⟩
structure Co (w wr : World) (g : Nat) (u v : Sl) (t : List Int) (l m : List Sb) (i : Nat) : Prop where
  k3 : LfBlk wr g u.val v.val
  k2 : LfBlk wr (w.heap.size + 1) (.slice none 0 0) (.slice none 0 0)
  oi : OwnN wr u t
  ob : OwnB wr v m
  ui : ∀ k, u.blk = some k → w.heap.size + 2 ≤ k
  vi : ∀ k, v.blk = some k → w.heap.size + 2 ≤ k
  len : m.length = l.length
  same : bss m = bss l
  new : ∀ j, j < i → Cm (Off (w.heap.size + 2) u v) wr (m.getD j Sb.zero).s (m.getD j Sb.zero).bs
  old : ∀ j, i ≤ j → m.getD j Sb.zero = l.getD j Sb.zero
  e : Below w.heap.size w wr
  sz : w.heap.size + 2 ≤ wr.heap.size
theorem Own.offs {B : Nat} {u v:Sl}{t : List Int} (h : Own 5 1 w s (vals xs)) (hx : Bytes xs) (hk : ∀ k, s.blk = some k → B ≤ k) (oi : OwnN w u t) (ob : OwnB w v l) : Cm (Off B u v) w s xs := by
 refine ⟨h.came hx, fun ad ha _ => ?_⟩
 have hb : s.blk = some ad.block := by rw [Sl.blk, ha]; rfl
 exact ⟨hk _ hb, Own.apart h oi (by decide) _ hb, Own.apart h ob (by decide) _ hb⟩
theorem Co.step {wr:World}{u v:Sl}{t:List Int}{m:List Sb}(c:Co w wr g u v t l m i)(hi:i<l.length)(hx:Bytes (l.getD i Sb.zero).bs)(y:Ly wr w' g u v m i (l.getD i Sb.zero).bs s):Co w w' g u v t l (m.set i ⟨s,(l.getD i Sb.zero).bs⟩) (i+1):=by
 have hsz:=c.sz
 have hoi:OwnN w' u t:=Own.frame c.oi (fun k hk=>y.f.block k (Own.lt c.oi hk) (Own.apart c.oi c.ob (by decide) k hk))
 refine⟨y.k,y.f.lf c.k2 (fun e=>Own.unbox c.ob c.k2 (by decide) e),hoi,y.ob,c.ui,c.vi,by rw [List.length_set];exact c.len,?_,fun j hj=>?_,fun j hj=>?_,?_,Nat.le_trans hsz y.f.size⟩
 · rw [Zeq,← c.same]
   have hm:i<m.length:=by rw [c.len];exact hi
   have:(l.getD i Sb.zero).bs=(bss m)[i]'(by rw [Zah];exact hm):=by
    rw [← c.old i (Nat.le_refl _)]
    simp [bss,List.getD,hm]
   rw [this]
   exact List.set_getElem_self _
 · by_cases e:i=j
   · subst e
     rw [ZeT (by rw [c.len];exact hi)]
     exact Own.offs y.os hx (fun k hk=>Nat.le_trans hsz (y.si k hk)) hoi y.ob
   · rw [Zcg e]
     exact(c.new j (by omega)).keep (Kept.frm y.f (fun k hk=>hk.2.2))
 · rw [Zcg (by omega)]
   exact c.old j (by omega)
 · exact c.e.trans (y.f.below c.e.size (fun k hk=>by have:=c.vi k hk;omega))
def ZhV (w : World) (t : List Int) (l : List Sb) (e : Ending) (w' : World) : Prop := Below w.heap.size w w' ∧ ∃ (u' v' : Sl) (l' : List Sb), e = .returned (lfV u' v') ∧ Lw (w.heap.size + 2) w' u' v' t l' ∧ bss l' = bss l
theorem Zb5 {D:Nat→Prop}(w:World)(u v:Sl)(t:List Int)(l:List Sb)(hi:Gi D w u t)(hg:Gb D w v l) :
    Calls Tryz.prog 95 #[lfV u v] w fun e w'=>ZhV w t l e w':=by
  have hT:=Tb.start u hg
  have HT:=hide hT
  have HI:=hide hi
  have HG:=hide hg
  have HL:=hide hg.len
  have hbig:=hg.big
  clear hT hi hg
  obtain⟨a,len,cap⟩:=v
  obtain⟨ua,ul,uc⟩:=u
  unfold lfV Sl.val at *
  simp only at *
  go_enter Tryz.func95,Tryz.ntmps95
  go_wp2_with fail
  generalize (w.alloc (.cells #[.slice ua ul uc,.slice a len cap] 67)).alloc (.cells #[.slice none 0 0,.slice none 0 0] 67)=W at *
  refine Pl.q9 (ops:=Pl.find 1 ((Tryz.f95.body).getD .skip)) ?_
  refine Zoy W w.heap.size ⟨ua,ul,uc⟩ ⟨a,len,cap⟩ t l HT.out.k1 (fun W' hW=>Znu W' _ t (HI.out.below (Zac HT.out.e hW) (Nat.le_refl _))) (fun W' hW=>ZkG W' _ l (HG.out.below (Zac HT.out.e hW) (Nat.le_refl _))) (by rfl) rfl (by rfl) ?_
  intro q w1 g3 s2 s5 cp
  obtain⟨a2,n2,c2⟩:=s2
  obtain⟨a5,n5,c5⟩:=s5
  have hn5:n5=len:=by have:=OwnB.len cp.ob;rw [HL.out] at this;exact this.symm
  subst hn5
  have HCO:Hid (Co w w1 g3 ⟨a2,n2,c2⟩ ⟨a5,n5,c5⟩ t l l 0):=⟨cp.k,HT.out.k2.below cp.e,cp.oi,cp.ob,fun k hk=>Nat.le_trans HT.out.sz (cp.ui k hk),fun k hk=>Nat.le_trans HT.out.sz (cp.vi k hk),rfl,rfl,fun _ h=>absurd h (Nat.not_lt_zero _),fun _ _=>rfl,Zac HT.out.e cp.e,Nat.le_trans HT.out.sz cp.e.size⟩
  have c0:=cp.k.c0
  have c1:=cp.k.c1
  have HGE:Hid (w.heap.size+2≤g3):=Nat.le_trans HT.out.sz cp.gi
  clear cp
  simp only [Act.put,List.setIfInBounds_toArray,List.set_cons_zero,List.set_cons_succ]
  unfold Sl.val at *
  simp only at *
  go_wp2_with fail
  go_loopw [16] (fun iv wr=>∃i:Nat,i≤n5∧iv=.int .i64 (i:Nat)∧Hid (∃m,Co w wr g3 ⟨a2,n2,c2⟩ ⟨a5,n5,c5⟩ t l m i)) (fun iv _=>n5-(intOf iv).toNat)
  case atStart=>exact ⟨0,Nat.zero_le _,rfl,⟨l,HCO.out⟩⟩
  case round =>
   obtain⟨i,hi,rfl,hco⟩:=hrel
   obtain⟨m,co⟩:=hco.out
   rcases Nat.lt_or_ge i n5 with hlt | hge
   · have i1:(i:Int)<(n5:Int):=by omega
     obtain⟨b5,o5,ha5⟩:=OwnB.pos co.ob (by show 0<n5;omega)
     replace ha5:a5=some ⟨b5,o5,none⟩:=ha5
     subst ha5
     have ci:=OwnB.cellAt co.ob rfl hlt
     rw [co.old i (Nat.le_refl _)] at ci
     have hcm:=HG.out.bs _ (Zcf (l:=l) (i:=i) (by rw [HL.out];exact hlt))
     have HU:Hid (∀W',Below wr.heap.size wr W'→Calls Tryz.prog 133 #[(l.getD i Sb.zero).s.val] W' fun e w'=>Below W'.heap.size W' w'∧∃s:Sl,e=.returned s.val∧Own 5 1 w' s (vals (l.getD i Sb.zero).bs)∧s.len=(l.getD i Sb.zero).s.len∧s.cap=(l.getD i Sb.zero).s.len∧∀k,s.blk=some k→W'.heap.size≤k):=fun W' hW=>ZgX W' _ _ (hcm.1.keep (Kept.all (Zac co.e hW) (Nat.le_refl _))) (by have:=hcm.1.len;have:=hcm.2;omega)
     have HX:=hide hcm.1.came.bs.2.1
     have HXL:=hide hcm.1.len.symm
     have HCO2:=hide co
     clear co hco hcm
     obtain⟨x,hx⟩:∃x,x=l.getD i Sb.zero:=⟨_,rfl⟩
     rw [← hx] at ci HU HX HXL
     have HXE:=hide hx
     clear hx
     obtain⟨⟨xa,xl,xc⟩,xs⟩:=x
     unfold Sl.val at ci HU
     simp only at *
     go_wp2_with fail
     refine Pl.q9 (ops:=Pl.find 5 ((Tryz.f95.body).getD .skip)) ?_
     refine Zoz wr g3 b5 o5 n5 c5 i ⟨a2,n2,c2⟩ ⟨xa,xl,xc⟩ m xs hlt HXL.out HCO2.out.k3 HCO2.out.ob HU.out (by rfl) rfl (by rfl) (by rfl) (by rfl) ?_
     intro q w2 s4 ly
     have HST:Hid (∃m,Co w w2 g3 ⟨a2,n2,c2⟩ ⟨some ⟨b5,o5,none⟩,n5,c5⟩ t l m (i+1)):=by
      have hbs:xs=(l.getD i Sb.zero).bs:=by rw [← HXE.out]
      rw [hbs] at ly
      have hb2:Bytes (l.getD i Sb.zero).bs:=by rw [← hbs];exact HX.out
      exact⟨_,HCO2.out.step (by rw [HL.out];exact hlt) hb2 ly⟩
     clear ly HXE HX HXL HU HCO2
     simp only [Act.put,List.setIfInBounds_toArray,List.set_cons_zero,List.set_cons_succ]
     go_wp2_with fail
     go_roundw
     case rel=>exact ⟨i+1,by omega,by go_num,HST⟩
     case measure=>simp only [intOf];omega
   · have i1:¬(i:Int)<(n5:Int):=by omega
     have e0:i=n5:=by omega
     subst e0
     have d0:=co.k3.c0
     have d1:=co.k3.c1
     obtain⟨W9,hst9,k9,f9⟩:=ZbD wr _ _ _ co.k2 ⟨a2,n2,c2⟩ ⟨a5,i,c5⟩
     have HST9:=hide hst9
     have HK9:=hide k9
     have HF:Hid (ZhV w t l (.returned (lfV ⟨a2,n2,c2⟩ ⟨a5,i,c5⟩)) W9):=by
      refine⟨co.e.trans (f9.below co.e.size (fun k hk=>by rw [hk];exact Nat.le_succ _)),⟨a2,n2,c2⟩,⟨a5,i,c5⟩,m,rfl,⟨Own.kept co.oi f9 (Own.unbox co.oi co.k2 (by decide)),Own.kept co.ob f9 (Own.unbox co.ob co.k2 (by decide)),co.ui,co.vi,fun x hx=>?_⟩,co.same⟩
      obtain⟨j,hj,rfl⟩:=Znl hx
      have hjl:j<l.length:=by rw [← co.len];exact hj
      have hb2:(m.getD j Sb.zero).bs=(l.getD j Sb.zero).bs:=by
       have h1:=ZeX m j
       have h2:=ZeX l j
       rw [co.same,h2] at h1
       exact h1.symm
      have hji:j<i:=by have:=HL.out;omega
      refine⟨(co.new j hji).keep (Kept.frm f9 (fun k hk e=>by rw [e] at hk;have:=hk.1;omega)),?_⟩
      rw [hb2]
      exact(HG.out.bs _ (Zcf hjl)).2
     clear co hst9 k9 f9 hco
     unfold Sl.val at *
     simp only at *
     go_wp2_with (refine Zab _ rfl rfl 67 (.tmp 2) (.tmp 28) rfl (.pointer (some ⟨w.heap.size+1,0,none⟩)) (.agg #[.slice a2 n2 c2,.slice a5 i c5]) rfl rfl W9 HST9.out ?_)
     refine bodyPost_ret (Zjd (u:=⟨a2,n2,c2⟩) (v:=⟨a5,i,c5⟩) rfl HK9.out _ rfl) rfl ?_
     exact HF.out
def lvV (b : Nat) : Value := .func (.func 136) #[] #[.pointer (some ⟨b, 0, none⟩)]
def outB (live : List Int) (x : Int) : Bool := !(live.contains x)
theorem Zk3 {D : Nat → Prop} (x : Int) (b : Nat) (r : Sl) (live : List Int) (w : World) (hb : w.cell? ⟨b, 0, none⟩ = some r.val) (hr : Gi D w r live) : Calls Tryz.prog 136 #[.int .i64 x, .pointer (some ⟨b, 0, none⟩)] w fun e w' => e = .returned (.bool (outB live x)) ∧ w' = w := by
 have HC := hide (Zcc w r live hr x)
 unfold outB
 obtain ⟨c, hc⟩ : ∃ c, c = live.contains x := ⟨_, rfl⟩
 rw [← hc] at HC
 rw [← hc]
 clear hc hr
 obtain ⟨ra, rl, rc⟩ := r
 unfold Sl.val at *
 simp only at *
 go_enter Tryz.func136, Tryz.ntmps136
 go_wp2_with fail
 refine HC.out.mono ?_
 rintro e w1 ⟨rfl, hw⟩
 obtain rfl := hw.symm
 go_wp2_with fail
 go_ret
 exact ⟨rfl, rfl⟩
theorem ZlI {D:Nat→Prop}(w:World)(v:Sl)(t:List Int)(h:Gi D w v t)(b:Nat)(r:Sl)(live:List Int)(hb:w.cell? ⟨b,0,none⟩=some r.val)(hr:Gi D w r live) :
    Calls Tryz.prog 135 #[v.val,lvV b] w fun e w'=>e=.returned (.int .i64 (ixI (outB live) t 0))∧w'=w:=by
  obtain⟨a,len,cap⟩:=v
  have HG:=hide h
  have hl:t.length=len:=h.len
  have HL:=hide hl
  have hbig:len≤1000000:=h.big
  have HC:Hid (∀x,Calls Tryz.prog 136 #[.int .i64 x,.pointer (some ⟨b,0,none⟩)] w fun e w'=>e=.returned (.bool (outB live x))∧w'=w):=fun x=>Zk3 x b r live w hb hr
  have HI:Hid (ixI (outB live) t 0=ixI (outB live) (t.drop 0) 0):=rfl
  clear h hl hb hr
  unfold Sl.val lvV
  simp only
  go_enter Tryz.func135,Tryz.ntmps135
  go_wp2_with fail
  go_loopw [8] (fun iv wr=>wr=w∧∃i:Nat,i≤len∧iv=.int .i64 (i:Nat)∧Hid (ixI (outB live) t 0=ixI (outB live) (t.drop i) i)) (fun iv _=>len-(intOf iv).toNat)
  case atStart=>exact ⟨rfl,0,Nat.zero_le _,rfl,HI⟩
  case round =>
   obtain⟨rfl,i,hi,rfl,hix⟩:=hrel
   rcases Nat.lt_or_ge i len with hlt | hge
   · have i1:(i:Int)<(len:Int):=by omega
     obtain⟨bb,oo,ha,c0⟩:=HG.out.cell i hlt
     replace ha:a=some ⟨bb,oo,none⟩:=ha
     subst ha
     obtain⟨x,hx⟩:∃x,x=t.getD i 0:=⟨_,rfl⟩
     rw [← hx] at c0
     have HX:=hide hx
     have HCL:=hide (HC.out x)
     clear hx
     cases hon:outB live x with
     | true =>
      rw [hon] at HCL
      have HE:Hid (ixI (outB live) t 0=(i:Int)):=hix.out.trans (Zkx (by rw [HL.out];exact hlt) (by rw [← HX.out];exact hon))
      clear hix hon HX
      go_wp2_with fail
      refine HCL.out.mono ?_
      rintro e w1 ⟨rfl,hw⟩
      obtain rfl:=hw.symm
      go_wp2_with fail
      go_ret
      exact⟨by rw [HE.out];rfl,rfl⟩
     | false =>
      rw [hon] at HCL
      have HE:Hid (ixI (outB live) t 0=ixI (outB live) (t.drop (i+1)) (i+1)):=hix.out.trans (Zis (by rw [HL.out];exact hlt) (by rw [← HX.out];exact hon))
      clear hix hon HX
      go_wp2_with fail
      refine HCL.out.mono ?_
      rintro e w1 ⟨rfl,hw⟩
      obtain rfl:=hw.symm
      go_wp2_with fail
      go_roundw
      case rel=>exact ⟨trivial,i+1,by omega,by go_num,HE⟩
      case measure=>simp only [intOf];omega
   · have HE:Hid (ixI (outB live) t 0 = -1):=hix.out.trans (Zkw (by rw [HL.out];exact hge))
     have i1:¬(i:Int)<(len:Int):=by omega
     clear hix
     go_wp2_with fail
     go_ret
     exact⟨by rw [HE.out];rfl,rfl⟩
theorem Zlq : (fun x : Int => (0 : Int) == x) = fun x => x == 0 := by
 funext x
 exact BEq.comm
theorem Zg9 {D:Nat→Prop}(w:World)(u:Sl)(t:List Int)(hi:Gi D w u t)(r:Sl)(live:List Int)(hr:Gi D w r live) :
    Calls Tryz.prog 97 #[u.val,r.val] w fun e w'=>e=.returned (.int .i64 (freeI t live))∧Below w.heap.size w w':=by
  have hmf:∀(fn:Fn) (first cap:Array Value) (w:World),(Instr.makeFunc fn first cap).run Tryz.prog w=.ok (.func fn first cap) w:=fun _ _ _ _=>rfl
  have hA:=Zaa w (.cells #[r.val] 46)
  have HX:=hide (Zkm _ u t (hi.below hA (Nat.le_refl _)) 0)
  rw [Zlq] at HX
  have hcell:(w.alloc (.cells #[r.val] 46)).cell? ⟨w.heap.size,0,none⟩=some r.val:=by
   have hb:=heap_alloc_new w (.cells #[r.val] 46)
   rw [cell_of_row _ _ _ _ _ _ hb]
   rfl
  have HF:=hide (ZlI _ u t (hi.below hA (Nat.le_refl _)) w.heap.size r live hcell (hr.below hA (Nat.le_refl _)))
  have HA:=hide hA
  have HFE:Hid (freeI t live=if 0≤ixI (fun x=>x == 0) t 0 then ixI (fun x=>x == 0) t 0 else ixI (outB live) t 0):=rfl
  obtain⟨z,hz⟩:∃z,z=ixI (fun x=>x == 0) t 0:=⟨_,rfl⟩
  rw [← hz] at HX HFE
  obtain⟨y,hy⟩:∃y,y=ixI (outB live) t 0:=⟨_,rfl⟩
  rw [← hy] at HF HFE
  clear hz hy hi hr hA hcell
  obtain⟨ua,ul,uc⟩:=u
  obtain⟨ra,rl,rc⟩:=r
  unfold lvV Sl.val at *
  simp only at *
  by_cases h0:0≤z
  · have HE:Hid (freeI t live=z):=HFE.out.trans (if_pos h0)
    clear HFE
    go_enter Tryz.func97,Tryz.ntmps97
    go_wp2_with fail
    refine HX.out.mono ?_
    rintro e w1 ⟨rfl,hw⟩
    obtain rfl:=hw
    go_wp2_with fail
    go_ret
    exact⟨by rw [HE.out];rfl,HA.out⟩
  · have HE:Hid (freeI t live=y):=HFE.out.trans (if_neg h0)
    have h1:z<0:=by omega
    clear HFE h0
    go_enter Tryz.func97,Tryz.ntmps97
    go_wp2_with fail
    refine HX.out.mono ?_
    rintro e w1 ⟨rfl,hw⟩
    obtain rfl:=hw
    go_wp2_with fail
    refine HF.out.mono ?_
    rintro e w1 ⟨rfl,hw⟩
    obtain rfl:=hw
    go_wp2_with fail
    go_ret
    exact⟨by rw [HE.out];rfl,HA.out⟩
def ixE (s : List (List Nat)) : Int := if atE s = s.length then -1 else ((atE s : Nat) : Int)
theorem Zne (w : World) (x : Sl) (hx : x.len ≤ 1000000) : Calls Tryz.prog 100 #[x.val] w fun e w' => e = .returned (.bool (decide (x.len = 0))) ∧ w' = w := by
 obtain ⟨a, n, c⟩ := x
 unfold Sl.val
 simp only
 by_cases h : n = 0
 · subst h
   go_enter Tryz.func100, Tryz.ntmps100
   go_wp2_with fail
   go_ret
   exact ⟨rfl, rfl⟩
 · have i1 : ¬ (n : Int) = 0 := by omega
   have i2 : ((n : Int) == 0) = false := by simp [h]
   rw [decide_eq_false h]
   go_enter Tryz.func100, Tryz.ntmps100
   go_wp2_with fail
   go_ret
   exact ⟨by simp, rfl⟩
theorem ZlH {D:Nat→Prop}(w:World)(v:Sl)(l:List Sb)(h:Gb D w v l) :
    Calls Tryz.prog 99 #[v.val,.func (.func 100) #[] #[]] w fun e w'=>e=.returned (.int .i64 (ixE (bss l)))∧w'=w:=by
  obtain⟨a,len,cap⟩:=v
  have HG:=hide h
  have HL:Hid ((bss l).length=len):=by show _=_;rw [Zah];exact h.len
  have hbig:len≤1000:=h.big
  clear h
  unfold Sl.val
  simp only
  go_enter Tryz.func99,Tryz.ntmps99
  go_wp2_with fail
  go_loopw [8] (fun iv wr=>wr=w∧∃i:Nat,i≤len∧iv=.int .i64 (i:Nat)∧Hid (∀j,j<i→(sl (bss l) j).length≠0)) (fun iv _=>len-(intOf iv).toNat)
  case atStart=>exact ⟨rfl,0,Nat.zero_le _,rfl,fun _ h=>absurd h (Nat.not_lt_zero _)⟩
  case round =>
   obtain⟨rfl,i,hi,rfl,hix⟩:=hrel
   rcases Nat.lt_or_ge i len with hlt | hge
   · have i1:(i:Int)<(len:Int):=by omega
     obtain⟨bb,oo,ha,c0⟩:=HG.out.cell i hlt
     replace ha:a=some ⟨bb,oo,none⟩:=ha
     subst ha
     obtain⟨_,hsl,h1000⟩:=HG.out.at hlt
     obtain⟨⟨sa,sn,sc⟩,hsb⟩:∃s,s=(l.getD i Sb.zero).s:=⟨_,rfl⟩
     rw [← hsb] at c0 hsl
     have HCL:=hide (Zne wr ⟨sa,sn,sc⟩ (by show sn≤_;have:sn=_:=hsl;omega))
     unfold Sl.val at c0 HCL
     simp only at c0 hsl HCL
     have HS:=hide hsl
     clear hsb hsl h1000
     by_cases h0:sn=0
     · rw [decide_eq_true h0] at HCL
       have HE:Hid (ixE (bss l)=(i:Int)):=by
        have e:=ZhY (s:=bss l) (n:=i) hix.out (.inr ⟨by rw [HL.out];exact hlt,by rw [← HS.out];exact h0⟩)
        show _=_
        unfold ixE
        rw [e,if_neg (by rw [HL.out];omega)]
       clear hix HS h0
       go_wp2_with fail
       refine HCL.out.mono ?_
       rintro e w1 ⟨rfl,hw⟩
       obtain rfl:=hw.symm
       go_wp2_with fail
       go_ret
       exact⟨by rw [HE.out];rfl,rfl⟩
     · rw [decide_eq_false h0] at HCL
       have HE:Hid (∀j,j<i+1→(sl (bss l) j).length≠0):=by
        intro j hj
        by_cases e:j=i
        · rw [e,← HS.out];exact h0
        · exact hix.out j (by omega)
       clear hix HS h0
       go_wp2_with fail
       refine HCL.out.mono ?_
       rintro e w1 ⟨rfl,hw⟩
       obtain rfl:=hw.symm
       go_wp2_with fail
       go_roundw
       case rel=>exact ⟨trivial,i+1,by omega,by go_num,HE⟩
       case measure=>simp only [intOf];omega
   · have i1:¬(i:Int)<(len:Int):=by omega
     have HE:Hid (ixE (bss l) = -1):=by
      have e:=ZhY (s:=bss l) (n:=(bss l).length) (fun j hj=>hix.out j (by rw [HL.out] at hj;omega)) (.inl rfl)
      show _=_
      unfold ixE
      rw [if_pos e]
     clear hix
     go_wp2_with fail
     go_ret
     exact⟨by rw [HE.out];rfl,rfl⟩
def nul (xs : List Nat) : Bool := xs.all fun x => x == 0
theorem Zog (h : i < xs.length) (hx : xs.getD i 0 ≠ 0) : nul xs = false := by
 unfold nul
 rw [List.all_eq_false]
 refine ⟨xs.getD i 0, ?_, by simpa using hx⟩
 simp [List.getD, h]
theorem Znn (h : ∀ i, i < xs.length → xs.getD i 0 = 0) : nul xs = true := by
 unfold nul
 rw [List.all_eq_true]
 intro x hx
 obtain ⟨i, hi, e⟩ := List.mem_iff_getElem.1 hx
 have := h i hi
 simp [List.getD, hi] at this
 simp [← e, this]
end Go.Proofs.YtdojdcncncgncaaGreat
