/-
  Lemmas.
-/
import Derived.Test.YtpnlebpnhmibfaaGreatPb
namespace Go.Proofs.YtpnlebpnhmibfaaGreat
open Go.RowKit
set_option linter.unusedVariables false
set_option maxRecDepth 100000
set_option maxHeartbeats 4000000
variable {n tot m c:Nat}{P:Po}{w:World}{v s:Sl}{d:Dv}{Ld:DvL}{A:Act}
variable {K : Home}
theorem Pl.fieldV {P:Program}{ops:Array Oper}{S:World→Prop}{f:Nat→Value}(i:Nat)(t:TypeId)(x:Operand)(k:Nat)(v:Value)(h:(Pl.op ops i).op=.field t x k)(hx:Pl.inB n x=true)(hv:∀w,(Instr.field t (Pl.ev f x) k).run P w=.ok v w) :
    ∀A,Pl.At n A f→∀w,S w→(execOp A.eval (Pl.op ops i)).run P w=.ok (.value v) w:=by
  intro A hA w _;have e:execOp A.eval (Pl.op ops i)=(do pure (.value (← Instr.field t (A.eval x) k))):=by
   unfold execOp;rw [h]
  rw [e,hA.ev x hx];simp [hv]
theorem ZnT (x:Dk)(p s:Sl)(w:World):(Instr.field 34 (x.val p s) 0).run Tryz.prog w=.ok p.val w:=by
 unfold Dk.val Sl.val;simp [go_sem,Instr.field,asAgg]
theorem Ziw (g:Nat)(w:World):(Instr.fieldAt 43 (.pointer (some ⟨g,0,none⟩)) 0).run Tryz.prog w=.ok (.pointer (some ⟨g,0,none⟩)) w:=by simp [go_sem,Instr.fieldAt]
theorem Zmy (k:Nat)(h:k≤1000)(x y:Operand)(w:World):(do eqGuard .mul 3 x y (.int .i64 512) (.int .i64 (k:Int));binOp .mul 3 (.int .i64 512) (.int .i64 (k:Int)):Sem Value).run Tryz.prog w=.ok (.int .i64 ((512*k:Nat):Int)) w:=by
 (have e:IntKind.i64.wrap (512*(k:Int))=((512*k:Nat):Int):=by rw [IntKind.wrap_i64];omega);simp only [go_sem,eqGuard] at *;simp [go_sem];rw [e];omega
theorem ZnF (k:Nat)(h:k≤1000)(x y:Operand)(w:World):(do eqGuard .add 3 x y (.int .i64 ((512*k:Nat):Int)) (.int .i64 512);binOp .add 3 (.int .i64 ((512*k:Nat):Int)) (.int .i64 512):Sem Value).run Tryz.prog w=.ok (.int .i64 ((512*k+512:Nat):Int)) w:=by
 (have e:IntKind.i64.wrap (((512*k:Nat):Int)+512)=((512*k+512:Nat):Int):=by rw [IntKind.wrap_i64];omega);simp [go_sem,eqGuard];first | exact e | (rw [← e];congr 1)
theorem ZkV (k:Nat)(q:Sl)(w:World):(Instr.build 115 #[(0,.int .i64 (k:Int)),(1,q.val)]).run Tryz.prog w=.ok (.agg #[.int .i64 (k:Int),q.val,.bool false,.int .i64 0]) w:=by
 unfold Sl.val;simp [go_sem,Instr.build]
theorem ZgM:∀args w,(callFunc 28 args).run Tryz.prog w=.ok (.enter 28 args) w:=Pl.ql Tryz.func28
theorem ZmF:∀args w,(callFunc 96 args).run Tryz.prog w=.ok (.enter 96 args) w:=Pl.ql Tryz.func96
theorem let8 (w:World)(g r k:Nat)(dd:Dv)(Ld:DvL)(v:Sl)(h:Int)(s:Sl)(sy:Int)(hk:k≤1000)(ag:512*k+512≤Ld.np.cap)(R1:World→Prop)(R2:Value→World→Prop)(R3:World→Prop)(h0:(fun (w':World)=>RBlk w' g dd Ld v h s sy) w)(ae:Calls Tryz.prog 28 #[dd.val Ld] w.drew fun e w2=>e=.returned (dd.now.val Ld.np Ld.ns)∧R1 w2)(ab:∀w2,R1 w2→(fun (w':World)=>RBlk w' g dd Ld v h s sy) w2)(ah:∀w2,R1 w2→Calls Tryz.prog 96 #[rV dd Ld v h s sy,.agg #[.int .i64 (k:Int),(Ld.np.mid (512*k) (512*k+512)).val,.bool false,.int .i64 0]] w2 fun e w3=>∃x,e=.returned x∧R2 x w3)(af:∀x w3,R2 x w3→(fun (w':World)=>RBlk w' g dd Ld v h s sy) w3)(ac:∀x w3,R2 x w3→∃W,(Instr.storeAt 43 (.pointer (some ⟨r,0,none⟩)) x).run Tryz.prog w3=.ok () W∧(fun (w':World)=>RBlk w' g dd Ld v h s sy) W∧R3 W)
    {Q:Exit→Act→World→Prop}(an:A.tmps.size=46)(ak:A.defers=[])(s1:A.tmps.getD 1 undef=.int .i64 (k:Int))(s2:A.tmps.getD 2 undef=.pointer (some ⟨g,0,none⟩))(s4:A.tmps.getD 4 undef=.pointer (some ⟨r,0,none⟩))
    (hend:∀(u:Nat→Value) w',R3 w'→Q .normal (((((((((((((((A).put (some 32) (u 32)).put (some 33) (u 33)).put (some 34) (u 34)).put (some 35) (u 35)).put (some 38) (u 38)).put (some 39) (u 39)).put (some 40) (u 40)).put (some 41) (u 41)).put (some 42) (u 42)).put (some 36) (u 36)).put (some 37) (u 37)).put (some 43) (u 43)).put (some 44) (u 44)).put (some 45) (u 45)) w') :
    (Code.region 8 (Pl.find 8 ((Tryz.f69.body).getD .skip)) true).wp Tryz.prog Q A w:=by
  have aa:=(show (fun w'=>RBlk w' g dd Ld v h s sy) w.drew from h0);have hA:=Pl.At.same (v:=.pointer (some ⟨r,0,none⟩)) (d:=4) (Pl.At.same (v:=.pointer (some ⟨g,0,none⟩)) (d:=2) (Pl.At.same (v:=.int .i64 (k:Int)) (d:=1) (Pl.At.here an ak) s1) s2) s4;refine Pl.qa (S:=fun w'=>RBlk w' g dd Ld v h s sy) hA aa ?_;rw [show (Pl.find 8 ((Tryz.f69.body).getD .skip)).size=15 by kernel_rfl];refine Pl.q1 0 32 (rV dd Ld v h s sy) (Pl.q0) (Pl.q6 43 (.tmp 2) (fun w' hS=>ldR hS)) aa ?_;refine Pl.q1 1 33 (.int .i64 (k:Int)) (Pl.q0) (Pl.q2 (.tmp 1)) aa ?_;refine Pl.q1 2 34 (.pointer (some ⟨g,0,none⟩)) (Pl.q0) (Pl.q4 43 (.tmp 2) 0 (Ziw g)) aa ?_;refine Pl.q1 3 35 (dd.val Ld) (Pl.q0) (Pl.q6 37 (.tmp 34) (fun w' hS=>ldRD hS)) aa ?_;refine Pl.q1 6 38 (.int .i64 (k:Int)) (Pl.q0) (Pl.q2 (.tmp 1)) aa ?_;refine Pl.q1 7 39 (.int .i64 ((512*k:Nat):Int)) (Pl.q0) (Pl.q9 .mul 3 3 (.const (.int .i64 512)) (.tmp 38) (.int .i64 512) (.int .i64 (k:Int)) (fun w=>Zmy k hk _ _ w)) aa ?_;refine Pl.q1 8 40 (.int .i64 (k:Int)) (Pl.q0) (Pl.q2 (.tmp 1)) aa ?_;refine Pl.q1 9 41 (.int .i64 ((512*k:Nat):Int)) (Pl.q0) (Pl.q9 .mul 3 3 (.const (.int .i64 512)) (.tmp 40) (.int .i64 512) (.int .i64 (k:Int)) (fun w=>Zmy k hk _ _ w)) aa ?_;refine Pl.q1 10 42 (.int .i64 ((512*k+512:Nat):Int)) (Pl.q0) (Pl.q9 .add 3 3 (.tmp 41) (.const (.int .i64 512)) (.int .i64 ((512*k:Nat):Int)) (.int .i64 512) (fun w=>ZnF k hk _ _ w)) aa ?_;refine Pl.qc 4 36 28 [(.tmp 35)] #[37] (Pl.q0) ZgM (Calls.mono (ae) ?_);rintro e w2 ⟨rfl,ad⟩;refine⟨dd.now.val Ld.np Ld.ns,rfl,(ab w2 ad),?_⟩;refine Pl.q1 5 37 (Ld.np.val) (Pl.q0) (Pl.fieldV 5 34 (.tmp 36) 0 _ (by kernel_rfl) (by decide) (ZnT dd.now Ld.np Ld.ns)) (ab w2 ad) ?_;refine Pl.q1 11 43 ((Ld.np.mid (512*k) (512*k+512)).val) (Pl.q0) (Pl.qo 32 (.tmp 37) (some (.tmp 39)) (some (.tmp 42)) (Zfk Ld.np (512*k) (512*k+512) (by omega) ag)) (ab w2 ad) ?_;refine Pl.q1 12 44 (.agg #[.int .i64 (k:Int),(Ld.np.mid (512*k) (512*k+512)).val,.bool false,.int .i64 0]) (Pl.q0) (Pl.q_38 115 [(0,.tmp 33),(1,.tmp 43)] (fun w=>ZkV k _ w)) (ab w2 ad) ?_;refine Pl.qc 13 45 96 [(.tmp 32),(.tmp 44)] #[43,115] (Pl.q0) ZmF (Calls.mono (ah w2 ad) ?_);rintro e w3 ⟨x,rfl,ai⟩;obtain⟨W4,am,aj,al⟩:=ac x w3 ai;refine⟨x,rfl,(af x w3 ai),?_⟩;refine Pl.qd 14 W4 (Pl.q0) (Pl.qh 43 (.tmp 4) (.tmp 45) W4 am) aj ?_;refine Pl.q7 (fun A' hA'=>?_);rw [Pl.At.ext hA' ((((((((((((((hA.put 32 _).put 33 _).put 34 _).put 35 _).put 38 _).put 39 _).put 40 _).put 41 _).put 42 _).put 36 _).put 37 _).put 43 _).put 44 _).put 45 _)];exact hend hA'.fn _ al
theorem Zen {k:Nat}{sh:Sh}(hk:k<n)(h:P.m k=some sh):(k,sh)∈P.inl n:=List.mem_of_getElem? (Zmv P hk h).1
theorem ZcI {D:Nat→Prop}{W:World}{g:Nat}{l:List Sp}(h:Gs D w v l)(hf:Frm (fun i=>i=g) w W)(k:∃d' Ld' v' h' s' sy',RBlk w g d' Ld' v' h' s' sy'):Gs D W v l:=by
 obtain⟨_,_,_,_,_,_,k⟩:=k;have hb:∀ad,v.a=some ad→0<v.len→W.heap[ad.block]? = w.heap[ad.block]?:=fun ad ha hl=>by
  obtain⟨C,fz,hc⟩:=h.ty ad ha hl;refine hf.block _ (Array.getElem?_eq_some_iff.1 hc).1 (fun e=>?_);rw [e] at hc;unfold RBlk at k;rw [hc] at k;simp only [Option.some.injEq,Obj.cells.injEq] at k;exact absurd k.2.1 (by decide)
 refine⟨h.len,h.nil,h.le,h.big,h.home,fun i hi=>?_,fun ad ha hl=>?_⟩
 · obtain⟨b,off,ha,c0,c1,c2⟩:=h.cell i hi;have e:=hb _ ha (by omega);(have hc:∀o,W.cell? ⟨b,o,none⟩=w.cell? ⟨b,o,none⟩:=fun o=>by simp only [World.cell?,e]);exact⟨b,off,ha,(hc _).trans c0,(hc _).trans c1,(hc _).trans c2⟩
 · obtain⟨C,fz,hc⟩:=h.ty ad ha hl;exact⟨C,fz,(hb ad ha hl).trans hc⟩
theorem Zgl {w6:World}(hI:RpIn K w6 n tot m P d Ld v s)(hX:Rx w w6 (w.heap.size+1) d Ld v P.h s P.sy){k:Nat}(ak:P.m k=none)(hk:k<n)(hn:n≤64)(ht:tot≤40000)
    {Q:Exit→Act→World→Prop}(a1:A.tmps.size=46)(a2:A.defers=[])(a3:A.tmps.getD 1 undef=.int .i64 (k:Int))(a4:A.tmps.getD 2 undef=.pointer (some ⟨w.heap.size,0,none⟩))(a5:A.tmps.getD 4 undef=.pointer (some ⟨w.heap.size+1,0,none⟩))
    (hend:∀(u:Nat→Value)(w8:World),(∃D8 L8 v8 s8,RBlk w8 (w.heap.size+1) D8 L8 v8 P.h s8 P.sy∧Below w.heap.size w w8∧RpIn K w8 n tot m (P.put k (some ⟨P.D.page k,false,0⟩)) D8 L8 v8 s8)→Q .normal ((((((((((((((((A).put (some 32) (u 32)).put (some 33) (u 33)).put (some 34) (u 34)).put (some 35) (u 35)).put (some 38) (u 38)).put (some 39) (u 39)).put (some 40) (u 40)).put (some 41) (u 41)).put (some 42) (u 42)).put (some 36) (u 36)).put (some 37) (u 37)).put (some 43) (u 43)).put (some 44) (u 44)).put (some 45) (u 45))) w8) :
    (Code.region 8 (Pl.find 8 ((Tryz.f69.body).getD .skip)) true).wp Tryz.prog Q A w6:=by
  have af:=hI.keep (Zad w6);(have al:Ld.np.len=512*n:=by rw [← hI.dv.now.pg.len];exact hI.good.np);have ag:=af.dv.now.pg.mid (512*k) (512*k+512) (by omega) (by omega);have ah:(d.now.pg.drop (512*k)).take (512*k+512-512*k)=P.D.page k:=by
   unfold Ds.page;rw [hI.rel.sp,show 512*k+512-512*k=512 by omega];rfl
  rw [ah] at ag;have ad:=Zbk d Ld w6.drew;refine let8 w6 w.heap.size (w.heap.size+1) k d Ld v P.h s P.sy (by omega) (Nat.le_trans (by omega) hI.dv.now.pg.le) (fun w2=>Below w6.drew.heap.size w6.drew w2) (fun x w3=>Below w6.drew.heap.size w6.drew w3∧∃s',x=rV d Ld v P.h s' P.sy∧ShRow K w3 s' (setL (P.inl n) (k,⟨P.D.page k,false,0⟩))) (fun w8=>∃D8 L8 v8 s8,RBlk w8 (w.heap.size+1) D8 L8 v8 P.h s8 P.sy∧Below w.heap.size w w8∧RpIn K w8 n tot m (P.put k (some ⟨P.D.page k,false,0⟩)) D8 L8 v8 s8) hX.b (ad.mono (fun e w2 h2=>⟨h2.2,h2.1⟩)) (fun w2 h2=>hX.b.below ((Zad w6).trans (h2.mono (Zad w6).size))) (fun w2 h2=>?_) (fun x w3 h3=>hX.b.below ((Zad w6).trans (h3.1.mono (Zad w6).size))) (fun x w3 h3=>?_) a1 a2 a3 a4 a5 hend
  · have h1:=Zdp (af.sh.keep h2) (Nat.le_trans (Zc4 P n) (by omega)) d Ld v P.h P.sy ((k,⟨P.D.page k,false,0⟩),Ld.np.mid (512*k) (512*k+512)) (ag.keep h2 (Nat.le_refl _)) (by show 512*k+512-512*k=512;omega);refine h1.mono ?_;rintro e w3 ⟨ae,s',rfl,aa⟩;exact⟨_,rfl,h2.trans (ae.mono h2.size),s',rfl,aa⟩
  · obtain⟨ae,s',rfl,aa⟩:=h3;have ab:=(hX.keep (Zad w6)).keep ae;have ac:=af.keep ae;obtain⟨W,ai,hb,hB,hf⟩:=ab.tell d Ld v P.h s' P.sy;have aj:=hX.lt;refine⟨W,ai,ab.b.keep (hf.block _ ab.b.lt (by omega)),d,Ld,v,s',hb,hB,?_⟩;rw [ZdO P hk] at aa;exact⟨ZaH ac.dv hf ab.ans,ac.rel,ac.good,ZcI ac.ck hf ab.ans,ZaJ aa hf ab.ans,Nat.le_trans ac.low hf.size⟩
theorem ZhS (hI : RpIn K w n tot m P d Ld v s) (hF : P.Fine n c) (ht : tot ≤ 40000) (hm : m ≤ 890) (k : Nat) (hk : k < n) : Calls Tryz.prog 69 #[rV d Ld v P.h s P.sy, .int .i64 (k : Int)] w fun e w' => Below w.heap.size w w' ∧ ∃ x, e = .returned x ∧ Zay K n tot (m + 4) (P.letIn k) x w' := by
  have hn64 := hF.wet.dev.n2
  obtain ⟨W0, hW0⟩ : ∃ W, W = ((w.alloc (.cells (Zah d Ld v P.h s P.sy) 43)).alloc (.cells (Zah dv0 dvl0 Sl.nil 0 Sl.nil 0) 43)) := ⟨_, rfl⟩
  have hX : Rx w W0 (w.heap.size + 1) d Ld v P.h s P.sy := by rw [hW0]; exact ZbA w d Ld v P.h s P.sy
  have hI0 := hI.keep hX.e
  have HTC := hide (ZiN W0 v P.h P.l hI0.ck (k : Int) hF.ok.may)
  have c9 := hX.b.c9
  have c10 := hX.b.c10
  rw [hW0, Zb9] at c9 c10
  rw [Zb9] at hW0
  have HW0 := hide hW0
  have HX0 := hide hX
  have HI := hide hI
  have HLOW : Hid (K.low ≤ W0.heap.size) := hI0.low
  have HE : Hid (P.letIn k = ((P.clock (touch P.l P.h (k : Int)).l (touch P.l P.h (k : Int)).h).left (touch P.l P.h (k : Int)).was).fetch k) := rfl
  have HWET := hide hF.wet
  have HKN := hide hk
  have HN := hide hn64
  have HT := hide ht
  have HM := hide hm
  rw [HE.out]
  clear hX hI hI0 hW0 hF ht hm hk hn64 HE
  generalize touch P.l P.h (k : Int) = tc at *
  obtain ⟨va, vl, vc⟩ := v
  simp only [ckV, Sl.val] at *
  unfold rV
  by_cases hin : 0 ≤ tc.was ∧ (P.m tc.was.toNat).isSome = true
  · -- one leaves
    obtain ⟨x, hx⟩ : ∃ x : Nat, tc.was = (x : Int) := ⟨tc.was.toNat, by omega⟩
    have hxm : (P.m x).isSome = true := by have := hin.2; rw [hx, Int.toNat_natCast] at this; exact this
    have HLEFT : Hid ((P.clock tc.l tc.h).left tc.was = (P.clock tc.l tc.h).out x) := by
      show _ = _
      unfold Po.left
      rw [hx, Int.toNat_natCast]
      exact if_pos ⟨by omega, hxm⟩
    obtain ⟨P5, hP5⟩ : ∃ P5, P5 = (P.clock tc.l tc.h).out x := ⟨_, rfl⟩
    rw [HLEFT.out, ← hP5]
    have HP5 := hide hP5
    clear hP5
    rw [hx] at HTC
    obtain ⟨xsh, hxs⟩ := Option.isSome_iff_exists.1 hxm
    have hxn := (HWET.out.sh x xsh hxs).1
    have HXS := hide hxs
    have HXN := hide hxn
    clear hin hx hxm hxs hxn HLEFT
    go_enter Tryz.func69, Tryz.ntmps69
    go_wp2_with fail
    rw [← HW0.out]
    refine HTC.out.mono ?_
    rintro e w1 ⟨hb1, ⟨na, nl, nc⟩, rfl, hg1⟩
    simp only
    have hX1 := HX0.out.keep hb1
    have hI1 := (HI.out.keep HX0.out.e).keep hb1
    obtain ⟨W2, hst2, hblk2, hf2, hs2⟩ := stRC hX1.b ⟨na, nl, nc⟩ tc.h
    have HX2 := hide (hX1.turn hblk2 hf2)
    have hgK : Gs K.G w1 ⟨na, nl, nc⟩ tc.l := hg1.mono (fun q hq _ => hq.elim id (fun e => K.all q (Nat.le_trans HLOW.out e)))
    have HI2 : Hid (RpIn K W2 n tot m (P.clock tc.l tc.h) d Ld ⟨na, nl, nc⟩ s) := ⟨ZaH hI1.dv hf2 ⟨_, _, _, _, _, _, hX1.b⟩, hI1.rel, hI1.good, ZcI hgK hf2 ⟨_, _, _, _, _, _, hX1.b⟩, ZaJ hI1.sh hf2 ⟨_, _, _, _, _, _, hX1.b⟩, Nat.le_trans hI1.low hf2.size⟩
    have HS2 := hide hst2
    have HL2 := hide (ldR hblk2)
    simp only [ckV, Sl.val, rV] at HS2 HL2
    clear hb1 hX1 hI1 hst2 hblk2 hf2 hs2 hgK hg1 c9 c10
    have hAT := ZcR HI2.out.sh d Ld ⟨na, nl, nc⟩ tc.h P.sy (x : Int)
    have HAT := hide hAT
    unfold rV at HAT
    clear hAT
    go_wp2_with (first | refine Zab _ rfl rfl 40 (.tmp 16) (.tmp 12) rfl (.pointer (some ⟨w.heap.size, 9, none⟩)) (.agg #[.slice na nl nc, .int .i64 tc.h]) rfl rfl W2 HS2.out ?_ | refine Zac _ rfl 43 (.tmp 2) rfl (.pointer (some ⟨w.heap.size, 0, none⟩)) _ rfl HL2.out ?_)
    refine HAT.out.mono ?_
    rintro e w3 ⟨hb3, z3, rfl, hz3⟩
    have HX3 := hide (HX2.out.keep hb3)
    have HI3 := hide (HI2.out.keep hb3)
    rcases hz3 with ⟨_, hno⟩ | ⟨i3, x3, rfl, hx3, he3⟩
    · exact absurd rfl (hno (x, xsh) (Zen HXN.out HXS.out))
    have hx3' : ((P.clock tc.l tc.h).inl n)[i3]? = some (x, xsh) := by
      have h1 := ZaW (List.mem_of_getElem? hx3)
      have h2 : x3.1 = x := by omega
      have h3 : P.m x3.1 = some x3.2 := h1.2.2
      rw [h2, HXS.out] at h3
      rw [hx3]
      exact congrArg some (Prod.ext h2 (Option.some.inj h3).symm)
    have HW3 := hide (Zd8 HI3.out HN.out HT.out HM.out (fun q sh hq => HWET.out.sh q sh hq) i3 x xsh hx3')
    have HL3 := hide (ldR HX3.out.b)
    unfold rV at HW3 HL3
    have h0i : (0 : Int) ≤ (i3 : Int) := by omega
    clear hb3 hx3 he3 hx3' HL2 HS2 HX2 HI2 HAT
    go_wp2_with (refine Zac _ rfl 43 (.tmp 2) rfl (.pointer (some ⟨w.heap.size, 0, none⟩)) _ rfl HL3.out ?_)
    refine HW3.out.mono ?_
    rintro e w4 ⟨hb4, x4, rfl, D4, L4, v4, s4, rfl, hI4⟩
    have HX4 := hide (HX3.out.keep hb4)
    have HOUT := hide (ZhT hI4.sh (Nat.le_trans (Zc4 _ n) (by have := HN.out; omega)) D4 L4 v4 ((P.clock tc.l tc.h).write x).h ((P.clock tc.l tc.h).write x).sy x)
    have HI4 := hide hI4
    unfold rV at HOUT
    unfold rV
    clear hb4 hI4 HX3 HI3 HL3 HW3
    go_wp2_with fail
    refine HOUT.out.mono ?_
    rintro e w5 ⟨hb5, s5, rfl, hrow5⟩
    have hX5 := HX4.out.keep hb5
    obtain ⟨W5, hst5, hblk5, hf5, hs5⟩ := stR hX5.b D4 L4 v4 ((P.clock tc.l tc.h).write x).h s5 ((P.clock tc.l tc.h).write x).sy
    have hI5 := HI4.out.keep hb5
    have HX5 : Hid (Rx w W5 (w.heap.size + 1) D4 L4 v4 P5.h s5 P5.sy) := by rw [HP5.out]; exact hX5.turn hblk5 hf5
    have HI5 : Hid (RpIn K W5 n tot (m + 4) P5 D4 L4 v4 s5) := by
      rw [HP5.out]
      have hrow : ShRow K w5 s5 (((P.clock tc.l tc.h).out x).inl n) := by
        have e := ZhG ((P.clock tc.l tc.h).write x) HXN.out
        rw [e] at hrow5
        exact hrow5
      exact ⟨ZaH hI5.dv hf5 ⟨_, _, _, _, _, _, hX5.b⟩, hI5.rel, hI5.good, ZcI hI5.ck hf5 ⟨_, _, _, _, _, _, hX5.b⟩, ZaJ hrow hf5 ⟨_, _, _, _, _, _, hX5.b⟩, Nat.le_trans hI5.low hf5.size⟩
    have HS5 := hide hst5
    unfold rV at HS5
    clear hb5 hrow5 hX5 hst5 hblk5 hf5 hs5 hI5 HX4 HI4 HOUT h0i
    -- region 6: is it in?
    have hAT6 := ZcR HI5.out.sh D4 L4 v4 P5.h P5.sy (k : Int)
    have HAT6 := hide hAT6
    have HL5 := hide (ldR HX5.out.b)
    unfold rV at HAT6 HL5
    clear hAT6
    go_wp2_with (first | refine Zab _ rfl rfl 43 (.tmp 2) (.tmp 26) rfl (.pointer (some ⟨w.heap.size, 0, none⟩)) _ rfl rfl W5 HS5.out ?_ | refine Zac _ rfl 43 (.tmp 2) rfl (.pointer (some ⟨w.heap.size, 0, none⟩)) _ rfl HL5.out ?_)
    refine HAT6.out.mono ?_
    rintro e w6 ⟨hb6, z6, rfl, hz6⟩
    have HX6 := hide (HX5.out.keep hb6)
    have HI6 := hide (HI5.out.keep hb6)
    clear hb6
    rcases hz6 with ⟨rfl, hno⟩ | ⟨i6, x6, rfl, hx6, he6⟩
    · -- it is not in
      have hmn : P5.m k = none := by
        cases e : P5.m k with
        | none => rfl
        | some sh => exact absurd rfl (hno (k, sh) (Zen HKN.out e))
      have HMN := hide hmn
      clear hno hmn
      have HR8 : Hid (∀ {Q : Exit → Act → World → Prop} {A : Act}, A.tmps.size = 46 → A.defers = [] → A.tmps.getD 1 undef = .int .i64 (k : Int) → A.tmps.getD 2 undef = .pointer (some ⟨w.heap.size, 0, none⟩) → A.tmps.getD 4 undef = .pointer (some ⟨w.heap.size + 1, 0, none⟩) → _ → (Code.region 8 (Pl.find 8 ((Tryz.f69.body).getD .skip)) true).wp Tryz.prog Q A w6) := fun {Q A} a1 a2 a3 a4 a5 hend => Zgl HI6.out HX6.out HMN.out HKN.out HN.out HT.out a1 a2 a3 a4 a5 hend
      go_wp2_with fail
      refine Pl.q8 (ops := Pl.find 8 ((Tryz.f69.body).getD .skip)) ?_
      refine HR8.out (by rfl) rfl (by rfl) (by rfl) (by rfl) ?_
      intro u8 w8 hw8
      obtain ⟨D8, L8, v8, s8, hb8, hB8, hI8⟩ := hw8
      simp only [Act.put, List.setIfInBounds_toArray, List.set_cons_zero, List.set_cons_succ]
      have HB8 := hide hb8
      have HBB := hide hB8
      have hfe : P5.fetch k = P5.put k (some ⟨P5.D.page k, false, 0⟩) := by unfold Po.fetch; rw [HMN.out]; rfl
      have HSAY : Hid (Zay K n tot (m + 4) (P5.fetch k) (rV D8 L8 v8 P5.h s8 P5.sy) w8) := by rw [hfe]; exact ⟨D8, L8, v8, s8, rfl, hI8⟩
      clear hb8 hB8 hI8 hfe
      go_wp2_with fail
      refine bodyPost_ret (Zaw rfl HB8.out _ rfl) rfl ?_
      exact ⟨HBB.out, _, rfl, HSAY.out⟩
    · -- it is in
      have hms : (P5.m k).isSome = true := by
        have h1 := ZaW (List.mem_of_getElem? hx6)
        have h2 : x6.1 = k := by omega
        rw [← h2, h1.2.2]
        rfl
      have hfe : P5.fetch k = P5 := by unfold Po.fetch; rw [if_pos hms]
      obtain ⟨W7, hst7, hb7, hB7, hf7⟩ := HX6.out.tell D4 L4 v4 P5.h s5 P5.sy
      have HL6 := hide (ldR HX6.out.b)
      have HS7 := hide hst7
      have HB7 := hide hb7
      have HBB := hide hB7
      have HSAY : Hid (Zay K n tot (m + 4) (P5.fetch k) (rV D4 L4 v4 P5.h s5 P5.sy) W7) := by
        rw [hfe]
        have h6 := HI6.out
        exact ⟨D4, L4, v4, s5, rfl, ZaH h6.dv hf7 HX6.out.ans, h6.rel, h6.good, ZcI h6.ck hf7 HX6.out.ans, ZaJ h6.sh hf7 HX6.out.ans, Nat.le_trans h6.low hf7.size⟩
      unfold rV at HL6 HS7
      have h0i : (0 : Int) ≤ (i6 : Int) := by omega
      clear hst7 hb7 hB7 hf7 hms hfe hx6 he6
      go_wp2_with (first | refine Zac _ rfl 43 (.tmp 2) rfl (.pointer (some ⟨w.heap.size, 0, none⟩)) _ rfl HL6.out ?_ | refine Zab _ rfl rfl 43 (.tmp 4) (.tmp 31) rfl (.pointer (some ⟨w.heap.size + 1, 0, none⟩)) _ rfl rfl W7 HS7.out ?_)
      refine bodyPost_ret (Zaw rfl HB7.out _ rfl) rfl ?_
      exact ⟨HBB.out, _, rfl, HSAY.out⟩
  · -- none leaves
    have HLEFT : Hid ((P.clock tc.l tc.h).left tc.was = P.clock tc.l tc.h) := by
      show _ = _
      unfold Po.left
      exact if_neg hin
    obtain ⟨P5, hP5⟩ : ∃ P5, P5 = P.clock tc.l tc.h := ⟨_, rfl⟩
    rw [HLEFT.out, ← hP5]
    have HP5 := hide hP5
    have HIN := hide hin
    clear hP5 hin HLEFT
    go_enter Tryz.func69, Tryz.ntmps69
    go_wp2_with fail
    rw [← HW0.out]
    refine HTC.out.mono ?_
    rintro e w1 ⟨hb1, ⟨na, nl, nc⟩, rfl, hg1⟩
    simp only
    have hX1 := HX0.out.keep hb1
    have hI1 := (HI.out.keep HX0.out.e).keep hb1
    obtain ⟨W2, hst2, hblk2, hf2, hs2⟩ := stRC hX1.b ⟨na, nl, nc⟩ tc.h
    have HX2 := hide (hX1.turn hblk2 hf2)
    have hgK : Gs K.G w1 ⟨na, nl, nc⟩ tc.l := hg1.mono (fun q hq _ => hq.elim id (fun e => K.all q (Nat.le_trans HLOW.out e)))
    have HI2 : Hid (RpIn K W2 n tot m (P.clock tc.l tc.h) d Ld ⟨na, nl, nc⟩ s) := ⟨ZaH hI1.dv hf2 ⟨_, _, _, _, _, _, hX1.b⟩, hI1.rel, hI1.good, ZcI hgK hf2 ⟨_, _, _, _, _, _, hX1.b⟩, ZaJ hI1.sh hf2 ⟨_, _, _, _, _, _, hX1.b⟩, Nat.le_trans hI1.low hf2.size⟩
    have HS2 := hide hst2
    have HL2 := hide (ldR hblk2)
    simp only [ckV, Sl.val, rV] at HS2 HL2
    clear hb1 hX1 hI1 hst2 hblk2 hf2 hs2 hgK hg1 c9 c10
    have hAT := ZcR HI2.out.sh d Ld ⟨na, nl, nc⟩ tc.h P.sy tc.was
    have HAT := hide hAT
    unfold rV at HAT
    clear hAT
    go_wp2_with (first | refine Zab _ rfl rfl 40 (.tmp 16) (.tmp 12) rfl (.pointer (some ⟨w.heap.size, 9, none⟩)) (.agg #[.slice na nl nc, .int .i64 tc.h]) rfl rfl W2 HS2.out ?_ | refine Zac _ rfl 43 (.tmp 2) rfl (.pointer (some ⟨w.heap.size, 0, none⟩)) _ rfl HL2.out ?_)
    refine HAT.out.mono ?_
    rintro e w3 ⟨hb3, z3, rfl, hz3⟩
    rcases hz3 with ⟨rfl, _⟩ | ⟨i3, x3, rfl, hx3, he3⟩
    case inr =>
      have h1 := ZaW (List.mem_of_getElem? hx3)
      have h3 : P.m x3.1 = some x3.2 := h1.2.2
      refine absurd ⟨by omega, ?_⟩ HIN.out
      rw [← he3, Int.toNat_natCast, h3]
      rfl
    have HX5 : Hid (Rx w w3 (w.heap.size + 1) d Ld ⟨na, nl, nc⟩ P5.h s P5.sy) := by rw [HP5.out]; exact HX2.out.keep hb3
    have HI5 : Hid (RpIn K w3 n tot (m + 4) P5 d Ld ⟨na, nl, nc⟩ s) := by
      rw [HP5.out]
      have h2 := HI2.out.keep hb3
      exact ⟨h2.dv, h2.rel, h2.good.more (by omega), h2.ck, h2.sh, h2.low⟩
    clear hb3 HX2 HI2 HS2 HL2 HAT
    -- region 6: is it in?
    have hAT6 := ZcR HI5.out.sh d Ld ⟨na, nl, nc⟩ P5.h P5.sy (k : Int)
    have HAT6 := hide hAT6
    have HL5 := hide (ldR HX5.out.b)
    unfold rV at HAT6 HL5
    clear hAT6
    go_wp2_with (first | refine Zac _ rfl 43 (.tmp 2) rfl (.pointer (some ⟨w.heap.size, 0, none⟩)) _ rfl HL5.out ?_)
    refine HAT6.out.mono ?_
    rintro e w6 ⟨hb6, z6, rfl, hz6⟩
    have HX6 := hide (HX5.out.keep hb6)
    have HI6 := hide (HI5.out.keep hb6)
    clear hb6
    rcases hz6 with ⟨rfl, hno⟩ | ⟨i6, x6, rfl, hx6, he6⟩
    · -- it is not in
      have hmn : P5.m k = none := by
        cases e : P5.m k with
        | none => rfl
        | some sh => exact absurd rfl (hno (k, sh) (Zen HKN.out e))
      have HMN := hide hmn
      clear hno hmn
      have HR8 : Hid (∀ {Q : Exit → Act → World → Prop} {A : Act}, A.tmps.size = 46 → A.defers = [] → A.tmps.getD 1 undef = .int .i64 (k : Int) → A.tmps.getD 2 undef = .pointer (some ⟨w.heap.size, 0, none⟩) → A.tmps.getD 4 undef = .pointer (some ⟨w.heap.size + 1, 0, none⟩) → _ → (Code.region 8 (Pl.find 8 ((Tryz.f69.body).getD .skip)) true).wp Tryz.prog Q A w6) := fun {Q A} a1 a2 a3 a4 a5 hend => Zgl HI6.out HX6.out HMN.out HKN.out HN.out HT.out a1 a2 a3 a4 a5 hend
      go_wp2_with fail
      refine Pl.q8 (ops := Pl.find 8 ((Tryz.f69.body).getD .skip)) ?_
      refine HR8.out (by rfl) rfl (by rfl) (by rfl) (by rfl) ?_
      intro u8 w8 hw8
      obtain ⟨D8, L8, v8, s8, hb8, hB8, hI8⟩ := hw8
      simp only [Act.put, List.setIfInBounds_toArray, List.set_cons_zero, List.set_cons_succ]
      have HB8 := hide hb8
      have HBB := hide hB8
      have hfe : P5.fetch k = P5.put k (some ⟨P5.D.page k, false, 0⟩) := by unfold Po.fetch; rw [HMN.out]; rfl
      have HSAY : Hid (Zay K n tot (m + 4) (P5.fetch k) (rV D8 L8 v8 P5.h s8 P5.sy) w8) := by rw [hfe]; exact ⟨D8, L8, v8, s8, rfl, hI8⟩
      clear hb8 hB8 hI8 hfe
      go_wp2_with fail
      refine bodyPost_ret (Zaw rfl HB8.out _ rfl) rfl ?_
      exact ⟨HBB.out, _, rfl, HSAY.out⟩
    · -- it is in
      have hms : (P5.m k).isSome = true := by
        have h1 := ZaW (List.mem_of_getElem? hx6)
        have h2 : x6.1 = k := by omega
        rw [← h2, h1.2.2]
        rfl
      have hfe : P5.fetch k = P5 := by unfold Po.fetch; rw [if_pos hms]
      obtain ⟨W7, hst7, hb7, hB7, hf7⟩ := HX6.out.tell d Ld ⟨na, nl, nc⟩ P5.h s P5.sy
      have HL6 := hide (ldR HX6.out.b)
      have HS7 := hide hst7
      have HB7 := hide hb7
      have HBB := hide hB7
      have HSAY : Hid (Zay K n tot (m + 4) (P5.fetch k) (rV d Ld ⟨na, nl, nc⟩ P5.h s P5.sy) W7) := by
        rw [hfe]
        have h6 := HI6.out
        exact ⟨d, Ld, ⟨na, nl, nc⟩, s, rfl, ZaH h6.dv hf7 HX6.out.ans, h6.rel, h6.good, ZcI h6.ck hf7 HX6.out.ans, ZaJ h6.sh hf7 HX6.out.ans, Nat.le_trans h6.low hf7.size⟩
      unfold rV at HL6 HS7
      have h0i : (0 : Int) ≤ (i6 : Int) := by omega
      clear hst7 hb7 hB7 hf7 hms hfe hx6 he6
      go_wp2_with (first | refine Zac _ rfl 43 (.tmp 2) rfl (.pointer (some ⟨w.heap.size, 0, none⟩)) _ rfl HL6.out ?_ | refine Zab _ rfl rfl 43 (.tmp 4) (.tmp 31) rfl (.pointer (some ⟨w.heap.size + 1, 0, none⟩)) _ rfl rfl W7 HS7.out ?_)
      refine bodyPost_ret (Zaw rfl HB7.out _ rfl) rfl ?_
      exact ⟨HBB.out, _, rfl, HSAY.out⟩
theorem RpIn.box {W:World}{g:Nat}(h:RpIn K w n tot m P d Ld v s)(hf:Frm (fun i=>i=g) w W)(k:∃d' Ld' v' h' s' sy',RBlk w g d' Ld' v' h' s' sy'):RpIn K W n tot m P d Ld v s:=
 ⟨ZaH h.dv hf k,h.rel,h.good,ZcI h.ck hf k,ZaJ h.sh hf k,Nat.le_trans h.low hf.size⟩
theorem RpIn.kpl (h:RpIn K w n tot m P d Ld v s):Ld.kp.len=512*n:=by
 rw [← h.dv.kept.pg.len];exact h.good.kp
theorem ZkW (k:Nat)(a:Option Addr)(l c:Nat)(z:Int)(w:World):(Instr.build 115 #[(0,.int .i64 (k:Int)),(1,.slice a l c),(2,.bool true),(3,.int .i64 z)]).run Tryz.prog w=.ok (.agg #[.int .i64 (k:Int),.slice a l c,.bool true,.int .i64 z]) w:=by simp [go_sem,Instr.build]
theorem Zks (hI:RpIn K w n tot m P d Ld v s)(hn:n≤64)(k:Int)(x y:Value)(hk:¬(0≤k∧k<(n:Int))):Calls Tryz.prog 83 #[rV d Ld v P.h s P.sy,.int .i64 k,x,y] w fun e w'=>Below w.heap.size w w'∧∃x,e=.returned (.tuple #[x,.int .i64 3])∧Zay K n tot m P x w':=by
 obtain⟨W0,af⟩:∃W,W=((w.alloc (.cells (Zah d Ld v P.h s P.sy) 43)).alloc (.cells (Zah dv0 dvl0 Sl.nil 0 Sl.nil 0) 43)):=⟨_,rfl⟩;(have hX:Rx w W0 (w.heap.size+1) d Ld v P.h s P.sy:=by rw [af];exact ZbA w d Ld v P.h s P.sy);have al:=hide (ZbK W0 d Ld v P.h s P.sy n hI.kpl hn);have c0:=hX.b.c0;have c1:=hX.b.c1;have c2:=hX.b.c2;have c3:=hX.b.c3;have c4:=hX.b.c4;have c5:=hX.b.c5;have c6:=hX.b.c6;have c7:=hX.b.c7;have c8:=hX.b.c8;have c9:=hX.b.c9;have c10:=hX.b.c10;have c11:=hX.b.c11;have c12:=hX.b.c12;rw [af,Zb9] at c0 c1 c2 c3 c4 c5 c6 c7 c8 c9 c10 c11 c12;rw [Zb9] at af;simp only [Sl.val] at c0 c2 c3 c5 c6 c9 c11;have am:=hide af;have an:=hide hX;have HI:=hide hI;simp only [rV,Zah,Sl.val] at al;by_cases h0:k<0
 · have ag:=an;obtain⟨W2,aa,ah,ac,ak⟩:=ag.out.tell d Ld v P.h s P.sy;have ad:=hide (ldR ag.out.b);have ae:=hide aa;have ai:=hide ah;have aj:=hide ac;have ab:Hid (Zay K n tot m P (rV d Ld v P.h s P.sy) W2):=⟨d,Ld,v,s,rfl,HI.out.keep ac⟩;unfold rV at ad ae;clear aa ah ac ak;rw [am.out] at ad ae;clear hX hI af;unfold rV;go_enter Tryz.func83,Tryz.ntmps83;go_wp2_with (first | refine Zac _ rfl 43 (.tmp 4) rfl (.pointer (some ⟨w.heap.size,0,none⟩)) _ rfl ad.out ?_ | refine Zab _ rfl rfl 43 (.tmp 8) (.tmp 18) rfl (.pointer (some ⟨w.heap.size+1,0,none⟩)) _ rfl rfl W2 ae.out ?_);refine bodyPost_ret (ZaP rfl ai.out _ rfl rfl) rfl ?_;exact⟨aj.out,_,rfl,ab.out⟩
 · (have ap:(n:Int)≤k:=by omega);have h1:¬k<0:=h0;clear hX hI af hk h0;unfold rV;go_enter Tryz.func83,Tryz.ntmps83;go_wp2_with fail;rw [← am.out];refine al.out.mono ?_;rintro e w1 ⟨ao,rfl⟩;have ag:=hide (an.out.keep ao);obtain⟨W2,aa,ah,ac,ak⟩:=ag.out.tell d Ld v P.h s P.sy;have ad:=hide (ldR ag.out.b);have ae:=hide aa;have ai:=hide ah;have aj:=hide ac;have ab:Hid (Zay K n tot m P (rV d Ld v P.h s P.sy) W2):=⟨d,Ld,v,s,rfl,HI.out.keep ac⟩;unfold rV at ad ae;clear aa ah ac ak;clear ao;clear c0 c1 c2 c3 c4 c5 c6 c7 c8 c9 c10 c11 c12;go_wp2_with (first | refine Zac _ rfl 43 (.tmp 4) rfl (.pointer (some ⟨w.heap.size,0,none⟩)) _ rfl ad.out ?_ | refine Zab _ rfl rfl 43 (.tmp 8) (.tmp 18) rfl (.pointer (some ⟨w.heap.size+1,0,none⟩)) _ rfl rfl W2 ae.out ?_);refine bodyPost_ret (ZaP rfl ai.out _ rfl rfl) rfl ?_;exact⟨aj.out,_,rfl,ab.out⟩
theorem Znv (hI:RpIn K w n tot m P d Ld v s)(hF:P.Fine n c)(ht:tot≤40000)(hm:m≤890)(k:Nat)(hk:k<n)(q:Sl)(ys:List Nat)(hq:BsS K w q ys)(aw:q.len=512)(z:Int):Calls Tryz.prog 83 #[rV d Ld v P.h s P.sy,.int .i64 (k:Int),q.val,.int .i64 z] w fun e w'=>Below w.heap.size w w'∧∃x,e=.returned (.tuple #[x,.int .i64 0])∧Zay K n tot (m+4) (P.set k ys z) x w':=by
 have hn:=hF.wet.dev.n2;obtain⟨W0,ab⟩:∃W,W=((w.alloc (.cells (Zah d Ld v P.h s P.sy) 43)).alloc (.cells (Zah dv0 dvl0 Sl.nil 0 Sl.nil 0) 43)):=⟨_,rfl⟩;(have hX:Rx w W0 (w.heap.size+1) d Ld v P.h s P.sy:=by rw [ab];exact ZbA w d Ld v P.h s P.sy);have an:=hide (ZbK W0 d Ld v P.h s P.sy n hI.kpl hn);have c0:=hX.b.c0;have c1:=hX.b.c1;have c2:=hX.b.c2;have c3:=hX.b.c3;have c4:=hX.b.c4;have c5:=hX.b.c5;have c6:=hX.b.c6;have c7:=hX.b.c7;have c8:=hX.b.c8;have c9:=hX.b.c9;have c10:=hX.b.c10;have c11:=hX.b.c11;have c12:=hX.b.c12;rw [ab,Zb9] at c0 c1 c2 c3 c4 c5 c6 c7 c8 c9 c10 c11 c12;rw [Zb9] at ab;simp only [Sl.val] at c0 c2 c3 c5 c6 c9 c11;have bb:=hide ab;have bc:=hide hX;have HI:=hide hI;simp only [rV,Zah,Sl.val] at an;(have be:¬(n:Int)≤(k:Int):=by omega);have af:Hid (∀W,Below w.heap.size w W→_):=fun W hb=>ZhS (hI.keep hb) hF ht hm k hk;have HQ:=hide hq;have ba:=hide hk;have HN:=hide hn;obtain⟨qa,ql,qc⟩:=q;simp only at aw;subst aw;simp only [Sl.val];have bd:=ZkW;clear hX hI ab hk hF ht hm hq hn;unfold rV;go_enter Tryz.func83,Tryz.ntmps83;go_wp2_with fail;rw [← bb.out];refine an.out.mono ?_;rintro e w1 ⟨ar,rfl⟩;have ai:=hide (bc.out.keep ar);have am:=hide (af.out w1 ai.out.e);have al:=hide (ldR ai.out.b);unfold rV at am al;clear ar;clear c0 c1 c2 c3 c4 c5 c6 c7 c8 c9 c10 c11 c12;go_wp2_with (refine Zac _ rfl 43 (.tmp 4) rfl (.pointer (some ⟨w.heap.size,0,none⟩)) _ rfl al.out ?_);refine am.out.mono ?_;rintro e w2 ⟨au,x2,rfl,D2,L2,v2,s2,rfl,aj⟩;have ap:=hide (ai.out.keep au);have ah:=hide (Zdp aj.sh (Nat.le_trans (Zc4 _ n) (by have:=HN.out;omega)) D2 L2 v2 (P.letIn k).h (P.letIn k).sy ((k,⟨ys,true,z⟩),⟨qa,512,qc⟩) (HQ.out.keep ap.out.e (Nat.le_refl _)) rfl);have az:=hide aj;simp only [SS.val,SS.cells,Sl.val] at ah;unfold rV at ah;unfold rV;clear au aj;go_wp2_with fail;refine ah.out.mono ?_;rintro e w3 ⟨ak,s3,rfl,aa⟩;have ac:=ap.out.keep ak;obtain⟨W4,ae,av,aq,ad⟩:=ac.tell D2 L2 v2 (P.letIn k).h s3 (P.letIn k).sy;have ao:=hide ae;have ax:=hide av;have ay:=hide aq;have ag:Hid (Zay K n tot (m+4) (P.set k ys z) (rV D2 L2 v2 (P.letIn k).h s3 (P.letIn k).sy) W4):=by
  have h3:=az.out.keep ak;rw [ZdO _ ba.out] at aa;exact⟨D2,L2,v2,s3,rfl,ZaH h3.dv ad ac.ans,h3.rel,h3.good,ZcI h3.ck ad ac.ans,ZaJ aa ad ac.ans,Nat.le_trans h3.low ad.size⟩
 unfold rV at ao;clear ak aa ac ae av aq ad;go_wp2_with (refine Zab _ rfl rfl 43 (.tmp 8) (.tmp 30) rfl (.pointer (some ⟨w.heap.size+1,0,none⟩)) _ rfl rfl W4 ao.out ?_);refine bodyPost_ret (ZaP rfl ax.out _ rfl rfl) rfl ?_;exact⟨ay.out,_,rfl,ag.out⟩
theorem Zhg (hI:RpIn K w n tot m P d Ld v s)(k:Int)(hk:¬(0≤k∧(P.m k.toNat).isSome=true)):Calls Tryz.prog 21 #[rV d Ld v P.h s P.sy,.int .i64 k] w fun e w'=>Below w.heap.size w w'∧∃x,e=.returned (.tuple #[x,.int .i64 3])∧Zay K n tot m P x w':=by
 obtain⟨W0,aa⟩:∃W,W=((w.alloc (.cells (Zah d Ld v P.h s P.sy) 43)).alloc (.cells (Zah dv0 dvl0 Sl.nil 0 Sl.nil 0) 43)):=⟨_,rfl⟩;(have hX:Rx w W0 (w.heap.size+1) d Ld v P.h s P.sy:=by rw [aa];exact ZbA w d Ld v P.h s P.sy);have af:=hide (ZcR (hI.sh.keep hX.e) d Ld v P.h P.sy k);have ac:=hide (ldR hX.b);rw [Zb9] at aa;rw [aa] at ac;have an:=hide aa;have ao:=hide hX;have HI:=hide hI;have HK:=hide hk;unfold rV at af ac;clear hX hI aa hk;unfold rV;go_enter Tryz.func21,Tryz.ntmps21;go_wp2_with (refine Zac _ rfl 43 (.tmp 2) rfl (.pointer (some ⟨w.heap.size,0,none⟩)) _ rfl ac.out ?_);rw [← an.out];refine af.out.mono ?_;rintro e w1 ⟨aj,z1,rfl,au⟩;rcases au with ⟨rfl,_⟩ | ⟨i3,x3,rfl,ar,ap⟩
 case inr =>
  have h1:=ZaW (List.mem_of_getElem? ar);have h3:P.m x3.1=some x3.2:=h1.2.2;refine absurd ⟨by omega,?_⟩ HK.out;rw [← ap,Int.toNat_natCast,h3];rfl
 have ai:=hide (ao.out.keep aj);obtain⟨W2,ab,ak,ae,aq⟩:=ai.out.tell d Ld v P.h s P.sy;have ag:=hide (ldR ai.out.b);have ah:=hide ab;have al:=hide ak;have am:=hide ae;have ad:Hid (Zay K n tot m P (rV d Ld v P.h s P.sy) W2):=⟨d,Ld,v,s,rfl,HI.out.keep ae⟩;unfold rV at ag ah;clear ab ak ae aq;clear aj;go_wp2_with (first | refine Zac _ rfl 43 (.tmp 2) rfl (.pointer (some ⟨w.heap.size,0,none⟩)) _ rfl ag.out ?_ | refine Zab _ rfl rfl 43 (.tmp 4) (.tmp 12) rfl (.pointer (some ⟨w.heap.size+1,0,none⟩)) _ rfl rfl W2 ah.out ?_);refine bodyPost_ret (ZaP rfl al.out _ rfl rfl) rfl ?_;exact⟨am.out,_,rfl,ad.out⟩
theorem Zkr (hI:RpIn K w n tot m P d Ld v s)(hF:P.Fine n c)(ht:tot≤40000)(hm:m≤890)(k:Nat)(hk:(P.m k).isSome=true):Calls Tryz.prog 21 #[rV d Ld v P.h s P.sy,.int .i64 (k:Int)] w fun e w'=>Below w.heap.size w w'∧∃x,e=.returned (.tuple #[x,.int .i64 0])∧Zay K n tot (m+4) (P.evict k) x w':=by
 have hn:=hF.wet.dev.n2;obtain⟨ksh,bg⟩:=Option.isSome_iff_exists.1 hk;have cd:=(hF.wet.sh k ksh bg).1;obtain⟨W0,ak⟩:∃W,W=((w.alloc (.cells (Zah d Ld v P.h s P.sy) 43)).alloc (.cells (Zah dv0 dvl0 Sl.nil 0 Sl.nil 0) 43)):=⟨_,rfl⟩;(have hX:Rx w W0 (w.heap.size+1) d Ld v P.h s P.sy:=by rw [ak];exact ZbA w d Ld v P.h s P.sy);have ar:=hide (ZcR (hI.sh.keep hX.e) d Ld v P.h P.sy (k:Int));have ap:=hide (ldR hX.b);rw [Zb9] at ak;rw [ak] at ap;have cg:=hide ak;have bt:=hide hX;have HI:=hide hI;have ay:=hide hF.wet;have HN:=hide hn;have HT:=hide ht;have HM:=hide hm;have bn:=hide bg;have bm:=hide cd;have bp:=hide (ZhI P k);unfold rV at ar ap;clear hX hI ak hk hF ht hm hn bg cd;unfold rV;go_enter Tryz.func21,Tryz.ntmps21;go_wp2_with (refine Zac _ rfl 43 (.tmp 2) rfl (.pointer (some ⟨w.heap.size,0,none⟩)) _ rfl ap.out ?_);rw [← cg.out];refine ar.out.mono ?_;rintro e w3 ⟨bd,z3,rfl,cn⟩;have az:=hide (bt.out.keep bd);have bj:=hide ((HI.out.keep bt.out.e).keep bd);rcases cn with ⟨_,cj⟩ | ⟨i3,x3,rfl,bi,ci⟩
 · exact absurd rfl (cj (k,ksh) (Zen bm.out bn.out))
 have ao:(P.inl n)[i3]? = some (k,ksh):=by
  have h1:=ZaW (List.mem_of_getElem? bi);(have h2:x3.1=k:=by omega);have h3:P.m x3.1=some x3.2:=h1.2.2;rw [h2,bn.out] at h3;rw [bi];exact congrArg some (Prod.ext h2 (Option.some.inj h3).symm)
 have ax:=hide (Zd8 bj.out HN.out HT.out HM.out (fun q sh hq=>ay.out.sh q sh hq) i3 k ksh ao);have av:=hide (ldR az.out.b);unfold rV at ax av;(have co:¬(i3:Int)<0:=by omega);clear bd bi ci ao ar ap;go_wp2_with (refine Zac _ rfl 43 (.tmp 2) rfl (.pointer (some ⟨w.heap.size,0,none⟩)) _ rfl av.out ?_);refine ax.out.mono ?_;rintro e w4 ⟨bx,x4,rfl,D4,L4,v4,s4,rfl,ba⟩;have bu:=hide (az.out.keep bx);have ad:=hide (ZhT ba.sh (Nat.le_trans (Zc4 _ n) (by have:=HN.out;omega)) D4 L4 v4 (P.write k).h (P.write k).sy k);have bk:=hide ba;unfold rV at ad;unfold rV;clear bx ba az bj av ax;go_wp2_with fail;refine ad.out.mono ?_;rintro e w5 ⟨be,s5,rfl,ab⟩;have ag:=bu.out.keep be;obtain⟨W5,al,ac,ai,cl⟩:=stR ag.b D4 L4 v4 (P.write k).h s5 (P.write k).sy;have aq:=ag.turn ac ai;have ae:=bk.out.keep be;have bb:RpIn K W5 n tot (m+4) (P.out k) D4 L4 v4 s5:=by
  have bh:ShRow K w5 s5 ((P.out k).inl n):=by
   have e:=ZhG (P.write k) bm.out;rw [e] at ab;exact ab
  exact⟨ZaH ae.dv ai ⟨_,_,_,_,_,_,ag.b⟩,ae.rel,ae.good,ZcI ae.ck ai ⟨_,_,_,_,_,_,ag.b⟩,ZaJ bh ai ⟨_,_,_,_,_,_,ag.b⟩,Nat.le_trans ae.low ai.size⟩
 have au:=hide (Zkt W5 v4 (P.write k).h (P.out k).l bb.ck (k:Int));rw [bp.out.1] at au;have d9:=aq.b.c9;have d10:=aq.b.c10;have bq:=hide al;have ch:=hide aq;have bl:=hide bb;obtain⟨va,vl,vc⟩:=v4;simp only [ckV,Sl.val] at au d9 d10;unfold rV at bq;clear be ab ag al ac ai cl aq ae bb bu bk ad;go_wp2_with (refine Zab _ rfl rfl 43 (.tmp 2) (.tmp 17) rfl (.pointer (some ⟨w.heap.size,0,none⟩)) _ rfl rfl W5 bq.out ?_);refine au.out.mono ?_;rintro e w7 ⟨bf,⟨na,nl,nc⟩,rfl,cb⟩;simp only;have ah:=ch.out.keep bf;have af:=bl.out.keep bf;obtain⟨W8,am,aa,aj,cm⟩:=stRC ah.b ⟨na,nl,nc⟩ (P.write k).h;have bc:=ah.turn aa aj;have cc:Gs K.G w7 ⟨na,nl,nc⟩ (dropC P.l (k:Int)).l:=cb.mono (fun q hq _=>hq.elim id (fun e=>K.all q (Nat.le_trans bl.out.low e)));have bw:RpIn K W8 n tot (m+4) (P.evict k) D4 L4 ⟨na,nl,nc⟩ s5:=⟨ZaH af.dv aj ⟨_,_,_,_,_,_,ah.b⟩,af.rel,af.good,ZcI cc aj ⟨_,_,_,_,_,_,ah.b⟩,ZaJ af.sh aj ⟨_,_,_,_,_,_,ah.b⟩,Nat.le_trans af.low aj.size⟩;obtain⟨W9,an,bz,bv,ca⟩:=bc.tell D4 L4 ⟨na,nl,nc⟩ (P.write k).h s5 (P.write k).sy;have br:=hide am;have bo:=hide (ldR aa);have bs:=hide an;have ce:=hide bz;have cf:=hide bv;have aw:Hid (Zay K n tot (m+4) (P.evict k) (rV D4 L4 ⟨na,nl,nc⟩ (P.write k).h s5 (P.write k).sy) W9):=⟨D4,L4,⟨na,nl,nc⟩,s5,by rw [show (P.evict k).h=(P.write k).h from bp.out.2.symm,show (P.evict k).sy=(P.write k).sy from rfl],RpIn.box bw ca bc.ans⟩;simp only [ckV,Sl.val,rV] at br bo bs;clear bf cb ah af am aa aj cm bc cc bw an bz bv ca d9 d10;go_wp2_with (first | refine Zab _ rfl rfl 40 (.tmp 25) (.tmp 23) rfl (.pointer (some ⟨w.heap.size,9,none⟩)) _ rfl rfl W8 br.out ?_ | refine Zac _ rfl 43 (.tmp 2) rfl (.pointer (some ⟨w.heap.size,0,none⟩)) _ rfl bo.out ?_ | refine Zab _ rfl rfl 43 (.tmp 4) (.tmp 26) rfl (.pointer (some ⟨w.heap.size+1,0,none⟩)) _ rfl rfl W9 bs.out ?_);refine bodyPost_ret (ZaP rfl ce.out _ rfl rfl) rfl ?_;exact⟨cf.out,_,rfl,aw.out⟩
theorem ZdR:∀(l:List Nat)(P:Po),(l.foldl Po.write P).h=P.h
 | [],P=>rfl
 | k :: l,P=>by rw [List.foldl_cons,ZdR l,(Zfo P k).2]
theorem ZdA :∀(l:List Nat)(P:Po),P.Dev n→(l.foldl Po.write P).Dev n∧(l.foldl Po.write P).inn n=P.inn n
 | [],P,h=>⟨h,rfl⟩
 | k :: l,P,h=>by
  obtain⟨h1,h2⟩:=ZdA l (P.write k) (h.write k).dev
  exact⟨h1,h2.trans (ZkL h k)⟩
theorem ZiF (hI:RpIn K w n tot m P d Ld v s)(hF:P.Fine n c)(ht:tot≤40000)(hm:m+4*(P.inn n).length≤890)(an:(P.inn n).length≤64):Calls Tryz.prog 61 #[rV d Ld v P.h s P.sy] w fun e w'=>Below w.heap.size w w'∧∃x,e=.returned x∧Zay K n tot (m+4*(P.inn n).length) (P.flush n) x w':=by
 have hn:=hF.wet.dev.n2;rw [ZjA hF.ok.toDev];obtain⟨W0,ah⟩:∃W,W=((w.alloc (.cells (Zah d Ld v P.h s P.sy) 43)).alloc (.cells (Zah dv0 dvl0 Sl.nil 0 Sl.nil 0) 43)):=⟨_,rfl⟩;(have hX:Rx w W0 (w.heap.size+1) d Ld v P.h s P.sy:=by rw [ah];exact ZbA w d Ld v P.h s P.sy);rw [Zb9] at ah;have bj:=hide ah;have bm:=hide hX;have bf:=hide (hI.keep hX.e);have bk:=hide hF.wet;have be:=hide hF.ok.toDev;have HN:=hide hn;have HT:=hide ht;have HM:=hide hm;(have au:Hid ((P.inn n).foldl Po.write P=((P.inn n).take (P.inn n).length).foldl Po.write P):=by show _=_;rw [List.take_length]);rw [au.out];have bi:Hid (∀j,j<(P.inn n).length→∃sh,(((P.inn n).take j).foldl Po.write P).m ((P.inn n).getD j 0)=some sh∧((((P.inn n).take j).foldl Po.write P).inl n)[j]? = some ((P.inn n).getD j 0,sh)):=by
  intro j hj;obtain⟨br,ao⟩:=ZdA (n:=n) ((P.inn n).take j) P hF.ok.toDev;have aq:=Zch (((P.inn n).take j).foldl Po.write P) n;rw [ao] at aq;have ap:j<((((P.inn n).take j).foldl Po.write P).inl n).length:=by
   have:=congrArg List.length aq;rw [List.length_map] at this;omega
  have hx:=congrArg (fun l=>l[j]?) aq;simp only [List.getElem?_map,List.getElem?_eq_getElem ap,List.getElem?_eq_getElem hj,Option.map_some,Option.some.injEq] at hx;have bp:=(ZaW (List.getElem_mem ap)).2.2;(have e0:(P.inn n).getD j 0=(P.inn n)[j]:=by simp [List.getD,hj]);refine⟨((((P.inn n).take j).foldl Po.write P).inl n)[j].2,?_,?_⟩
  · rw [e0,← hx];exact bp
  · rw [e0,List.getElem?_eq_getElem ap];exact congrArg some (Prod.ext hx rfl)
 have ak:Hid (∀(W:World) (Q:Po) (t:Sl),ShRow K W t (Q.inl n)→Q.inn n=P.inn n→t.len=(P.inn n).length):=by
  intro W Q t hr hq;obtain⟨ls,e,hc,_⟩:=hr;have h1:=Zch Q n;rw [hq] at h1;rw [← hc.len,← h1,← e,List.length_map,List.length_map]
 have aj:Hid (∀j,(((P.inn n).take j).foldl Po.write P).inn n=P.inn n):=fun j=>(ZdA (n:=n) ((P.inn n).take j) P hF.ok.toDev).2;have bl:Hid (∀j,(((P.inn n).take j).foldl Po.write P).Wet n (c+4*(((P.inn n).take j).length))):=fun j=>Po.Wet.writes _ P c hF.wet;have bo:=an;clear hX hI ah hF ht hm hn au;generalize af:(P.inn n).length=N at *;have bh:=hide af;clear af;unfold rV;go_enter Tryz.func61,Tryz.ntmps61;go_wp2_with fail;rw [← bj.out];go_loopw [3] (fun i wr=>∃(j:Nat) (D2:Dv) (L2:DvL) (v2 s2:Sl),j≤N∧i=.int .i64 j∧Hid (Rx w wr (w.heap.size+1) D2 L2 v2 P.h s2 (((P.inn n).take j).foldl Po.write P).sy)∧Hid (RpIn K wr n tot (m+4*j) (((P.inn n).take j).foldl Po.write P) D2 L2 v2 s2)) (fun i _=>N-(intOf i).toNat)
 case atStart=>exact ⟨0,d,Ld,v,s,by omega,rfl,bm,bf⟩
 case round =>
  obtain⟨j,D2,L2,v2,s2,hj,rfl,ac,ag⟩:=hrel;have bb:=ak.out _ _ _ ag.out.sh (aj.out j);have c11:=ac.out.b.c11;obtain⟨sa,sl,sc⟩:=s2;simp only [Sl.val] at bb c11;subst bb;by_cases ba:j<sl
  · (have i1:(j:Int)<(sl:Int):=by omega);obtain⟨sh,h1,h2⟩:=bi.out j ba;have HW:=hide (Zd8 ag.out HN.out HT.out (by have:=HM.out;omega) (fun q sh hq=>(bl.out j).sh q sh hq) j _ sh h2);rw [ZdR] at HW;have HL:=hide (ldR ac.out.b);unfold rV at HW HL;have ar:Hid (((P.inn n).take (j+1)).foldl Po.write P=(((P.inn n).take j).foldl Po.write P).write ((P.inn n).getD j 0)):=by
     show _=_;(have ay:j<(P.inn n).length:=by rw [bh.out];exact ba);rw [List.take_succ_eq_append_getElem ay,List.foldl_append];simp [List.getD,ay]
    clear h1 h2;go_wp2_with (refine Zac _ rfl 43 (.tmp 1) rfl (.pointer (some ⟨w.heap.size,0,none⟩)) _ rfl HL.out ?_);refine HW.out.mono ?_;rintro e w3 ⟨aw,x3,rfl,D3,L3,v3,s3,rfl,am⟩;have ai:=ac.out.keep aw;rw [← ar.out] at am;obtain⟨W4,aa,ab,ad,bq⟩:=stR ai.b D3 L3 v3 P.h s3 (((P.inn n).take (j+1)).foldl Po.write P).sy;have bn:=hide (ai.turn ab ad);have bg:=hide (RpIn.box am ad ⟨_,_,_,_,_,_,ai.b⟩);have ae:=hide aa;unfold rV at ae;rw [← ar.out,ZdR];unfold rV;clear aw am ai aa ab ad bq c11;go_wp2_with (refine Zab _ rfl rfl 43 (.tmp 1) (.tmp 13) rfl (.pointer (some ⟨w.heap.size,0,none⟩)) _ rfl rfl W4 ae.out ?_);go_roundw
    case rel=>exact ⟨j+1,D3,L3,v3,s3,by omega,by go_num,bn,bg⟩
    case measure=>simp only [intOf];omega
  · (have i1:¬(j:Int)<(sl:Int):=by omega);(have az:j=sl:=by omega);obtain⟨W4,aa,ax,av,ad⟩:=ac.out.tell D2 L2 v2 P.h ⟨sa,sl,sc⟩ (((P.inn n).take j).foldl Po.write P).sy;have HL:=hide (ldR ac.out.b);have ae:=hide aa;have bc:=hide ax;have bd:=hide av;have al:Hid (Zay K n tot (m+4*sl) (((P.inn n).take sl).foldl Po.write P) (rV D2 L2 v2 P.h ⟨sa,sl,sc⟩ (((P.inn n).take j).foldl Po.write P).sy) W4):=by
     rw [az] at ag ⊢;exact⟨D2,L2,v2,_,by rw [ZdR],RpIn.box ag.out ad ac.out.ans⟩
    unfold rV at HL ae;clear aa ax av ad az;go_wp2_with (first | refine Zac _ rfl 43 (.tmp 1) rfl (.pointer (some ⟨w.heap.size,0,none⟩)) _ rfl HL.out ?_ | refine Zab _ rfl rfl 43 (.tmp 2) (.tmp 14) rfl (.pointer (some ⟨w.heap.size+1,0,none⟩)) _ rfl rfl W4 ae.out ?_);refine bodyPost_ret (Zaw rfl bc.out _ rfl) rfl ?_;exact⟨bd.out,_,rfl,al.out⟩
theorem ZoS (p o:Nat)(w:World):(Instr.fieldAt 115 (.pointer (some ⟨p,o,none⟩)) 1).run Tryz.prog w=.ok (.pointer (some ⟨p,o+1,none⟩)) w:=by simp [go_sem,Instr.fieldAt]
theorem ZnM:∀args w,(callFunc 64 args).run Tryz.prog w=.ok (.enter 64 args) w:=Pl.ql Tryz.func64
theorem Zpl (w:World)(g r k i b off sl sc:Nat)(dd:Dv)(Ld:DvL)(v:Sl)(h:Int)(sy:Int)(qa:Option Addr)(ql qc:Nat)(hi:i<sl)(R1 R3:World→Prop)(h0:(fun (w':World)=>RBlk w' g dd Ld v h ⟨some ⟨b,off,none⟩,sl,sc⟩ sy∧w'.cell? ⟨b,off+i*4+1,none⟩=some (.slice qa ql qc)) w)(af:Calls Tryz.prog 64 #[rV dd Ld v h ⟨some ⟨b,off,none⟩,sl,sc⟩ sy,.int .i64 (k:Int)] w.drew fun e w2=>e=.returned (.int .i64 (i:Int))∧R1 w2)(aa:∀w2,R1 w2→(fun (w':World)=>RBlk w' g dd Ld v h ⟨some ⟨b,off,none⟩,sl,sc⟩ sy∧w'.cell? ⟨b,off+i*4+1,none⟩=some (.slice qa ql qc)) w2)(ab:∀w2,R1 w2→∃W,(Instr.storeAt 43 (.pointer (some ⟨r,0,none⟩)) (rV dd Ld v h ⟨some ⟨b,off,none⟩,sl,sc⟩ sy)).run Tryz.prog w2=.ok () W∧(fun (w':World)=>RBlk w' g dd Ld v h ⟨some ⟨b,off,none⟩,sl,sc⟩ sy∧w'.cell? ⟨b,off+i*4+1,none⟩=some (.slice qa ql qc)) W∧R3 W)
    {Q:Exit→Act→World→Prop}(aj:A.tmps.size=28)(ag:A.defers=[])(s1:A.tmps.getD 1 undef=.int .i64 (k:Int))(s2:A.tmps.getD 2 undef=.pointer (some ⟨g,0,none⟩))(s4:A.tmps.getD 4 undef=.pointer (some ⟨r,0,none⟩))
    (hend:∀(u:Nat→Value) w',R3 w'→Q .normal ((((((((((((A).put (some 19) (u 19)).put (some 20) (u 20)).put (some 21) (u 21)).put (some 22) (u 22)).put (some 23) (u 23)).put (some 24) (u 24)).put (some 25) (u 25)).put (some 26) (u 26)).put (some 27) (u 27)).put (some 5) (.slice qa ql qc)).put (some 6) (.int .i64 0)) w') :
    (Code.region 4 (Pl.find 4 ((Tryz.f23.body).getD .skip)) true).wp Tryz.prog Q A w:=by
  have ac:=(show (fun w'=>RBlk w' g dd Ld v h ⟨some ⟨b,off,none⟩,sl,sc⟩ sy∧w'.cell? ⟨b,off+i*4+1,none⟩=some (.slice qa ql qc)) w.drew from h0);have hA:=Pl.At.same (v:=.pointer (some ⟨r,0,none⟩)) (d:=4) (Pl.At.same (v:=.pointer (some ⟨g,0,none⟩)) (d:=2) (Pl.At.same (v:=.int .i64 (k:Int)) (d:=1) (Pl.At.here aj ag) s1) s2) s4;refine Pl.qa (S:=fun w'=>RBlk w' g dd Ld v h ⟨some ⟨b,off,none⟩,sl,sc⟩ sy∧w'.cell? ⟨b,off+i*4+1,none⟩=some (.slice qa ql qc)) hA ac ?_;rw [show (Pl.find 4 ((Tryz.f23.body).getD .skip)).size=12 by kernel_rfl];refine Pl.q1 0 19 (rV dd Ld v h ⟨some ⟨b,off,none⟩,sl,sc⟩ sy) (Pl.q0) (Pl.q6 43 (.tmp 2) (fun w' hS=>ldR hS.1)) ac ?_;refine Pl.q1 1 20 (.pointer (some ⟨g,11,none⟩)) (Pl.q0) (Pl.q4 43 (.tmp 2) 2 (ZmM g)) ac ?_;refine Pl.q1 2 21 (.slice (some ⟨b,off,none⟩) sl sc) (Pl.q0) (Pl.q6 41 (.tmp 20) (fun w' hS=>ldRI hS.1)) ac ?_;refine Pl.q1 3 22 (rV dd Ld v h ⟨some ⟨b,off,none⟩,sl,sc⟩ sy) (Pl.q0) (Pl.q6 43 (.tmp 2) (fun w' hS=>ldR hS.1)) ac ?_;refine Pl.q1 4 23 (.int .i64 (k:Int)) (Pl.q0) (Pl.q2 (.tmp 1)) ac ?_;refine Pl.qc 5 24 64 [(.tmp 22),(.tmp 23)] #[43,3] (Pl.q0) ZnM (Calls.mono (af) ?_);rintro e w2 ⟨rfl,ad⟩;obtain⟨W4,ai,ae,ah⟩:=ab w2 ad;refine⟨.int .i64 (i:Int),rfl,(aa w2 ad),?_⟩;refine Pl.q1 6 25 (.pointer (some ⟨b,off+i*4,none⟩)) (Pl.q0) (Pl.qj 41 (.tmp 21) (.tmp 24) (ixSh b off sl sc i hi)) (aa w2 ad) ?_;refine Pl.q1 7 26 (.pointer (some ⟨b,off+i*4+1,none⟩)) (Pl.q0) (Pl.q4 115 (.tmp 25) 1 (ZoS b (off+i*4))) (aa w2 ad) ?_;refine Pl.q1 8 27 (.slice qa ql qc) (Pl.q0) (Pl.q6 32 (.tmp 26) (fun w' hS=>ldBs b _ _ _ _ w' hS.2)) (aa w2 ad) ?_;refine Pl.qd 9 W4 (Pl.q0) (Pl.qh 43 (.tmp 4) (.tmp 19) W4 ai) ae ?_;refine Pl.q1 10 5 (.slice qa ql qc) (Pl.q0) (Pl.qm (.tmp 27)) ae ?_;refine Pl.q1 11 6 (.int .i64 0) (Pl.q0) (Pl.qm (.const (.int .i64 0))) ae ?_;refine Pl.q7 (fun A' hA'=>?_);rw [Pl.At.ext hA' (((((((((((hA.put 19 _).put 20 _).put 21 _).put 22 _).put 23 _).put 24 _).put 25 _).put 26 _).put 27 _).put 5 _).put 6 _)];exact hend hA'.fn _ ah
theorem ZiG (hI:RpIn K w n tot m P d Ld v s)(hn:n≤64)(k:Int)(hk:¬(0≤k∧k<(n:Int))):Calls Tryz.prog 23 #[rV d Ld v P.h s P.sy,.int .i64 k] w fun e w'=>Below w.heap.size w w'∧∃x,e=.returned (.tuple #[x,.slice none 0 0,.int .i64 3])∧Zay K n tot m P x w':=by
 obtain⟨W0,af⟩:∃W,W=((w.alloc (.cells (Zah d Ld v P.h s P.sy) 43)).alloc (.cells (Zah dv0 dvl0 Sl.nil 0 Sl.nil 0) 43)):=⟨_,rfl⟩;(have hX:Rx w W0 (w.heap.size+1) d Ld v P.h s P.sy:=by rw [af];exact ZbA w d Ld v P.h s P.sy);have al:=hide (ZbK W0 d Ld v P.h s P.sy n hI.kpl hn);have c0:=hX.b.c0;have c1:=hX.b.c1;have c2:=hX.b.c2;have c3:=hX.b.c3;have c4:=hX.b.c4;have c5:=hX.b.c5;have c6:=hX.b.c6;have c7:=hX.b.c7;have c8:=hX.b.c8;have c9:=hX.b.c9;have c10:=hX.b.c10;have c11:=hX.b.c11;have c12:=hX.b.c12;rw [af,Zb9] at c0 c1 c2 c3 c4 c5 c6 c7 c8 c9 c10 c11 c12;rw [Zb9] at af;simp only [Sl.val] at c0 c2 c3 c5 c6 c9 c11;have am:=hide af;have an:=hide hX;have HI:=hide hI;simp only [rV,Zah,Sl.val] at al;by_cases h0:k<0
 · have ag:=an;obtain⟨W2,aa,ah,ac,ak⟩:=ag.out.tell d Ld v P.h s P.sy;have ad:=hide (ldR ag.out.b);have ae:=hide aa;have ai:=hide ah;have aj:=hide ac;have ab:Hid (Zay K n tot m P (rV d Ld v P.h s P.sy) W2):=⟨d,Ld,v,s,rfl,HI.out.keep ac⟩;unfold rV at ad ae;clear aa ah ac ak;rw [am.out] at ad ae;clear hX hI af;unfold rV;go_enter Tryz.func23,Tryz.ntmps23;go_wp2_with (first | refine Zac _ rfl 43 (.tmp 2) rfl (.pointer (some ⟨w.heap.size,0,none⟩)) _ rfl ad.out ?_ | refine Zab _ rfl rfl 43 (.tmp 4) (.tmp 15) rfl (.pointer (some ⟨w.heap.size+1,0,none⟩)) _ rfl rfl W2 ae.out ?_);refine bodyPost_ret (ZcT rfl ai.out _ rfl rfl rfl) rfl ?_;exact⟨aj.out,_,rfl,ab.out⟩
 · (have ap:(n:Int)≤k:=by omega);have h1:¬k<0:=h0;clear hX hI af hk h0;unfold rV;go_enter Tryz.func23,Tryz.ntmps23;go_wp2_with fail;rw [← am.out];refine al.out.mono ?_;rintro e w1 ⟨ao,rfl⟩;have ag:=hide (an.out.keep ao);obtain⟨W2,aa,ah,ac,ak⟩:=ag.out.tell d Ld v P.h s P.sy;have ad:=hide (ldR ag.out.b);have ae:=hide aa;have ai:=hide ah;have aj:=hide ac;have ab:Hid (Zay K n tot m P (rV d Ld v P.h s P.sy) W2):=⟨d,Ld,v,s,rfl,HI.out.keep ac⟩;unfold rV at ad ae;clear aa ah ac ak;clear ao;clear c0 c1 c2 c3 c4 c5 c6 c7 c8 c9 c10 c11 c12;go_wp2_with (first | refine Zac _ rfl 43 (.tmp 2) rfl (.pointer (some ⟨w.heap.size,0,none⟩)) _ rfl ad.out ?_ | refine Zab _ rfl rfl 43 (.tmp 4) (.tmp 15) rfl (.pointer (some ⟨w.heap.size+1,0,none⟩)) _ rfl rfl W2 ae.out ?_);refine bodyPost_ret (ZcT rfl ai.out _ rfl rfl rfl) rfl ?_;exact⟨aj.out,_,rfl,ab.out⟩
theorem ZlV (hI:RpIn K w n tot m P d Ld v s)(hF:P.Fine n c)(ht:tot≤40000)(hm:m≤890)(k:Nat)(hk:k<n):Calls Tryz.prog 23 #[rV d Ld v P.h s P.sy,.int .i64 (k:Int)] w fun e w'=>Below w.heap.size w w'∧∃(x:Value)(q:Sl),e=.returned (.tuple #[x,q.val,.int .i64 0])∧Zay K n tot (m+4) (P.letIn k) x w'∧BsS K w' q ((P.letIn k).con k):=by
 have hn:=hF.wet.dev.n2;have hlet:=hF.ok.letIn hk;obtain⟨W0,hW0⟩:∃W,W=((w.alloc (.cells (Zah d Ld v P.h s P.sy) 43)).alloc (.cells (Zah dv0 dvl0 Sl.nil 0 Sl.nil 0) 43)):=⟨_,rfl⟩;(have hX:Rx w W0 (w.heap.size+1) d Ld v P.h s P.sy:=by rw [hW0];exact ZbA w d Ld v P.h s P.sy);have HPG:=hide (ZbK W0 d Ld v P.h s P.sy n hI.kpl hn);have c0:=hX.b.c0;have c1:=hX.b.c1;have c2:=hX.b.c2;have c3:=hX.b.c3;have c4:=hX.b.c4;have c5:=hX.b.c5;have c6:=hX.b.c6;have c7:=hX.b.c7;have c8:=hX.b.c8;have c9:=hX.b.c9;have c10:=hX.b.c10;have c11:=hX.b.c11;have c12:=hX.b.c12;rw [hW0,Zb9] at c0 c1 c2 c3 c4 c5 c6 c7 c8 c9 c10 c11 c12;rw [Zb9] at hW0;simp only [Sl.val] at c0 c2 c3 c5 c6 c9 c11;have HW0:=hide hW0;have HX0:=hide hX;simp only [rV,Zah,Sl.val] at HPG;(have hlt:¬(n:Int)≤(k:Int):=by omega);have HLET:Hid (∀W,Below w.heap.size w W→Calls Tryz.prog 69 #[rV d Ld v P.h s P.sy,.int .i64 (k:Int)] W fun e w'=>Below W.heap.size W w'∧∃x,e=.returned x∧Zay K n tot (m+4) (P.letIn k) x w'):=fun W hb=>ZhS (hI.keep hb) hF ht hm k hk;have HKN:=hide hk;have HIN:=hide hlet.inn;clear hX hI hW0 hk hF ht hm hn hlet;generalize P.letIn k=Q5 at *;unfold rV;go_enter Tryz.func23,Tryz.ntmps23;go_wp2_with fail;rw [← HW0.out];refine HPG.out.mono ?_;rintro e w1 ⟨hb1,rfl⟩;have HX1:=hide (HX0.out.keep hb1);have HLT:=hide (HLET.out w1 HX1.out.e);have HL1:=hide (ldR HX1.out.b);unfold rV at HLT HL1;clear hb1;clear c0 c1 c2 c3 c4 c5 c6 c7 c8 c9 c10 c11 c12;go_wp2_with (refine Zac _ rfl 43 (.tmp 2) rfl (.pointer (some ⟨w.heap.size,0,none⟩)) _ rfl HL1.out ?_);refine HLT.out.mono ?_;rintro e w2 ⟨hb2,x2,rfl,D2,L2,v2,s2,rfl,hI2⟩;have hX2:=HX1.out.keep hb2;obtain⟨W3,hst3,hblk3,hf3,hs3⟩:=stR hX2.b D2 L2 v2 Q5.h s2 Q5.sy;have hX3:=hX2.turn hblk3 hf3;have hI3:=RpIn.box hI2 hf3 ⟨_,_,_,_,_,_,hX2.b⟩;have HR4:Hid (∀{Q:Exit→Act→World→Prop} {A:Act},A.tmps.size=28→A.defers=[]→A.tmps.getD 1 undef=.int .i64 (k:Int)→A.tmps.getD 2 undef=.pointer (some ⟨w.heap.size,0,none⟩)→A.tmps.getD 4 undef=.pointer (some ⟨w.heap.size+1,0,none⟩)→(∀(q:Sl) (u:Nat→Value) (w':World),(RBlk w' (w.heap.size+1) D2 L2 v2 Q5.h s2 Q5.sy∧Below w.heap.size w w'∧RpIn K w' n tot (m+4) Q5 D2 L2 v2 s2∧BsS K w' q (Q5.con k))→Q .normal (((((((((((((A).put (some 19) (u 19)).put (some 20) (u 20)).put (some 21) (u 21)).put (some 22) (u 22)).put (some 23) (u 23)).put (some 24) (u 24)).put (some 25) (u 25)).put (some 26) (u 26)).put (some 27) (u 27)).put (some 5) (q.val)).put (some 6) (.int .i64 0))) w')→(Code.region 4 (Pl.find 4 ((Tryz.f23.body).getD .skip)) true).wp Tryz.prog Q A W3):=by
  intro Q A a1 a2 a3 a4 a5 hend;obtain⟨sh,hsh⟩:=Option.isSome_iff_exists.1 HIN.out;have hmem:=Zen HKN.out hsh;obtain⟨ls,hls,hc,hz⟩:=hI3.sh;obtain⟨hat1,hat2⟩:=Zmv Q5 HKN.out hsh;have hi0:∃z,ls[(Q5.from_ 0 k).length]? = some z∧z.1=(k,sh):=by
   rw [← hls,List.getElem?_map] at hat1;cases e:ls[(Q5.from_ 0 k).length]? with
   | none=>rw [e] at hat1;cases hat1
   | some z=>rw [e] at hat1;exact ⟨z,rfl,by simpa using hat1⟩
  obtain⟨z,hzi,hzk⟩:=hi0;obtain⟨b,off,ha,k0,k1,k2,k3,hrt⟩:=hc.at_ _ z hzi;obtain⟨hq,hql⟩:=hz z (List.mem_of_getElem? hzi);(have hil:(Q5.from_ 0 k).length<s2.len:=by rw [← hc.len];exact (List.getElem?_eq_some_iff.1 hzi).1);(have hcon:Q5.con k=sh.b:=by unfold Po.con;rw [hsh]);rw [hzk] at hq;obtain⟨sa,sl,sc⟩:=s2;simp only at ha hil;subst ha;have hX3':=hX3.keep (Zad W3);have hI3':=hI3.keep (Zad W3);have hAT:=ZcR hI3'.sh D2 L2 v2 Q5.h Q5.sy (k:Int);refine Zpl W3 w.heap.size (w.heap.size+1) k (Q5.from_ 0 k).length b off sl sc D2 L2 v2 Q5.h Q5.sy z.2.a z.2.len z.2.cap hil (fun w2=>Below W3.drew.heap.size W3.drew w2) (fun w'=>RBlk w' (w.heap.size+1) D2 L2 v2 Q5.h ⟨some ⟨b,off,none⟩,sl,sc⟩ Q5.sy∧Below w.heap.size w w'∧RpIn K w' n tot (m+4) Q5 D2 L2 v2 ⟨some ⟨b,off,none⟩,sl,sc⟩∧BsS K w' z.2 (Q5.con k)) ⟨hX3.b,k1⟩ (hAT.mono ?_) (fun w2 h2=>⟨hX3'.b.below h2,?_⟩) (fun w2 h2=>?_) a1 a2 a3 a4 a5 (fun u w' hw'=>hend z.2 u w' hw')
  · rintro e w2 ⟨hb,zz,rfl,hzz⟩;refine⟨?_,hb⟩;rcases hzz with ⟨_,hno⟩ | ⟨i3,x3,rfl,hx3,he3⟩
    · exact absurd rfl (hno (k,sh) hmem)
    · (have h2:x3.1=k:=by omega);rcases Nat.lt_trichotomy i3 (Q5.from_ 0 k).length with hlt | heq | hgt
      · exact absurd h2 (hat2 i3 x3 hlt hx3)
      · rw [heq]
      · exfalso;have hp:(Q5.inn n).Pairwise (· < ·):=List.Pairwise.filter _ List.pairwise_lt_range;have hpg:=Zch Q5 n;(have e1:(Q5.inn n)[(Q5.from_ 0 k).length]? = some k:=by rw [← hpg,List.getElem?_map,hat1];rfl);(have e2:(Q5.inn n)[i3]? = some k:=by rw [← hpg,List.getElem?_map,hx3];simp [h2]);obtain⟨l1,g1⟩:=List.getElem?_eq_some_iff.1 e1;obtain⟨l2,g2⟩:=List.getElem?_eq_some_iff.1 e2;have:=List.pairwise_iff_getElem.1 hp _ _ l1 l2 hgt;omega
  · have hblk:=h2.block b (by exact hrt.lt);simp only [World.cell?] at k1 ⊢;rw [show W3.drew.heap[b]? = W3.heap[b]? from rfl] at hblk;rw [hblk];exact k1
  · have hX4:=hX3'.keep h2;have hI4:=hI3'.keep h2;obtain⟨W,hst,hb,hB,hf⟩:=hX4.tell D2 L2 v2 Q5.h ⟨some ⟨b,off,none⟩,sl,sc⟩ Q5.sy;have hlt:=hX4.lt;(have hq2:BsS K w2 z.2 (Q5.con k):=by rw [hcon];exact (hq.keep (Zad W3) (Nat.le_refl _)).keep h2 (Nat.le_refl _));have hbx:Bxs w2 W (fun i=>i=w.heap.size+1):=⟨fun i hi hl=>hf.block i hl hi,fun i hi=>by
     rw [hi];obtain⟨_,_,_,_,_,_,kk⟩:=hX4.ans;exact kk.box,hf.size⟩
    refine⟨W,hst,⟨hX4.b.keep (hf.block _ hX4.b.lt (by omega)),?_⟩,hb,hB,RpIn.box hI4 hf hX4.ans,hbx.bs hq2⟩;have hb4:=h2.block b (by exact hrt.lt);rw [show W3.drew.heap[b]? = W3.heap[b]? from rfl] at hb4;obtain⟨C,fz,hC⟩:=hrt;have hne:b≠w.heap.size+1:=fun e=>by
     obtain⟨_,_,_,_,_,_,kk⟩:=hX4.ans;unfold RBlk at kk;rw [← e,hb4,hC] at kk;simp only [Option.some.injEq,Obj.cells.injEq] at kk;exact absurd kk.2.1 (by decide)
    have hb5:=hf.block b (Array.getElem?_eq_some_iff.1 (hb4.trans hC)).1 hne;simp only [World.cell?] at k1 ⊢;rw [hb5,hb4];exact k1
 have HS3:=hide hst3;unfold rV at HS3;unfold rV;clear hb2 hI2 hX2 hst3 hblk3 hf3 hs3 hX3 hI3;go_wp2_with (refine Zab _ rfl rfl 43 (.tmp 2) (.tmp 18) rfl (.pointer (some ⟨w.heap.size,0,none⟩)) _ rfl rfl W3 HS3.out ?_);refine Pl.q8 (ops:=Pl.find 4 ((Tryz.f23.body).getD .skip)) ?_;refine HR4.out (by rfl) rfl (by rfl) (by rfl) (by rfl) ?_;intro q u4 w4 hw4;obtain⟨h1,h2,h3,h4⟩:=hw4;simp only [Act.put,List.setIfInBounds_toArray,List.set_cons_zero,List.set_cons_succ];have HB4:=hide h1;have HBB:=hide h2;have HSAY:Hid (Zay K n tot (m+4) Q5 (rV D2 L2 v2 Q5.h s2 Q5.sy) w4):=⟨D2,L2,v2,s2,rfl,h3⟩;have HQ4:=hide h4;clear h1 h2 h3 h4;go_wp2_with fail;refine bodyPost_ret (ZcT rfl HB4.out _ rfl rfl rfl) rfl ?_;exact⟨HBB.out,_,q,rfl,HSAY.out,HQ4.out⟩
end Go.Proofs.YtpnlebpnhmibfaaGreat
