/-
  Lemmas.
-/
import Derived.Test.YtdojdcncncgncaaGreatKtbk
namespace Go.Proofs.YtdojdcncncgncaaGreat
open Go.RowKit
set_option linter.unusedVariables false
set_option maxRecDepth 100000
set_option maxHeartbeats 4000000
variable {w:World}{A:Act}
def Np (w0:World) (g:Nat):Nat→Prop:=fun k=>w0.heap.size≤k∧k≠g
theorem ZiE:∀args w,(callFunc 49 args).run Tryz.prog w=.ok (.enter 49 args) w:=Pl.qj Tryz.func49
theorem ZiF:∀args w,(callFunc 50 args).run Tryz.prog w=.ok (.enter 50 args) w:=Pl.qj Tryz.func50
theorem Zeu:∀args w,(callFunc 51 args).run Tryz.prog w=.ok (.enter 51 args) w:=Pl.qj Tryz.func51
theorem ZnH {D:Nat→Prop}(w0 w:World)(b off len c i:Nat)(hi:i<len)(x:Lb)(ax:w0.cell? ⟨b,off+i*2,none⟩=some x.u.val)(ay:w0.cell? ⟨b,off+i*2+1,none⟩=some x.v.val)(hx:Gi D w0 x.u x.t∧Gb D w0 x.v x.l)(hm:MayL ⟨x.t,bss x.l⟩)(lv:Sl)(live:List Int)(aq:Gi D w0 lv live)(p:Nat)(r:Rw)(ra:Option Addr)(rn rc:Nat)(hr:RwBlk w0 p r (.slice ra rn rc))(hW:Below w0.heap.size w0 w)
    {Q:Exit→Act→World→Prop}(aw:A.tmps.size=87)(av:A.defers=[])(s0:A.tmps.getD 0 undef=.slice (some ⟨b,off,none⟩) len c)(s12:A.tmps.getD 13 undef=.int .i64 (i:Int))(s4:A.tmps.getD 4 undef=.pointer (some ⟨p,0,none⟩))(s2:A.tmps.getD 2 undef=lv.val)
    (hend:∀(u:Nat→Value)(g:Nat)(u7 v7:Sl)(l7:List Sb) w',w0.heap.size≤g→LfBlk w' g u7.val v7.val→Gi (Np w0 g) w' u7 (joinI x.t r.wr live).t→Gb (Np w0 g) w' v7 l7→bss l7=bss x.l→Below w0.heap.size w0 w'→Q .normal ((((((((((((((A).put (some 56) (u 56)).put (some 57) (u 57)).put (some 58) (u 58)).put (some 59) (u 59)).put (some 60) (u 60)).put (some 61) (u 61)).put (some 62) (u 62)).put (some 63) (u 63)).put (some 55) (u 55)).put (some 64) (u 64)).put (some 65) (u 65)).put (some 14) (.pointer (some ⟨g,0,none⟩))).put (some 10) (.int .i64 (joinI x.t r.wr live).e)) w') :
    (Code.region 10 (Pl.find 10 ((Tryz.f20.body).getD .skip)) true).wp Tryz.prog Q A w:=by
  have aa:Below w0.heap.size w0 w.drew:=hW.drew;have hA:=Pl.At.same (v:=lv.val) (d:=2) (Pl.At.same (v:=.pointer (some ⟨p,0,none⟩)) (d:=4) (Pl.At.same (v:=.int .i64 (i:Int)) (d:=13) (Pl.At.same (v:=.slice (some ⟨b,off,none⟩) len c) (d:=0) (Pl.At.here aw av) s0) s12) s4) s2;refine Pl.qa (S:=fun w'=>Below w0.heap.size w0 w') hA aa ?_;rw [show (Pl.find 10 ((Tryz.f20.body).getD .skip)).size=14 by kernel_rfl];refine Pl.q0 0 56 (.slice (some ⟨b,off,none⟩) len c) (Pl.q1) (Pl.q2 (.tmp 0)) aa ?_;refine Pl.q0 1 57 (.int .i64 (i:Int)) (Pl.q1) (Pl.q2 (.tmp 13)) aa ?_;refine Pl.q0 2 58 (.pointer (some ⟨b,off+i*2,none⟩)) (Pl.q1) (Pl.qb 22 (.tmp 56) (.tmp 57) (ZaF b off len c i hi)) aa ?_;refine Pl.q0 3 59 (lfV x.u x.v) (Pl.q1) (Pl.q3 67 (.tmp 58) (fun w' hS=>Za5 (Zaf ax hS) (Zaf ay hS))) aa ?_;refine Pl.q0 4 60 (.pointer (some ⟨p,3,none⟩)) (Pl.q1) (Pl.q5 33 (.tmp 4) 3 (Zo5 p)) aa ?_;refine Pl.q0 5 61 (.int .i64 r.wr) (Pl.q1) (Pl.q3 3 (.tmp 60) (fun w' hS=>Zbm (hr.keep hS).c3)) aa ?_;refine Pl.q0 6 62 (lv.val) (Pl.q1) (Pl.q2 (.tmp 2)) aa ?_;refine Pl.qr 7 11 ?_ ?_
  · have ar:Below w0.heap.size w0 w.drew:=aa;refine Pl.qm 7 63 49 [(.tmp 59),(.tmp 61),(.tmp 62)] #[67,3,46] ZiE (Calls.mono (Zgw w.drew x.u x.v x.t x.l (hx.1.below aa (Nat.le_refl _)) (hx.2.below aa (Nat.le_refl _)) hm r.wr lv live (aq.below aa (Nat.le_refl _))) ?_);rintro e w7 ⟨am,u7,v7,l7,rfl,ai,ah,ap⟩;have ab:Below w0.heap.size w0 w7:=Zad aa am;refine⟨.tuple #[lfV u7 v7,.int .i64 (joinI x.t r.wr live).e],rfl,ab,?_⟩;refine Pl.q0 8 55 (.tuple #[lfV u7 v7,.int .i64 (joinI x.t r.wr live).e]) (Pl.q1) (Pl.q2 (.tmp 63)) ab ?_;refine Pl.q0 9 64 (lfV u7 v7) (Pl.q1) (Pl.qc (.tmp 55) 0 (fun w=>(ex2 _ _ w).1)) ab ?_;refine Pl.q0 10 65 (.int .i64 (joinI x.t r.wr live).e) (Pl.q1) (Pl.qc (.tmp 55) 1 (fun w=>(ex2 _ _ w).2)) ab ?_;have ac:Below w0.heap.size w0 (w7.alloc (.cells #[.slice none 0 0,.slice none 0 0] 67)):=ab.alloc ab.size _;have an:=Zaj w7 (Sl.val Sl.nil) (Sl.val Sl.nil);have ak:w0.heap.size≤w7.heap.size:=ab.size;refine Pl.qo 11 14 (.pointer (some ⟨w7.heap.size,0,none⟩)) (w7.alloc (.cells #[.slice none 0 0,.slice none 0 0] 67)) (Pl.q1) (Pl.qq 67 (Zav w7)) ac ?_;have al:∀k,w.drew.heap.size≤k→k<w7.heap.size→Np w0 w7.heap.size k:=fun k h1 hk=>⟨Nat.le_trans aa.size h1,fun e=>by rw [e] at hk;exact Nat.lt_irrefl _ hk⟩;obtain⟨w9,aj,ao,ag⟩:=ZaN (w7.alloc (.cells #[.slice none 0 0,.slice none 0 0] 67)) w7.heap.size _ _ an u7 v7;have af:Below w0.heap.size w0 w9:=ac.trans (ag.below ac.size (fun k hk=>by rw [hk];exact ak));have ae:=((ai.mono al).below (Zaa w7 (.cells #[.slice none 0 0,.slice none 0 0] 67)) (Nat.le_refl _)).keep (Kept.frm ag (fun _ h e=>h.2 e));have ad:=((ah.mono al).below (Zaa w7 (.cells #[.slice none 0 0,.slice none 0 0] 67)) (Nat.le_refl _)).keep (Kept.frm ag (fun _ h e=>h.2 e));refine Pl.qh 12 w9 (Pl.q1) (Pl.qi 67 (.tmp 14) (.tmp 64) aj) af ?_;refine Pl.q0 13 10 (.int .i64 (joinI x.t r.wr live).e) (Pl.q1) (Pl.qf (.tmp 65)) af ?_;refine Pl.q7 (fun A' hA'=>?_);rw [Pl.At.ext hA' (((((((((((((hA.put 56 _).put 57 _).put 58 _).put 59 _).put 60 _).put 61 _).put 62 _).put 63 _).put 55 _).put 64 _).put 65 _).put 14 _).put 10 _)];exact hend hA'.fn _ u7 v7 l7 _ ak ao ae ad ap af
  · have ac:Below w0.heap.size w0 (w.drew.alloc (.cells #[.slice none 0 0,.slice none 0 0] 67)):=aa.alloc aa.size _;have an:=Zaj w.drew (Sl.val Sl.nil) (Sl.val Sl.nil);have ak:w0.heap.size≤w.drew.heap.size:=aa.size;refine Pl.qk 11 14 (.pointer (some ⟨w.drew.heap.size,0,none⟩)) (w.drew.alloc (.cells #[.slice none 0 0,.slice none 0 0] 67)) (Pl.qq 67 (Zav w.drew)) ac ?_;have ar:Below w0.heap.size w0 ((w.drew.alloc (.cells #[.slice none 0 0,.slice none 0 0] 67))):=ac;refine Pl.qd 7 63 49 [(.tmp 59),(.tmp 61),(.tmp 62)] #[67,3,46] (Pl.q1) ZiE (Calls.mono (Zgw ((w.drew.alloc (.cells #[.slice none 0 0,.slice none 0 0] 67))) x.u x.v x.t x.l (hx.1.below ac (Nat.le_refl _)) (hx.2.below ac (Nat.le_refl _)) hm r.wr lv live (aq.below ac (Nat.le_refl _))) ?_);rintro e w7 ⟨am,u7,v7,l7,rfl,ai,ah,ap⟩;have ab:Below w0.heap.size w0 w7:=Zad ac am;have au:=an.below am;refine⟨.tuple #[lfV u7 v7,.int .i64 (joinI x.t r.wr live).e],rfl,ab,?_⟩;rw [Pl.qg 14 63];refine Pl.q0 8 55 (.tuple #[lfV u7 v7,.int .i64 (joinI x.t r.wr live).e]) (Pl.q1) (Pl.q2 (.tmp 63)) ab ?_;rw [Pl.qg 14 55];refine Pl.q0 9 64 (lfV u7 v7) (Pl.q1) (Pl.qc (.tmp 55) 0 (fun w=>(ex2 _ _ w).1)) ab ?_;rw [Pl.qg 14 64];refine Pl.q0 10 65 (.int .i64 (joinI x.t r.wr live).e) (Pl.q1) (Pl.qc (.tmp 55) 1 (fun w=>(ex2 _ _ w).2)) ab ?_;rw [Pl.qg 14 65];have al:∀k,(w.drew.alloc (.cells #[.slice none 0 0,.slice none 0 0] 67)).heap.size≤k→k<w7.heap.size→Np w0 w.drew.heap.size k:=fun k hk _=>⟨Nat.le_trans ac.size hk,fun e=>by rw [Zae,e] at hk;omega⟩;obtain⟨w9,aj,ao,ag⟩:=ZaN w7 w.drew.heap.size _ _ au u7 v7;have af:Below w0.heap.size w0 w9:=ab.trans (ag.below ab.size (fun k hk=>by rw [hk];exact ak));have ae:=(ai.mono al).keep (Kept.frm ag (fun _ h e=>h.2 e));have ad:=(ah.mono al).keep (Kept.frm ag (fun _ h e=>h.2 e));refine Pl.qh 12 w9 (Pl.q1) (Pl.qi 67 (.tmp 14) (.tmp 64) aj) af ?_;refine Pl.q0 13 10 (.int .i64 (joinI x.t r.wr live).e) (Pl.q1) (Pl.qf (.tmp 65)) af ?_;refine Pl.q7 (fun A' hA'=>?_);rw [Pl.At.ext hA' (((((((((((((hA.put 56 _).put 57 _).put 58 _).put 59 _).put 60 _).put 61 _).put 62 _).put 63 _).put 55 _).put 64 _).put 65 _).put 14 _).put 10 _)];exact hend hA'.fn _ u7 v7 l7 _ ak ao ae ad ap af
theorem ZnI (w:World)(g p:Nat)(u v:Sl)(t:List Int)(l:List Sb)(hk:LfBlk w g u.val v.val)(hu:Gi (Ap g) w u t)(hv:Gb (Ap g) w v l)(hm:MayL ⟨t,bss l⟩)(r:Rw)(ra:Option Addr)(rn rc:Nat)(hr:RwBlk w p r (.slice ra rn rc))(bd:p≠g)(bc:Fs w ra rn rc r.xs)(be:r.fits)(au:r.may=true)
    {Q:Exit→Act→World→Prop}(bh:A.tmps.size=87)(bf:A.defers=[])(s14:A.tmps.getD 14 undef=.pointer (some ⟨g,0,none⟩))(s4:A.tmps.getD 4 undef=.pointer (some ⟨p,0,none⟩))
    (hend:∀(q:Nat→Value)(u' v':Sl)(l':List Sb) w',LfBlk w' g u'.val v'.val→Gi (Np w g) w' u' t→Gb (Np w g) w' v' l'→bss l'=(insA (bss l) (hpB r)).s→Frm (fun k=>k=g) w w'→Q .normal (((((((((((A).put (some 74) (q 74)).put (some 73) (q 73)).put (some 75) (q 75)).put (some 76) (q 76)).put (some 72) (q 72)).put (some 77) (q 77)).put (some 78) (q 78)).put (some 79) (q 79)).put (some 15) (.int .i64 (insA (bss l) (hpB r)).at_)).put (some 16) (q 16)) w') :
    (Code.region 13 (Pl.find 13 ((Tryz.f20.body).getD .skip)) true).wp Tryz.prog Q A w:=by
  have aq:Below w.heap.size w w.drew:=(Below.refl _ w).drew;have am:RwBlk w.drew p r (.slice ra rn rc):=hr;have an:LfBlk w.drew g u.val v.val:=hk;have ar:g<w.heap.size:=hk.lt;have hA:=Pl.At.same (v:=.pointer (some ⟨p,0,none⟩)) (d:=4) (Pl.At.same (v:=.pointer (some ⟨g,0,none⟩)) (d:=14) (Pl.At.here bh bf) s14) s4;refine Pl.qa (S:=fun w'=>RwBlk w' p r (.slice ra rn rc)) hA am ?_;rw [show (Pl.find 13 ((Tryz.f20.body).getD .skip)).size=11 by kernel_rfl];refine Pl.q0 1 74 (r.val (.slice ra rn rc)) (Pl.q1) (Pl.q3 33 (.tmp 4) (fun w' hS=>Zbq p r (.slice ra rn rc) ⟨_,_,_,rfl⟩ w' hS)) am ?_;refine Pl.qr 0 2 ?_ ?_
  · refine Pl.qk 0 73 (lfV u v) w.drew (Pl.qs 67 (.tmp 14) (Za5 an.c0 an.c1)) am ?_;refine Pl.qp 2 ?_;refine Pl.qm 2 75 51 [(.tmp 74)] #[33] Zeu (Calls.mono (ZbU r ra rn rc w.drew (bc.keep aq (Nat.le_refl _)) be au) ?_);rintro e w5 ⟨ab,s5,rfl,bb,bg,ba⟩;have al:RwBlk w5 p r (.slice ra rn rc):=am.keep ab;refine⟨s5.val,rfl,al,?_⟩;have ac:Below w.heap.size w w5:=Zad aq ab;have aw:LfBlk w5 g u.val v.val:=an.below ab;have av:Cm (Ap g) w5 s5 (hpB r):=Zhu _ bb (ZaK au) (fun k e e2=>by have:=ba k e;rw [e2] at this;exact absurd ar (Nat.not_lt.2 this));refine Pl.qp 3 ?_;refine Pl.qm 3 76 50 [(.tmp 73),(.tmp 75)] #[67,56] ZiF (Calls.mono (Zla w5 u v t l (hu.below ac (Nat.le_refl _)) (hv.below ac (Nat.le_refl _)) hm ⟨s5,hpB r⟩ av) ?_);rintro e w6 ⟨af,u6,v6,l6,rfl,ai,ag,az⟩;have aa:RwBlk w6 p r (.slice ra rn rc):=al.keep af;have ax:LfBlk w6 g u.val v.val:=aw.below af;refine⟨.tuple #[lfV u6 v6,.int .i64 (insA (bss l) (hpB r)).at_,.int .i64 (insA (bss l) (hpB r)).e],rfl,aa,?_⟩;refine Pl.q0 4 72 (.tuple #[lfV u6 v6,.int .i64 (insA (bss l) (hpB r)).at_,.int .i64 (insA (bss l) (hpB r)).e]) (Pl.q1) (Pl.q2 (.tmp 76)) aa ?_;refine Pl.q0 5 77 (lfV u6 v6) (Pl.q1) (Pl.qc (.tmp 72) 0 (fun w=>(ex3 _ _ _ w).1)) aa ?_;refine Pl.q0 6 78 (.int .i64 (insA (bss l) (hpB r)).at_) (Pl.q1) (Pl.qc (.tmp 72) 1 (fun w=>(ex3 _ _ _ w).2.1)) aa ?_;refine Pl.q0 7 79 (.int .i64 (insA (bss l) (hpB r)).e) (Pl.q1) (Pl.qc (.tmp 72) 2 (fun w=>(ex3 _ _ _ w).2.2)) aa ?_;obtain⟨w9,ak,ay,ad⟩:=ZaN w6 g _ _ ax u6 v6;have ae:RwBlk w9 p r (.slice ra rn rc):=(ad.block p (Array.getElem?_eq_some_iff.1 aa).1 bd).trans aa;refine Pl.qh 8 w9 (Pl.q1) (Pl.qi 67 (.tmp 14) (.tmp 77) ak) ae ?_;refine Pl.q0 9 15 (.int .i64 (insA (bss l) (hpB r)).at_) (Pl.q1) (Pl.qf (.tmp 78)) ae ?_;refine Pl.q0 10 16 (.int .i64 (insA (bss l) (hpB r)).e) (Pl.q1) (Pl.qf (.tmp 79)) ae ?_;have ap:∀k,w5.heap.size≤k→k<w6.heap.size→Np w g k:=fun k hk _=>⟨Nat.le_trans ac.size hk,fun e=>by rw [e] at hk;exact absurd (Nat.lt_of_lt_of_le ar ac.size) (Nat.not_lt.2 hk)⟩;have aj:=(ai.mono ap).keep (Kept.frm ad (fun _ h e=>h.2 e));have ah:=(ag.mono ap).keep (Kept.frm ad (fun _ h e=>h.2 e));have hF:Frm (fun k=>k=g) w w9:=by
     have f0:Frm (fun k=>k=g) w w.drew:=(Frm.refl _ w).drew;have f1:Frm (fun k=>k=g) w.drew w6:=Frm.ofBelow (Zad ab af);exact(f0.trans f1 (fun _ _ e=>e)).trans ad (fun _ _ e=>e)
    refine Pl.q7 (fun A' hA'=>?_);rw [Pl.At.ext hA' ((((((((((hA.put 74 _).put 73 _).put 75 _).put 76 _).put 72 _).put 77 _).put 78 _).put 79 _).put 15 _).put 16 _)];exact hend hA'.fn u6 v6 l6 w9 ay aj ah az hF
  · refine Pl.qm 2 75 51 [(.tmp 74)] #[33] Zeu (Calls.mono (ZbU r ra rn rc w.drew (bc.keep aq (Nat.le_refl _)) be au) ?_);rintro e w5 ⟨ab,s5,rfl,bb,bg,ba⟩;have al:RwBlk w5 p r (.slice ra rn rc):=am.keep ab;have ao:LfBlk w5 g u.val v.val:=an.below ab;refine⟨s5.val,rfl,al,?_⟩;refine Pl.qp 0 ?_;refine Pl.qk 0 73 (lfV u v) w5 (Pl.qs 67 (.tmp 14) (Za5 ao.c0 ao.c1)) al ?_;rw [Pl.qg 75 73];have ac:Below w.heap.size w w5:=Zad aq ab;have aw:LfBlk w5 g u.val v.val:=an.below ab;have av:Cm (Ap g) w5 s5 (hpB r):=Zhu _ bb (ZaK au) (fun k e e2=>by have:=ba k e;rw [e2] at this;exact absurd ar (Nat.not_lt.2 this));refine Pl.qp 3 ?_;refine Pl.qm 3 76 50 [(.tmp 73),(.tmp 75)] #[67,56] ZiF (Calls.mono (Zla w5 u v t l (hu.below ac (Nat.le_refl _)) (hv.below ac (Nat.le_refl _)) hm ⟨s5,hpB r⟩ av) ?_);rintro e w6 ⟨af,u6,v6,l6,rfl,ai,ag,az⟩;have aa:RwBlk w6 p r (.slice ra rn rc):=al.keep af;have ax:LfBlk w6 g u.val v.val:=aw.below af;refine⟨.tuple #[lfV u6 v6,.int .i64 (insA (bss l) (hpB r)).at_,.int .i64 (insA (bss l) (hpB r)).e],rfl,aa,?_⟩;refine Pl.q0 4 72 (.tuple #[lfV u6 v6,.int .i64 (insA (bss l) (hpB r)).at_,.int .i64 (insA (bss l) (hpB r)).e]) (Pl.q1) (Pl.q2 (.tmp 76)) aa ?_;refine Pl.q0 5 77 (lfV u6 v6) (Pl.q1) (Pl.qc (.tmp 72) 0 (fun w=>(ex3 _ _ _ w).1)) aa ?_;refine Pl.q0 6 78 (.int .i64 (insA (bss l) (hpB r)).at_) (Pl.q1) (Pl.qc (.tmp 72) 1 (fun w=>(ex3 _ _ _ w).2.1)) aa ?_;refine Pl.q0 7 79 (.int .i64 (insA (bss l) (hpB r)).e) (Pl.q1) (Pl.qc (.tmp 72) 2 (fun w=>(ex3 _ _ _ w).2.2)) aa ?_;obtain⟨w9,ak,ay,ad⟩:=ZaN w6 g _ _ ax u6 v6;have ae:RwBlk w9 p r (.slice ra rn rc):=(ad.block p (Array.getElem?_eq_some_iff.1 aa).1 bd).trans aa;refine Pl.qh 8 w9 (Pl.q1) (Pl.qi 67 (.tmp 14) (.tmp 77) ak) ae ?_;refine Pl.q0 9 15 (.int .i64 (insA (bss l) (hpB r)).at_) (Pl.q1) (Pl.qf (.tmp 78)) ae ?_;refine Pl.q0 10 16 (.int .i64 (insA (bss l) (hpB r)).e) (Pl.q1) (Pl.qf (.tmp 79)) ae ?_;have ap:∀k,w5.heap.size≤k→k<w6.heap.size→Np w g k:=fun k hk _=>⟨Nat.le_trans ac.size hk,fun e=>by rw [e] at hk;exact absurd (Nat.lt_of_lt_of_le ar ac.size) (Nat.not_lt.2 hk)⟩;have aj:=(ai.mono ap).keep (Kept.frm ad (fun _ h e=>h.2 e));have ah:=(ag.mono ap).keep (Kept.frm ad (fun _ h e=>h.2 e));have hF:Frm (fun k=>k=g) w w9:=by
     have f0:Frm (fun k=>k=g) w w.drew:=(Frm.refl _ w).drew;have f1:Frm (fun k=>k=g) w.drew w6:=Frm.ofBelow (Zad ab af);exact(f0.trans f1 (fun _ _ e=>e)).trans ad (fun _ _ e=>e)
    refine Pl.q7 (fun A' hA'=>?_);rw [Pl.At.ext hA' ((((((((((hA.put 74 _).put 73 _).put 75 _).put 76 _).put 72 _).put 77 _).put 78 _).put 79 _).put 15 _).put 16 _)];exact hend hA'.fn u6 v6 l6 w9 ay aj ah az hF
def Ziz (w : World) (l : List Lf) (r : Rw) (live : List Int) (e : Ending) (w' : World) : Prop := (MayH l ∧ Zba w (putH l r live) e w') ∨ (¬ MayH l ∧ Zba w ⟨[], (0, 0), 1⟩ e w')
theorem ZfA {t : List Int} {s : List (List Nat)} (h : MayL ⟨t, s⟩) (p : Int) (live : List Int) : MayL ⟨(joinI t p live).t, s⟩ := ⟨Zgv h.itl p live, h.slots, h.need⟩
theorem Zdg {B g : Nat} {w0 w : World} (hb : Below B w0 w) (hg : B ≤ g) (x : Bt) : Below B w0 (setBt w g x) :=
  (hb.setCell (p := ⟨g, 0, none⟩) hg _).setCell (p := ⟨g, 1, none⟩) hg _
theorem Znk {w : World} {s : Sl} {M : List Lb} {q : Nat} (h : Gl (fun k => k ≠ q) w s M) (b : Bt) : Gl (fun _ => True) (setBt w q b) s M :=
  (h.keep (Kept.frm (ZaC w q b) (fun k hk e => hk e))).wide (fun _ _ => trivial)
theorem Zd8 {w W w5 : World} {q : Nat} {s' : Sl} {L M : List Lb} (hq : w.heap.size ≤ q) (hb : Below w.heap.size w W) (hI : CpI (fun k => k ≠ q) W w5 s' L M) (P : Ph) (hP : P.l = lfs L) : Zba w P (.returned (.tuple #[.slice s'.a s'.len s'.cap, btV P.b, .int .i64 P.e])) (setBt w5 q P.b) :=
  ⟨Zdg (Zad hb hI.below) hq _, s', M, rfl, Znk hI.gl _, by rw [hP]; exact hI.lf⟩
theorem ZgZ (w:World)(s:Sl)(L:List Lb)(h:Gl (fun _=>True) w s L)(r:Rw)(ra:Option Addr)(rn rc:Nat)(hr:Fs w ra rn rc r.xs)(hrf:r.fits)(lv:Sl)(live:List Int)(hlv:Gi (fun _=>True) w lv live) :
    Calls Tryz.prog 20 #[s.val,r.val (.slice ra rn rc),lv.val] w (Ziz w (lfs L) r live):=by
  have hsf:∀(w:World) (a:Addr) (m:Mode) (x:Nat),(store a (.float .f64 x) m).run Tryz.prog w=stored Tryz.prog w a (.float .f64 x) m:=fun w a m x=>run_store Tryz.prog w a _ m rfl
  have hA1:=Zaa w (.cells #[.float .f64 r.key,.bool r.dead,.slice ra rn rc,.int .i64 r.wr,.int .i64 r.cell,.int .i64 r.no] 33)
  have hA2:=Zaa (w.alloc (.cells #[.float .f64 r.key,.bool r.dead,.slice ra rn rc,.int .i64 r.wr,.int .i64 r.cell,.int .i64 r.no] 33)) (.cells #[.int .i64 0,.int .i64 0] 26)
  have hR:RwBlk ((w.alloc (.cells #[.float .f64 r.key,.bool r.dead,.slice ra rn rc,.int .i64 r.wr,.int .i64 r.cell,.int .i64 r.no] 33)).alloc (.cells #[.int .i64 0,.int .i64 0] 26)) w.heap.size r (.slice ra rn rc):=(Zak w r (.slice ra rn rc)).keep hA2
  have hQ:BtBlk ((w.alloc (.cells #[.float .f64 r.key,.bool r.dead,.slice ra rn rc,.int .i64 r.wr,.int .i64 r.cell,.int .i64 r.no] 33)).alloc (.cells #[.int .i64 0,.int .i64 0] 26)) (w.heap.size+1) (0,0):=by
   have:=Zaw (w.alloc (.cells #[.float .f64 r.key,.bool r.dead,.slice ra rn rc,.int .i64 r.wr,.int .i64 r.cell,.int .i64 r.no] 33)) (0,0)
   rwa [Zae] at this
  have hA:=Zad hA1 hA2
  obtain⟨W0,hW0⟩:∃W0,W0=(w.alloc (.cells #[.float .f64 r.key,.bool r.dead,.slice ra rn rc,.int .i64 r.wr,.int .i64 r.cell,.int .i64 r.no] 33)).alloc (.cells #[.int .i64 0,.int .i64 0] 26):=⟨_,rfl⟩
  rw [← hW0] at hA hR hQ
  have hs0:W0.heap.size=w.heap.size+2:=by rw [hW0,Zae,Zae]
  have hq2:w.heap.size≤w.heap.size+1:=by omega
  have HR:=hide hR
  have HQ:=hide hQ
  have HA:=hide hA
  have H:=hide h
  have HLV:=hide hlv
  have HFR:=hide hr
  have HRF:=hide hrf
  have HS0:=hide hs0
  have HWE:=hide hW0
  have HO:=hide (Zbz W0 s L (h.below hA (Nat.le_refl _)))
  have HSL:Hid (L.length=s.len):=h.len
  have HGQ:Hid (∀W,Below w.heap.size w W→Gl (fun k=>k≠w.heap.size+1) W s L):=fun W hb=>(h.mono (fun k _ hk=>by omega)).below hb (Nat.le_refl _)
  have HCO:Hid (∀W,Below w.heap.size w W→w.heap.size+2≤W.heap.size→_):=fun W hb hsz=>Zcy W s L (HGQ.out W hb) (fun k hk=>by omega)
  have HWI:Hid (∀W,Below w.heap.size w W→w.heap.size+2≤W.heap.size→∀(i:Nat) (hi:i<s.len) (x:Lb),Gi (fun k=>k≠w.heap.size+1) W x.u x.t→Gb (fun k=>k≠w.heap.size+1) W x.v x.l→_):=fun W hb hsz i hi x hu hv=>Zdw W s L (HGQ.out W hb) (fun k hk=>by omega) i hi x hu hv
  have HIX:Hid (∀W,Below w.heap.size w W→MayH (lfs L)→∀y:List Nat,y.length=52→_):=fun W hb hm y hy=>ZkT W s L (h.below hb (Nat.le_refl _)) hm y hy
  have HCK:Hid (∀W,Below w.heap.size w W→_):=fun W hb=>Zbl r ra rn rc W (hr.keep hb (Nat.le_refl _)) hrf
  obtain⟨a,len,cap⟩:=s
  obtain⟨la,ln,lc⟩:=lv
  clear h hA hR hQ hA1 hA2 hlv hr hrf hs0 hW0
  unfold Sl.val Rw.val at *
  simp only at *
  go_enter Tryz.func20,Tryz.ntmps20
  go_wp2_with fail
  rw [← HWE.out]
  refine HO.out.mono ?_
  intro e w1 ho
  obtain⟨⟨sa,sn,sc⟩,S,k,rfl,hs,hk⟩:=ho.one
  have HW1:=hide (Zad HA.out hs.below)
  have HR1:=hide (HR.out.keep hs.below)
  have HQ1:=hide (HQ.out.keep hs.below)
  have HS1:=hide hs
  have HZ1:Hid (w.heap.size+2≤w1.heap.size):=by show _≤_;rw [← HS0.out];exact hs.below.size
  rcases hk with ⟨hm,rfl,hrw⟩ | ⟨hm,rfl,_⟩
  · have HM:=hide hm
    have HRW:=hide hrw
    have HLS:Hid (S.length≤100000):=Nat.le_trans (hm.len hrw) (by decide)
    have r0:=HR1.out.c0
    have HKE:=hide (Zhs w1 r.key)
    clear ho hs hm hrw HO
    unfold Sl.val
    simp only at r0 ⊢
    go_wp2_with fail
    refine HKE.out.mono ?_
    rintro e w2 ⟨⟨g,rfl,hg⟩,hb⟩
    have HFI:=hide (Zf1 W0 w2 ⟨sa,sn,sc⟩ S (HS1.out.keep hb) HLS.out g r.key HRF.out.key hg)
    have HW2:=hide (Zad HW1.out hb)
    have HR2:=hide (HR1.out.keep hb)
    have HQ2:=hide (HQ1.out.keep hb)
    have HZ2:Hid (w.heap.size+2≤w2.heap.size):=Nat.le_trans HZ1.out hb.size
    clear hg hb HKE r0
    unfold Sl.val at HFI
    simp only at HFI
    go_wp2_with fail
    refine HFI.out.mono ?_
    intro e w3 hf
    obtain⟨rfl,hb⟩:=hf.one
    obtain⟨z,hz⟩:∃z,z=orZ (S.find? (ofK r.key)):=⟨_,rfl⟩
    rw [← hz]
    have HB4:=Zaa w3 (.cells z.cells.toArray 72)
    have HBB:=Zad hb HB4
    have HW4:=hide (Zad HW2.out HBB)
    have HR4:=hide (HR2.out.keep HBB)
    have HQ4:=hide (HQ2.out.keep HBB)
    have HZ4:Hid (w.heap.size+2≤(w3.alloc (.cells z.cells.toArray 72)).heap.size):=Nat.le_trans HZ2.out HBB.size
    have HSTO:=hide (Zck z w3)
    have HFS:Hid ((findH (lfs L) r.key).isSome=(S.find? (ofK r.key)).isSome):=by
     show _=_
     have hg:findH (lfs L) r.key=(S.find? (ofK r.key)).map Sx.hr:=Zgp HRW.out _
     rw [hg]
     cases S.find? (ofK r.key) <;> rfl
    obtain⟨th,hth⟩:∃th,th=(S.find? (ofK r.key)).isSome:=⟨_,rfl⟩
    rw [← hth] at HFS ⊢
    generalize hW4:w3.alloc (.cells z.cells.toArray 72)=W4 at *
    clear hf hb hz HB4 HBB HFI hW4 hth
    have r0:=HR4.out.c0
    have r1:=HR4.out.c1
    have r2:=HR4.out.c2
    have r3:=HR4.out.c3
    have r4:=HR4.out.c4
    have r5:=HR4.out.c5
    cases th with
    | true =>
     have HD:=hide (ZcP (live:=live) (show r.may=false∨r.wr=0∨(findH (lfs L) r.key).isSome=true from .inr (.inr HFS.out)))
     have HC4:=hide (HCO.out W4 HW4.out HZ4.out)
     go_wp2_with (first | refine Zac _ rfl rfl 72 (.tmp 11) (.tmp 32) rfl (.pointer (some ⟨w3.heap.size,0,none⟩)) _ rfl rfl W4 HSTO.out ?_)
     refine HC4.out.mono ?_
     rintro e w6 ⟨⟨a6,n6,c6⟩,M,rfl,hI⟩
     have hq6:=HQ4.out.keep hI.below
     have HST:=hide (Zcj w6 (w.heap.size+1) _ hq6 (0,0))
     have HQE:=hide (Zaz hq6 (0,0))
     have HE:=hide (Zd8 hq2 HW4.out hI ⟨lfs L,(0,0),1⟩ rfl)
     simp only at HE
     generalize setBt w6 (w.heap.size+1) (0,0)=WE at *
     unfold btV at HST
     unfold Sl.val
     simp only at HST ⊢
     clear hI hq6 HC4
     go_wp2_with (refine Zac _ rfl rfl 26 (.tmp 7) (.tmp 47) rfl (.pointer (some ⟨w.heap.size+1,0,none⟩)) (.agg #[.int .i64 0,.int .i64 0]) rfl rfl WE HST.out ?_)
     refine bodyPost_ret (Za0 rfl HQE.out _ _ _ rfl rfl rfl) rfl ?_
     refine .inl ⟨HM.out,?_⟩
     rw [HD.out]
     exact HE.out
    | false =>
     have HC4:=hide (HCK.out W4 HW4.out)
     cases hm:r.may with
     | false =>
      have HD:=hide (ZcP (l:=lfs L) (live:=live) (show r.may=false∨r.wr=0∨(findH (lfs L) r.key).isSome=true from .inl hm))
      rw [hm] at HC4
      unfold chk at HC4
      clear hm
      go_wp2_with (first | refine Zac _ rfl rfl 72 (.tmp 11) (.tmp 32) rfl (.pointer (some ⟨w3.heap.size,0,none⟩)) _ rfl rfl W4 HSTO.out ?_)
      refine HC4.out.mono ?_
      rintro e W5 ⟨rfl,hb⟩
      have HW5:=hide (Zad HW4.out hb)
      have HR5:=hide (HR4.out.keep hb)
      have HQ5:=hide (HQ4.out.keep hb)
      have HZ5:Hid (w.heap.size+2≤W5.heap.size):=Nat.le_trans HZ4.out hb.size
      clear hb HC4 r0 r1 r2 r3 r4 r5
      have HC4:=hide (HCO.out W5 HW5.out HZ5.out)
      go_wp2_with fail
      refine HC4.out.mono ?_
      rintro e w6 ⟨⟨a6,n6,c6⟩,M,rfl,hI⟩
      have hq6:=HQ5.out.keep hI.below
      have HST:=hide (Zcj w6 (w.heap.size+1) _ hq6 (0,0))
      have HQE:=hide (Zaz hq6 (0,0))
      have HE:=hide (Zd8 hq2 HW5.out hI ⟨lfs L,(0,0),1⟩ rfl)
      simp only at HE
      generalize setBt w6 (w.heap.size+1) (0,0)=WE at *
      unfold btV at HST
      unfold Sl.val
      simp only at HST ⊢
      clear hI hq6 HC4
      go_wp2_with (refine Zac _ rfl rfl 26 (.tmp 7) (.tmp 47) rfl (.pointer (some ⟨w.heap.size+1,0,none⟩)) (.agg #[.int .i64 0,.int .i64 0]) rfl rfl WE HST.out ?_)
      refine bodyPost_ret (Za0 rfl HQE.out _ _ _ rfl rfl rfl) rfl ?_
      refine .inl ⟨HM.out,?_⟩
      rw [HD.out]
      exact HE.out
     | true =>
      have HMY:=hide hm
      rw [hm] at HC4
      unfold chk at HC4
      clear hm
      go_wp2_with (first | refine Zac _ rfl rfl 72 (.tmp 11) (.tmp 32) rfl (.pointer (some ⟨w3.heap.size,0,none⟩)) _ rfl rfl W4 HSTO.out ?_)
      refine HC4.out.mono ?_
      rintro e W5 ⟨rfl,hb⟩
      have HW5:=hide (Zad HW4.out hb)
      have HR5:=hide (HR4.out.keep hb)
      have HQ5:=hide (HQ4.out.keep hb)
      have HZ5:Hid (w.heap.size+2≤W5.heap.size):=Nat.le_trans HZ4.out hb.size
      clear hb HC4 r0 r1 r2 r3 r4 r5
      have r3:=HR5.out.c3
      by_cases hw0:r.wr=0
      · have HD:=hide (ZcP (l:=lfs L) (live:=live) (show r.may=false∨r.wr=0∨(findH (lfs L) r.key).isSome=true from .inr (.inl hw0)))
        have hw1:(r.wr == 0)=true:=beq_iff_eq.2 hw0
        have HC4:=hide (HCO.out W5 HW5.out HZ5.out)
        go_wp2_with fail
        refine HC4.out.mono ?_
        rintro e w6 ⟨⟨a6,n6,c6⟩,M,rfl,hI⟩
        have hq6:=HQ5.out.keep hI.below
        have HST:=hide (Zcj w6 (w.heap.size+1) _ hq6 (0,0))
        have HQE:=hide (Zaz hq6 (0,0))
        have HE:=hide (Zd8 hq2 HW5.out hI ⟨lfs L,(0,0),1⟩ rfl)
        simp only at HE
        generalize setBt w6 (w.heap.size+1) (0,0)=WE at *
        unfold btV at HST
        unfold Sl.val
        simp only at HST ⊢
        clear hI hq6 HC4
        go_wp2_with (refine Zac _ rfl rfl 26 (.tmp 7) (.tmp 47) rfl (.pointer (some ⟨w.heap.size+1,0,none⟩)) (.agg #[.int .i64 0,.int .i64 0]) rfl rfl WE HST.out ?_)
        refine bodyPost_ret (Za0 rfl HQE.out _ _ _ rfl rfl rfl) rfl ?_
        refine .inl ⟨HM.out,?_⟩
        rw [HD.out]
        exact HE.out
      · have hw1:(r.wr == 0)=false:=beq_eq_false_iff_ne.2 hw0
        have HNO:Hid (¬(r.may=false∨r.wr=0∨(findH (lfs L) r.key).isSome=true)):=by
         rintro (h | h | h)
         · rw [HMY.out] at h;cases h
         · exact hw0 h
         · rw [HFS.out] at h;cases h
        have HC4:=hide (HIX.out W5 HW5.out HM.out (hpB r) (ZbC HMY.out))
        go_wp2_with fail
        refine HC4.out.mono ?_
        rintro e W6 ⟨rfl,hb⟩
        have HW6:=hide (Zad HW5.out hb)
        have HR6:=hide (HR5.out.keep hb)
        have HQ6:=hide (HQ5.out.keep hb)
        have HZ6:Hid (w.heap.size+2≤W6.heap.size):=Nat.le_trans HZ5.out hb.size
        clear hb HC4 r3 hw1
        cases hro:roomH (hpB r) (lfs L) 0 with
        | none =>
         have HD:=hide (Zhx (live:=live) HNO.out hro)
         have HC4:=hide (HCO.out W6 HW6.out HZ6.out)
         have i0:(-1:Int)<0:=by decide
         unfold rmI
         clear hro
         go_wp2_with fail
         refine HC4.out.mono ?_
         rintro e w6 ⟨⟨a6,n6,c6⟩,M,rfl,hI⟩
         have hq6:=HQ6.out.keep hI.below
         have HST:=hide (Zcj w6 (w.heap.size+1) _ hq6 (0,0))
         have HQE:=hide (Zaz hq6 (0,0))
         have HE:=hide (Zd8 hq2 HW6.out hI ⟨lfs L,(0,0),7⟩ rfl)
         simp only at HE
         generalize setBt w6 (w.heap.size+1) (0,0)=WE at *
         unfold btV at HST
         unfold Sl.val
         simp only at HST ⊢
         clear hI hq6 HC4
         go_wp2_with (refine Zac _ rfl rfl 26 (.tmp 7) (.tmp 54) rfl (.pointer (some ⟨w.heap.size+1,0,none⟩)) (.agg #[.int .i64 0,.int .i64 0]) rfl rfl WE HST.out ?_)
         refine bodyPost_ret (Za0 rfl HQE.out _ _ _ rfl rfl rfl) rfl ?_
         refine .inl ⟨HM.out,?_⟩
         rw [HD.out]
         exact HE.out
        | some i =>
         obtain⟨_,hil,hie,_⟩:=Zb1 hro
         have hil2:i<(lfs L).length:=by omega
         have hi:i<len:=by rw [Za4,HSL.out] at hil2;exact hil2
         have HRO:=hide hro
         have hgw:=H.out.below HW6.out (Nat.le_refl _)
         obtain⟨bb,off,ha,c0,c1⟩:=hgw.cell i hi
         replace ha:a=some ⟨bb,off,none⟩:=ha
         subst ha
         have hit:=hgw.at (i:=i) hi
         have hlf:=Zbt L i
         have hmay:=HM.out.leaf _ (Zbe hil2)
         obtain⟨x,hx⟩:∃x,x=L.getD i Lb.zero:=⟨_,rfl⟩
         rw [← hx] at c0 c1 hit hlf
         rw [hlf] at hmay
         have HLF:=hide hlf
         have HIT:=hide hit
         have HMAY:Hid (MayL ⟨x.t,bss x.l⟩):=hmay
         have HC0:=hide c0
         have HC1:=hide c1
         have HLV6:=hide (HLV.out.below HW6.out (Nat.le_refl _))
         have i0:¬(i:Int)<0:=by omega
         unfold rmI
         simp only
         clear hro hil hie hil2 hgw hit hlf hmay hx c0 c1 HCK HIX
         go_upto_region 10 with fail
         refine Pl.q9 (ops:=Pl.find 10 ((Tryz.f20.body).getD .skip)) ?_
         refine ZnH W6 W6 bb off len cap i hi x HC0.out HC1.out HIT.out HMAY.out ⟨la,ln,lc⟩ live HLV6.out w.heap.size r ra rn rc HR6.out (Below.refl _ _) (by rfl) (by rfl) (by rfl) (by rfl) (by rfl) (by rfl) ?_
         intro q g7 u7 v7 l7 W7 hg7 hk7 hgi7 hgb7 hl7 hb7
         simp only [Act.put,List.setIfInBounds_toArray,List.set_cons_zero,List.set_cons_succ]
         have HW7:=hide (Zad HW6.out hb7)
         have HR7:=hide (HR6.out.keep hb7)
         have HQ7:=hide (HQ6.out.keep hb7)
         have HZ7:Hid (w.heap.size+2≤W7.heap.size):=Nat.le_trans HZ6.out hb7.size
         have HG7:Hid (w.heap.size+2≤g7):=Nat.le_trans HZ6.out hg7
         have HK7:=hide hk7
         have HGI7:=hide hgi7
         have HGB7:=hide hgb7
         have HL7:=hide hl7
         have HITL:Hid ((lf (lfs L) i).itl=x.t):=by show _=_;rw [HLF.out];rfl
         clear hg7 hk7 hgi7 hgb7 hl7 hb7
         obtain⟨ec,hec⟩:∃ec,ec=(joinI x.t r.wr live).e:=⟨_,rfl⟩
         rw [← hec]
         have HEC:=hide hec
         clear hec
         by_cases he0:ec=0
         · subst he0
           have HD:=hide (Zl0 HNO.out HRO.out (by rw [HITL.out];exact HEC.out.symm))
           go_upto_region 13 with fail
           refine Pl.q9 (ops:=Pl.find 13 ((Tryz.f20.body).getD .skip)) ?_
           refine ZnI W7 g7 w.heap.size u7 v7 (joinI x.t r.wr live).t l7 HK7.out (HGI7.out.wide (fun _ h=>h.2)) (HGB7.out.wide (fun _ h=>h.2)) (by rw [HL7.out];exact ZfA HMAY.out r.wr live) r ra rn rc HR7.out (by have:=HG7.out;omega) (HFR.out.keep HW7.out (Nat.le_refl _)) HRF.out HMY.out (by rfl) (by rfl) (by rfl) (by rfl) ?_
           intro q8 u8 v8 l8 W8 hk8 hgi8 hgb8 hl8 hf8
           simp only [Act.put,List.setIfInBounds_toArray,List.set_cons_zero,List.set_cons_succ]
           have hz8:W7.heap.size≤W8.heap.size:=hf8.size
           have HW8:Hid (Below w.heap.size w W8):=HW7.out.trans (hf8.below HW7.out.size (fun k hk=>by rw [hk];have:=HG7.out;omega))
           have HQ8:Hid (BtBlk W8 (w.heap.size+1) (0,0)):=(hf8.block _ HQ7.out.lt (by have:=HG7.out;omega)).trans HQ7.out
           have HZ8:Hid (w.heap.size+2≤W8.heap.size):=Nat.le_trans HZ7.out hz8
           have HWX:=hide (HWI.out W8 HW8.out HZ8.out i hi ⟨u8,v8,(joinI x.t r.wr live).t,l8⟩ (hgi8.wide (fun k hk=>by have:=hk.1;have:=HZ7.out;omega)) (hgb8.wide (fun k hk=>by have:=hk.1;have:=HZ7.out;omega)))
           have k0:=hk8.c0
           have k1:=hk8.c1
           have HL8:Hid (bss l8=(insA (bss x.l) (hpB r)).s):=by show _=_;rw [hl8,HL7.out]
           have HAT:Hid ((insA (bss l7) (hpB r)).at_=(insA (lf (lfs L) i).slots (hpB r)).at_):=by show _=_;rw [HL7.out,HLF.out];rfl
           obtain⟨at8,hat⟩:∃at8,at8=(insA (bss l7) (hpB r)).at_:=⟨_,rfl⟩
           rw [← hat] at HAT ⊢
           clear hk8 hgi8 hgb8 hl8 hf8 hz8 hat HWI HCO HK7 HGI7 HGB7
           obtain⟨u8a,u8n,u8c⟩:=u8
           obtain⟨v8a,v8n,v8c⟩:=v8
           unfold lfV Sl.val at HWX
           unfold Sl.val at k0 k1
           simp only at HWX k0 k1
           go_wp2_with fail
           refine HWX.out.mono ?_
           rintro e W9 ⟨hb9,⟨a6,n6,c6⟩,M,rfl,hgl,hM⟩
           have hq9:=HQ8.out.keep hb9
           have HST:=hide (Zcj W9 (w.heap.size+1) _ hq9 ((i:Int),at8))
           have HQE:=hide (Zaz hq9 ((i:Int),at8))
           have HE:Hid (Zba w ⟨(lfs L).set i (putL (lf (lfs L) i) r live),((i:Int),(insA (lf (lfs L) i).slots (hpB r)).at_),0⟩ (.returned (.tuple #[.slice a6 n6 c6,btV ((i:Int),at8),.int .i64 0])) (setBt W9 (w.heap.size+1) ((i:Int),at8))):=by
            refine⟨Zdg (Zad HW8.out hb9) hq2 _,⟨a6,n6,c6⟩,M,?_,Znk hgl _,?_⟩
            · rw [HAT.out]
            · rw [hM]
              show (lfs L).set i ⟨(joinI x.t r.wr live).t,bss l8⟩=(lfs L).set i (putL (lf (lfs L) i) r live)
              rw [HL8.out,HLF.out]
              rfl
           generalize setBt W9 (w.heap.size+1) ((i:Int),at8)=WE at *
           unfold btV at HST
           simp only at HST
           clear hb9 hgl hM hq9 HWX k0 k1
           go_wp2_with (refine Zac _ rfl rfl 26 (.tmp 7) (.tmp 86) rfl (.pointer (some ⟨w.heap.size+1,0,none⟩)) (.agg #[.int .i64 (i:Int),.int .i64 at8]) rfl rfl WE HST.out ?_)
           refine bodyPost_ret (Za0 rfl HQE.out _ _ _ rfl rfl rfl) rfl ?_
           refine .inl ⟨HM.out,?_⟩
           rw [HD.out]
           exact HE.out
         · have he1:(ec == 0)=false:=beq_eq_false_iff_ne.2 he0
           have HD:=hide (Zja HNO.out HRO.out (show (joinI (lf (lfs L) i).itl r.wr live).e≠0 by rw [HITL.out,← HEC.out];exact he0))
           rw [HITL.out,← HEC.out] at HD
           have HC4:=hide (HCO.out W7 HW7.out HZ7.out)
           go_wp2_with fail
           refine HC4.out.mono ?_
           rintro e w6 ⟨⟨a6,n6,c6⟩,M,rfl,hI⟩
           have hq6:=HQ7.out.keep hI.below
           have HST:=hide (Zcj w6 (w.heap.size+1) _ hq6 (0,0))
           have HQE:=hide (Zaz hq6 (0,0))
           have HE:=hide (Zd8 hq2 HW7.out hI ⟨lfs L,(0,0),ec⟩ rfl)
           simp only at HE
           generalize setBt w6 (w.heap.size+1) (0,0)=WE at *
           unfold btV at HST
           unfold Sl.val
           simp only at HST ⊢
           clear hI hq6 HC4
           go_wp2_with (refine Zac _ rfl rfl 26 (.tmp 7) (.tmp 70) rfl (.pointer (some ⟨w.heap.size+1,0,none⟩)) (.agg #[.int .i64 0,.int .i64 0]) rfl rfl WE HST.out ?_)
           refine bodyPost_ret (Za0 rfl HQE.out _ _ _ rfl rfl rfl) rfl ?_
           refine .inl ⟨HM.out,?_⟩
           rw [HD.out]
           exact HE.out
  · have HST:=hide (Zcj w1 (w.heap.size+1) _ HQ1.out (0,0))
    have HQE:=hide (Zaz HQ1.out (0,0))
    have HN:Hid (Ziz w (lfs L) r live (.returned (.tuple #[.slice none 0 0,btV (0,0),.int .i64 1])) (setBt w1 (w.heap.size+1) (0,0))):=.inr ⟨hm,Zdg HW1.out hq2 _,⟨none,0,0⟩,[],rfl,ZhP _,rfl⟩
    generalize setBt w1 (w.heap.size+1) (0,0)=WE at *
    unfold btV at HST
    simp only at HST
    clear ho hs hm HO
    unfold Sl.val
    simp only
    go_wp2_with (refine Zac _ rfl rfl 26 (.tmp 7) (.tmp 24) rfl (.pointer (some ⟨w.heap.size+1,0,none⟩)) (.agg #[.int .i64 0,.int .i64 0]) rfl rfl WE HST.out ?_)
    refine bodyPost_ret (Za0 rfl HQE.out _ _ _ rfl rfl rfl) rfl ?_
    exact HN.out
def NsBlk (w:World) (p:Nat) (v:Sl):Prop:=w.heap[p]? = some (Obj.cells #[v.val] 46 (0,0))
theorem NsBlk.keep {w':World}{p:Nat}{v:Sl}(h:NsBlk w p v)(hb:Below w.heap.size w w'):NsBlk w' p v:=(hb.block p (Array.getElem?_eq_some_iff.1 h).1).trans h
theorem NsBlk.c0 {p:Nat}{v:Sl}(h:NsBlk w p v):w.cell? ⟨p,0,none⟩=some v.val:=(Zbj h).1
theorem ZmQ {D:Nat→Prop}(w:World)(u v:Sl)(t:List Int)(l:List Sb)(hi:Gi D w u t)(hg:Gb D w v l)(hm:MayL ⟨t,bss l⟩)(p q:Nat)(r:Rw)(c:Value)(hp:RwBlk w p r c)(lv:Sl)(live:List Int)(hq:NsBlk w q lv)(hl:Gi D w lv live) :
    Calls Tryz.prog 54 #[lfV u v,.pointer (some ⟨p,0,none⟩),.pointer (some ⟨q,0,none⟩)] w fun e w'=>Told w (joinI t r.wr live).t (bss l) (mk2 (joinI t r.wr live).e) e w':=by
  have ag:=Zaa w (.cells #[u.val,v.val] 67);have ab:=Zaa (w.alloc (.cells #[u.val,v.val] 67)) (.cells #[.slice none 0 0,.slice none 0 0] 67);have hA:=Zad ag ab;have ad:=(Zaj w u.val v.val).below ab;have ae:=Zaj (w.alloc (.cells #[u.val,v.val] 67)) (Sl.val Sl.nil) (Sl.val Sl.nil);rw [Zae] at ae;have HJ:=hide (Zgw _ u v t l (hi.below hA (Nat.le_refl _)) (hg.below hA (Nat.le_refl _)) hm r.wr lv live (hl.below hA (Nat.le_refl _)));have p3:=(hp.keep hA).c3;have q0:=(hq.keep hA).c0;have k0:=ad.c0;have k1:=ad.c1;have HA:=hide hA;have af:Hid (LfBlk ((w.alloc (.cells #[u.val,v.val] 67)).alloc (.cells #[.slice none 0 0,.slice none 0 0] 67)) (w.heap.size+1) (.slice none 0 0) (.slice none 0 0)):=ae;clear hi hg hp hq hl ag ab hA ad ae;obtain⟨X,hX⟩:∃X,X=(joinI t r.wr live).e:=⟨_,rfl⟩;obtain⟨T,hT⟩:∃T,T=(joinI t r.wr live).t:=⟨_,rfl⟩;rw [← hX,← hT] at HJ ⊢;clear hX hT;obtain⟨ua,un,uc⟩:=u;obtain⟨va,vn,vc⟩:=v;obtain⟨la,ln,lc⟩:=lv;unfold lfV Sl.val at *;simp only at *;go_enter Tryz.func54,Tryz.ntmps54;go_wp2_with fail;generalize (w.alloc (.cells #[.slice ua un uc,.slice va vn vc] 67)).alloc (.cells #[.slice none 0 0,.slice none 0 0] 67)=W0 at *;refine HJ.out.mono ?_;rintro e w1 ⟨hb,⟨u2a,u2n,u2c⟩,⟨v2a,v2n,v2c⟩,l2,rfl,gi,gb,ai⟩;have hk:=af.out.below hb;obtain⟨W,aj,ah,hf⟩:=ZaN w1 (w.heap.size+1) _ _ hk ⟨u2a,u2n,u2c⟩ ⟨v2a,v2n,v2c⟩;have al:w.heap.size+1<W0.heap.size:=af.out.lt;have ac:=Zad HA.out hb;have HF:Hid (Told w T (bss l) (mk2 X) (.returned (mk2 X (lfV ⟨u2a,u2n,u2c⟩ ⟨v2a,v2n,v2c⟩))) W):=by
   refine⟨ac.trans (hf.below ac.size (fun k hk=>by rw [hk];omega)),_,_,l2,rfl,(gi.keep (Kept.frm hf (fun k h1 h2=>by rw [h2] at h1;omega))).wide (fun k h1=>Nat.le_trans HA.out.size h1),(gb.keep (Kept.frm hf (fun k h1 h2=>by rw [h2] at h1;omega))).wide (fun k h1=>Nat.le_trans HA.out.size h1),ai⟩
  have aa:=hide aj;have ak:=hide ah;clear hb gi gb ai hk aj ah hf al ac HJ;unfold mk2 lfV Sl.val;unfold lfV Sl.val at aa;simp only at aa ⊢;go_wp2_with (first | refine Zac _ rfl rfl 67 (.tmp 4) (.tmp 11) rfl (.pointer (some ⟨w.heap.size+1,0,none⟩)) (.agg #[.slice u2a u2n u2c,.slice v2a v2n v2c]) rfl rfl W aa.out ?_);refine bodyPost_ret (Zai (u:=⟨u2a,u2n,u2c⟩) (v:=⟨v2a,v2n,v2c⟩) rfl ak.out _ rfl rfl) rfl ?_;exact HF.out
theorem Zm6 (w:World)(u v:Sl):Calls Tryz.prog 55 #[lfV u v] w fun e w'=>e=.returned (.tuple #[lfV u v,.int .i64 0])∧Below w.heap.size w w':=by
 have ad:=Zaa w (.cells #[u.val,v.val] 67);have aa:=Zaa (w.alloc (.cells #[u.val,v.val] 67)) (.cells #[.slice none 0 0,.slice none 0 0] 67);have hA:=Zad ad aa;have ab:=(Zaj w u.val v.val).below aa;have ac:=Zaj (w.alloc (.cells #[u.val,v.val] 67)) (Sl.val Sl.nil) (Sl.val Sl.nil);rw [Zae] at ac;have k0:=ab.c0;have k1:=ab.c1;obtain⟨W,af,ae,hf⟩:=ZaN _ (w.heap.size+1) _ _ ac u v;have HF:Hid (Below w.heap.size w W):=hA.trans (hf.below hA.size (fun k hk=>by rw [hk];omega));have ah:=hide af;have ag:=hide ae;clear ad aa hA ab ac af ae hf;obtain⟨ua,un,uc⟩:=u;obtain⟨va,vn,vc⟩:=v;unfold lfV Sl.val Sl.nil at *;simp only at *;go_enter Tryz.func55,Tryz.ntmps55;go_wp2_with (first | refine Zac _ rfl rfl 67 (.tmp 2) (.tmp 4) rfl (.pointer (some ⟨w.heap.size+1,0,none⟩)) (.agg #[.slice ua un uc,.slice va vn vc]) rfl rfl W ah.out ?_);refine bodyPost_ret (Zai (u:=⟨ua,un,uc⟩) (v:=⟨va,vn,vc⟩) rfl ag.out _ rfl rfl) rfl ?_;exact⟨rfl,HF.out⟩
theorem ZgO : ∀ args w, (callFunc 103 args).run Tryz.prog w = .ok (.enter 103 args) w := Pl.enters Tryz.func103 (by kernel_rfl) (by kernel_rfl)
theorem Znm (w:World)(g p q:Nat)(u v:Sl)(t:List Int)(l:List Sb)(hk:LfBlk w g u.val v.val)(hu:Gi (Ap g) w u t)(hv:Gb (Ap g) w v l)(hm:MayL ⟨t,bss l⟩)(r:Rw)(ra:Option Addr)(rn rc:Nat)(hr:RwBlk w p r (.slice ra rn rc))(hpg:p≠g)(i0 kk:Int)(hb:BtBlk w q (i0,kk))(hqg:q≠g)(hfs:Fs w ra rn rc r.xs)(hrf:r.fits)(hrm:r.may=true)
    {Q:Exit→Act→World→Prop}(hsz:A.tmps.size=77)(hdf:A.defers=[])(sB:A.tmps.getD 14 undef=.pointer (some ⟨g,0,none⟩))(sQ:A.tmps.getD 5 undef=.pointer (some ⟨q,0,none⟩))(sP:A.tmps.getD 6 undef=.pointer (some ⟨p,0,none⟩))
    (hend:∀(q:Nat→Value)(u' v':Sl)(l':List Sb) w',LfBlk w' g u'.val v'.val→Gi (Np w g) w' u' t→Gb (Np w g) w' v' l'→bss l'=(setA (bss l) kk (hpB r)).s→Frm (fun k=>k=g) w w'→Q .normal ((((((((((A).put (some 65) (q 65)).put (some 66) (q 66)).put (some 67) (q 67)).put (some 64) (q 64)).put (some 68) (q 68)).put (some 69) (q 69)).put (some 63) (q 63)).put (some 70) (q 70)).put (some 71) (q 71)) w') :
    (Code.region 12 (Pl.find 12 ((Tryz.f53.body).getD .skip)) true).wp Tryz.prog Q A w:=by
  have hb0:Below w.heap.size w w.drew:=(Below.refl _ w).drew
  have hS0:RwBlk w.drew p r (.slice ra rn rc)∧BtBlk w.drew q (i0,kk):=⟨hr,hb⟩
  have hk0:LfBlk w.drew g u.val v.val:=hk
  have hgl:g<w.heap.size:=hk.lt
  have hA:=Pl.At.same (v:=.pointer (some ⟨p,0,none⟩)) (d:=6) (Pl.At.same (v:=.pointer (some ⟨q,0,none⟩)) (d:=5) (Pl.At.same (v:=.pointer (some ⟨g,0,none⟩)) (d:=14) (Pl.At.here hsz hdf) sB) sQ) sP
  refine Pl.qa (S:=fun w'=>RwBlk w' p r (.slice ra rn rc)∧BtBlk w' q (i0,kk)) hA hS0 ?_
  rw [show (Pl.find 12 ((Tryz.f53.body).getD .skip)).size=10 by kernel_rfl]
  refine Pl.q0 1 65 (.pointer (some ⟨q,1,none⟩)) (Pl.q1) (Pl.q5 26 (.tmp 5) 1 (Zmo q)) hS0 ?_
  refine Pl.q0 2 66 (.int .i64 kk) (Pl.q1) (Pl.q3 3 (.tmp 65) (fun w' hS=>Zbm hS.2.c1)) hS0 ?_
  refine Pl.q0 3 67 (r.val (.slice ra rn rc)) (Pl.q1) (Pl.q3 33 (.tmp 6) (fun w' hS=>Zbq p r (.slice ra rn rc) ⟨_,_,_,rfl⟩ w' hS.1)) hS0 ?_
  refine Pl.qr 0 4 ?_ ?_
  · refine Pl.qk 0 64 (lfV u v) w.drew (Pl.qs 67 (.tmp 14) (Za5 hk0.c0 hk0.c1)) hS0 ?_
    refine Pl.qp 4 ?_
    refine Pl.qm 4 68 51 [(.tmp 67)] #[33] Zeu (Calls.mono (ZbU r ra rn rc w.drew (hfs.keep hb0 (Nat.le_refl _)) hrf hrm) ?_)
    rintro e w5 ⟨hb5,s5,rfl,ho5,hl5,hn5⟩
    have hS5:RwBlk w5 p r (.slice ra rn rc)∧BtBlk w5 q (i0,kk):=⟨hS0.1.keep hb5,hS0.2.keep hb5⟩
    refine⟨s5.val,rfl,hS5,?_⟩
    have hB5:Below w.heap.size w w5:=Zad hb0 hb5
    have hk5:LfBlk w5 g u.val v.val:=hk0.below hb5
    have hcm:Cm (Ap g) w5 s5 (hpB r):=Zhu _ ho5 (ZaK hrm) (fun k e e2=>by have:=hn5 k e;rw [e2] at this;exact absurd hgl (Nat.not_lt.2 this))
    refine Pl.qp 5 ?_
    refine Pl.qm 5 69 103 [(.tmp 64),(.tmp 66),(.tmp 68)] #[67,3,56] ZgO (Calls.mono (ZlJ w5 u v t l (hu.below hB5 (Nat.le_refl _)) (hv.below hB5 (Nat.le_refl _)) hm kk ⟨s5,hpB r⟩ hcm) ?_)
    rintro e w6 ⟨hb6,u6,v6,l6,rfl,hgi6,hgb6,hl6⟩
    have hS6:RwBlk w6 p r (.slice ra rn rc)∧BtBlk w6 q (i0,kk):=⟨hS5.1.keep hb6,hS5.2.keep hb6⟩
    have hk6:LfBlk w6 g u.val v.val:=hk5.below hb6
    refine⟨.tuple #[lfV u6 v6,.int .i64 (setA (bss l) kk (hpB r)).e],rfl,hS6,?_⟩
    refine Pl.q0 6 63 (.tuple #[lfV u6 v6,.int .i64 (setA (bss l) kk (hpB r)).e]) (Pl.q1) (Pl.q2 (.tmp 69)) hS6 ?_
    refine Pl.q0 7 70 (lfV u6 v6) (Pl.q1) (Pl.qc (.tmp 63) 0 (fun w=>(ex2 _ _ w).1)) hS6 ?_
    refine Pl.q0 8 71 (.int .i64 (setA (bss l) kk (hpB r)).e) (Pl.q1) (Pl.qc (.tmp 63) 1 (fun w=>(ex2 _ _ w).2)) hS6 ?_
    obtain⟨w9,hst9,hk9,hf9⟩:=ZaN w6 g _ _ hk6 u6 v6
    have hS9:RwBlk w9 p r (.slice ra rn rc)∧BtBlk w9 q (i0,kk):=⟨(hf9.block p (Array.getElem?_eq_some_iff.1 hS6.1).1 hpg).trans hS6.1,(hf9.block q hS6.2.lt hqg).trans hS6.2⟩
    refine Pl.qh 9 w9 (Pl.q1) (Pl.qi 67 (.tmp 14) (.tmp 70) hst9) hS9 ?_
    have hnw:∀k,w5.heap.size≤k→k<w6.heap.size→Np w g k:=fun k hk _=>⟨Nat.le_trans hB5.size hk,fun e=>by rw [e] at hk;exact absurd (Nat.lt_of_lt_of_le hgl hB5.size) (Nat.not_lt.2 hk)⟩
    have hgi9:=(hgi6.mono hnw).keep (Kept.frm hf9 (fun _ h e=>h.2 e))
    have hgb9:=(hgb6.mono hnw).keep (Kept.frm hf9 (fun _ h e=>h.2 e))
    have hF:Frm (fun k=>k=g) w w9:=by
     have f0:Frm (fun k=>k=g) w w.drew:=(Frm.refl _ w).drew
     have f1:Frm (fun k=>k=g) w.drew w6:=Frm.ofBelow (Zad hb5 hb6)
     exact(f0.trans f1 (fun _ _ e=>e)).trans hf9 (fun _ _ e=>e)
    refine Pl.q7 (fun A' hA'=>?_)
    rw [Pl.At.ext hA' (((((((((hA.put 65 _).put 66 _).put 67 _).put 64 _).put 68 _).put 69 _).put 63 _).put 70 _).put 71 _)]
    exact hend hA'.fn u6 v6 l6 w9 hk9 hgi9 hgb9 hl6 hF
  · refine Pl.qm 4 68 51 [(.tmp 67)] #[33] Zeu (Calls.mono (ZbU r ra rn rc w.drew (hfs.keep hb0 (Nat.le_refl _)) hrf hrm) ?_)
    rintro e w5 ⟨hb5,s5,rfl,ho5,hl5,hn5⟩
    have hS5:RwBlk w5 p r (.slice ra rn rc)∧BtBlk w5 q (i0,kk):=⟨hS0.1.keep hb5,hS0.2.keep hb5⟩
    have hk5a:LfBlk w5 g u.val v.val:=hk0.below hb5
    refine⟨s5.val,rfl,hS5,?_⟩
    refine Pl.qp 0 ?_
    refine Pl.qk 0 64 (lfV u v) w5 (Pl.qs 67 (.tmp 14) (Za5 hk5a.c0 hk5a.c1)) hS5 ?_
    rw [Pl.qg 68 64]
    have hB5:Below w.heap.size w w5:=Zad hb0 hb5
    have hk5:LfBlk w5 g u.val v.val:=hk0.below hb5
    have hcm:Cm (Ap g) w5 s5 (hpB r):=Zhu _ ho5 (ZaK hrm) (fun k e e2=>by have:=hn5 k e;rw [e2] at this;exact absurd hgl (Nat.not_lt.2 this))
    refine Pl.qp 5 ?_
    refine Pl.qm 5 69 103 [(.tmp 64),(.tmp 66),(.tmp 68)] #[67,3,56] ZgO (Calls.mono (ZlJ w5 u v t l (hu.below hB5 (Nat.le_refl _)) (hv.below hB5 (Nat.le_refl _)) hm kk ⟨s5,hpB r⟩ hcm) ?_)
    rintro e w6 ⟨hb6,u6,v6,l6,rfl,hgi6,hgb6,hl6⟩
    have hS6:RwBlk w6 p r (.slice ra rn rc)∧BtBlk w6 q (i0,kk):=⟨hS5.1.keep hb6,hS5.2.keep hb6⟩
    have hk6:LfBlk w6 g u.val v.val:=hk5.below hb6
    refine⟨.tuple #[lfV u6 v6,.int .i64 (setA (bss l) kk (hpB r)).e],rfl,hS6,?_⟩
    refine Pl.q0 6 63 (.tuple #[lfV u6 v6,.int .i64 (setA (bss l) kk (hpB r)).e]) (Pl.q1) (Pl.q2 (.tmp 69)) hS6 ?_
    refine Pl.q0 7 70 (lfV u6 v6) (Pl.q1) (Pl.qc (.tmp 63) 0 (fun w=>(ex2 _ _ w).1)) hS6 ?_
    refine Pl.q0 8 71 (.int .i64 (setA (bss l) kk (hpB r)).e) (Pl.q1) (Pl.qc (.tmp 63) 1 (fun w=>(ex2 _ _ w).2)) hS6 ?_
    obtain⟨w9,hst9,hk9,hf9⟩:=ZaN w6 g _ _ hk6 u6 v6
    have hS9:RwBlk w9 p r (.slice ra rn rc)∧BtBlk w9 q (i0,kk):=⟨(hf9.block p (Array.getElem?_eq_some_iff.1 hS6.1).1 hpg).trans hS6.1,(hf9.block q hS6.2.lt hqg).trans hS6.2⟩
    refine Pl.qh 9 w9 (Pl.q1) (Pl.qi 67 (.tmp 14) (.tmp 70) hst9) hS9 ?_
    have hnw:∀k,w5.heap.size≤k→k<w6.heap.size→Np w g k:=fun k hk _=>⟨Nat.le_trans hB5.size hk,fun e=>by rw [e] at hk;exact absurd (Nat.lt_of_lt_of_le hgl hB5.size) (Nat.not_lt.2 hk)⟩
    have hgi9:=(hgi6.mono hnw).keep (Kept.frm hf9 (fun _ h e=>h.2 e))
    have hgb9:=(hgb6.mono hnw).keep (Kept.frm hf9 (fun _ h e=>h.2 e))
    have hF:Frm (fun k=>k=g) w w9:=by
     have f0:Frm (fun k=>k=g) w w.drew:=(Frm.refl _ w).drew
     have f1:Frm (fun k=>k=g) w.drew w6:=Frm.ofBelow (Zad hb5 hb6)
     exact(f0.trans f1 (fun _ _ e=>e)).trans hf9 (fun _ _ e=>e)
    refine Pl.q7 (fun A' hA'=>?_)
    rw [Pl.At.ext hA' (((((((((hA.put 65 _).put 66 _).put 67 _).put 64 _).put 68 _).put 69 _).put 63 _).put 70 _).put 71 _)]
    exact hend hA'.fn u6 v6 l6 w9 hk9 hgi9 hgb9 hl6 hF
end Go.Proofs.YtdojdcncncgncaaGreat
