/-
  Lemmas.
-/
import Derived.Test.YtiecfcjlhldhdaaGreatKebk
import Derived.Test.YtiecfcjlhldhdaaGreatKebd
import Derived.Test.YtiecfcjlhldhdaaGreatKebi
import Derived.Test.YtiecfcjlhldhdaaGreatKean
import Derived.Test.YtiecfcjlhldhdaaGreatKebe
namespace Go.Proofs.YtiecfcjlhldhdaaGreat
open Go.RowKit
set_option linter.unusedVariables false
set_option linter.unusedSimpArgs false
set_option maxRecDepth 100000
set_option maxHeartbeats 4000000
variable {u:List Un}
theorem Zl0:∀args w,(callFunc 9 args).run Tryz.prog w=.ok (.enter 9 args) w:=Pl.qi Tryz.func9
theorem Zoz (w0 w:World)(g k b off len c i:Nat)(z:Bz)(v:Vw)(s:Sl)(x:Rx)(o:Option Rw × List Int × Int)(hg:BsBlk w0 g z)(hk:ZaR w0 k v s)(hi:i<len)(hx:RwAt w0 b (off+i*6) x)(an:∀W,Below w0.heap.size w0 W→Calls Tryz.prog 9 #[z.val,vwV v s,.float .f64 x.r.key] W (TolE w0 W o))(hW:Below w0.heap.size w0 w)
    {Q:Exit→Act→World→Prop}{A:Act}(aq:A.tmps.size=114)(ap:A.defers=[])(s3:A.tmps.getD 3 undef=.pointer (some ⟨g,0,none⟩))(s4:A.tmps.getD 4 undef=.pointer (some ⟨k,0,none⟩))(s12:A.tmps.getD 12 undef=.slice (some ⟨b,off,none⟩) len c)(s13:A.tmps.getD 13 undef=.int .i64 (i:Int))
    (hend:∀(u:Nat→Value)(y:Rx) w',(∃g2,u 14=.pointer (some ⟨g2,0,none⟩)∧RwBlk w' g2 y.r (.slice y.a y.n y.c))→y.r=o.1.getD zeroR→ColR w0 w' y→Below w0.heap.size w0 w'→Q .normal ((((Pl.pu A u [63,64,65,66,67,68,69,70,62,71,72,73,74,14]).put (some 15) (.bool o.1.isSome)).put (some 16) (u 16)).put (some 17) (.int .i64 o.2.2)) w') :
    (Code.region 10 (Pl.find 10 ((Tryz.f5.body).getD .skip)) true).wp Tryz.prog Q A w:=by
  have ab:Below w0.heap.size w0 w.drew:=hW.drew;have hA:=Pl.At.same (v:=.int .i64 (i:Int)) (d:=13) (Pl.At.same (v:=.slice (some ⟨b,off,none⟩) len c) (d:=12) (Pl.At.same (v:=.pointer (some ⟨k,0,none⟩)) (d:=4) (Pl.At.same (v:=.pointer (some ⟨g,0,none⟩)) (d:=3) (Pl.At.here aq ap) s3) s4) s12) s13;refine Pl.qa (S:=fun w'=>Below w0.heap.size w0 w') hA ab ?_;rw [show (Pl.find 10 ((Tryz.f5.body).getD .skip)).size=18 by kernel_rfl];refine Pl.q0 0 63 (z.val) (Pl.q1) (Pl.q4 28 (.tmp 3) (fun w' hS=>Zgn (hg.keep hS))) ab ?_;refine Pl.q0 1 64 (vwV v s) (Pl.q1) (Pl.q4 31 (.tmp 4) (fun w' hS=>Zpj (hk.keep hS))) ab ?_;refine Pl.q0 2 65 (.slice (some ⟨b,off,none⟩) len c) (Pl.q1) (Pl.q2 (.tmp 12)) ab ?_;refine Pl.q0 3 66 (.int .i64 (i:Int)) (Pl.q1) (Pl.q2 (.tmp 13)) ab ?_;refine Pl.q0 4 67 (.pointer (some ⟨b,off+i*6,none⟩)) (Pl.q1) (Pl.qb 49 (.tmp 65) (.tmp 66) (ZaW b off len c i hi)) ab ?_;refine Pl.q0 5 68 (.pointer (some ⟨b,off+i*6,none⟩)) (Pl.q1) (Pl.q5 39 (.tmp 67) 0 (Zl1 b (off+i*6))) ab ?_;refine Pl.q0 6 69 (.float .f64 x.r.key) (Pl.q1) (Pl.q4 32 (.tmp 68) (fun w' hS=>Zcd (hx.keep hS (Nat.le_refl _)).c0)) ab ?_;refine Pl.qs 7 13 ?_ ?_
  · refine Pl.qz 7 70 9 [(.tmp 63),(.tmp 64),(.tmp 69)] #[28,31,32] Zl0 (Calls.mono (an w.drew ab) ?_);rintro e w6 ⟨ah,y,q,rfl,am,al⟩;have aa:Below w0.heap.size w0 w6:=Zac ab ah;refine⟨.tuple #[y.val,.bool o.1.isSome,q.val,.int .i64 o.2.2],rfl,aa,?_⟩;refine Pl.q0 8 62 (.tuple #[y.val,.bool o.1.isSome,q.val,.int .i64 o.2.2]) (Pl.q1) (Pl.q2 (.tmp 70)) aa ?_;refine Pl.q0 9 71 (y.val) (Pl.q1) (Pl.qf (.tmp 62) 0 (fun w=>(ex4 _ _ _ _ w).1)) aa ?_;refine Pl.q0 10 72 (.bool o.1.isSome) (Pl.q1) (Pl.qf (.tmp 62) 1 (fun w=>(ex4 _ _ _ _ w).2.1)) aa ?_;refine Pl.q0 11 73 (q.val) (Pl.q1) (Pl.qf (.tmp 62) 2 (fun w=>(ex4 _ _ _ _ w).2.2.1)) aa ?_;refine Pl.q0 12 74 (.int .i64 o.2.2) (Pl.q1) (Pl.qf (.tmp 62) 3 (fun w=>(ex4 _ _ _ _ w).2.2.2)) aa ?_;have ad:Below w0.heap.size w0 (w6.alloc (.cells #[.float .f64 0,.bool false,.slice none 0 0,.int .i64 0,.int .i64 0,.int .i64 0] 39)):=aa.alloc aa.size _;have ae:RwBlk (w6.alloc (.cells #[.float .f64 0,.bool false,.slice none 0 0,.int .i64 0,.int .i64 0,.int .i64 0] 39)) w6.heap.size zeroR (.slice none 0 0):=Zai w6 zeroR (.slice none 0 0);have ag:w0.heap.size≤w6.heap.size:=aa.size;have ao:=al.keep (Zaa w6 (.cells #[.float .f64 0,.bool false,.slice none 0 0,.int .i64 0,.int .i64 0,.int .i64 0] 39));refine Pl.qh 13 14 (.pointer (some ⟨w6.heap.size,0,none⟩)) (w6.alloc (.cells #[.float .f64 0,.bool false,.slice none 0 0,.int .i64 0,.int .i64 0,.int .i64 0] 39)) (Pl.q1) (Pl.qw 39 (ZiS w6)) ad ?_;have af:=ZaQ ((w6.alloc (.cells #[.float .f64 0,.bool false,.slice none 0 0,.int .i64 0,.int .i64 0,.int .i64 0] 39))) (w6.heap.size) y.r (.slice y.a y.n y.c);have ac:Below w0.heap.size w0 (setRw ((w6.alloc (.cells #[.float .f64 0,.bool false,.slice none 0 0,.int .i64 0,.int .i64 0,.int .i64 0] 39))) (w6.heap.size) y.r (.slice y.a y.n y.c)):=ad.trans (af.below ad.size (fun k hk=>by rw [hk];exact ag));have aj:ColR w0 (setRw ((w6.alloc (.cells #[.float .f64 0,.bool false,.slice none 0 0,.int .i64 0,.int .i64 0,.int .i64 0] 39))) (w6.heap.size) y.r (.slice y.a y.n y.c)) y:=ao.frm af (fun k hk=>by rw [hk];exact ⟨ag,_,_,ae,by decide⟩);have ak:=ZaI ae y.r (.slice y.a y.n y.c);refine Pl.qj 14 (setRw ((w6.alloc (.cells #[.float .f64 0,.bool false,.slice none 0 0,.int .i64 0,.int .i64 0,.int .i64 0] 39))) (w6.heap.size) y.r (.slice y.a y.n y.c)) (Pl.q1) (Pl.qk 39 (.tmp 14) (.tmp 71) (Zfi ((w6.alloc (.cells #[.float .f64 0,.bool false,.slice none 0 0,.int .i64 0,.int .i64 0,.int .i64 0] 39))) (w6.heap.size) _ _ ae y.r y.a y.n y.c)) ac ?_;refine Pl.q0 15 15 (.bool o.1.isSome) (Pl.q1) (Pl.qe (.tmp 72)) ac ?_;refine Pl.q0 16 16 (q.val) (Pl.q1) (Pl.qe (.tmp 73)) ac ?_;refine Pl.q0 17 17 (.int .i64 o.2.2) (Pl.q1) (Pl.qe (.tmp 74)) ac ?_;refine Pl.q8 (fun A' hA'=>?_);rw [Pl.At.ext hA' (((((((((((((((((hA.put 63 _).put 64 _).put 65 _).put 66 _).put 67 _).put 68 _).put 69 _).put 70 _).put 62 _).put 71 _).put 72 _).put 73 _).put 74 _).put 14 _).put 15 _).put 16 _).put 17 _)];exact hend hA'.fn y _ ⟨_,rfl,ak⟩ am aj ac
  · have ad:Below w0.heap.size w0 (w.drew.alloc (.cells #[.float .f64 0,.bool false,.slice none 0 0,.int .i64 0,.int .i64 0,.int .i64 0] 39)):=ab.alloc ab.size _;have ae:RwBlk (w.drew.alloc (.cells #[.float .f64 0,.bool false,.slice none 0 0,.int .i64 0,.int .i64 0,.int .i64 0] 39)) w.drew.heap.size zeroR (.slice none 0 0):=Zai w.drew zeroR (.slice none 0 0);have ag:w0.heap.size≤w.drew.heap.size:=ab.size;refine Pl.qm 13 14 (.pointer (some ⟨w.drew.heap.size,0,none⟩)) (w.drew.alloc (.cells #[.float .f64 0,.bool false,.slice none 0 0,.int .i64 0,.int .i64 0,.int .i64 0] 39)) (Pl.qw 39 (ZiS w.drew)) ad ?_;refine Pl.qd 7 70 9 [(.tmp 63),(.tmp 64),(.tmp 69)] #[28,31,32] (Pl.q1) Zl0 (Calls.mono (an ((w.drew.alloc (.cells #[.float .f64 0,.bool false,.slice none 0 0,.int .i64 0,.int .i64 0,.int .i64 0] 39))) ad) ?_);rintro e w6 ⟨ah,y,q,rfl,am,al⟩;have aa:Below w0.heap.size w0 w6:=Zac ad ah;have ai:=ae.keep ah;refine⟨.tuple #[y.val,.bool o.1.isSome,q.val,.int .i64 o.2.2],rfl,aa,?_⟩;rw [Pl.qg 14 70];refine Pl.q0 8 62 (.tuple #[y.val,.bool o.1.isSome,q.val,.int .i64 o.2.2]) (Pl.q1) (Pl.q2 (.tmp 70)) aa ?_;rw [Pl.qg 14 62];refine Pl.q0 9 71 (y.val) (Pl.q1) (Pl.qf (.tmp 62) 0 (fun w=>(ex4 _ _ _ _ w).1)) aa ?_;rw [Pl.qg 14 71];refine Pl.q0 10 72 (.bool o.1.isSome) (Pl.q1) (Pl.qf (.tmp 62) 1 (fun w=>(ex4 _ _ _ _ w).2.1)) aa ?_;rw [Pl.qg 14 72];refine Pl.q0 11 73 (q.val) (Pl.q1) (Pl.qf (.tmp 62) 2 (fun w=>(ex4 _ _ _ _ w).2.2.1)) aa ?_;rw [Pl.qg 14 73];refine Pl.q0 12 74 (.int .i64 o.2.2) (Pl.q1) (Pl.qf (.tmp 62) 3 (fun w=>(ex4 _ _ _ _ w).2.2.2)) aa ?_;rw [Pl.qg 14 74];have af:=ZaQ w6 (w.drew.heap.size) y.r (.slice y.a y.n y.c);have ac:Below w0.heap.size w0 (setRw w6 (w.drew.heap.size) y.r (.slice y.a y.n y.c)):=aa.trans (af.below aa.size (fun k hk=>by rw [hk];exact ag));have aj:ColR w0 (setRw w6 (w.drew.heap.size) y.r (.slice y.a y.n y.c)) y:=al.frm af (fun k hk=>by rw [hk];exact ⟨ag,_,_,ai,by decide⟩);have ak:=ZaI ai y.r (.slice y.a y.n y.c);refine Pl.qj 14 (setRw w6 (w.drew.heap.size) y.r (.slice y.a y.n y.c)) (Pl.q1) (Pl.qk 39 (.tmp 14) (.tmp 71) (Zfi w6 (w.drew.heap.size) _ _ ai y.r y.a y.n y.c)) ac ?_;refine Pl.q0 15 15 (.bool o.1.isSome) (Pl.q1) (Pl.qe (.tmp 72)) ac ?_;refine Pl.q0 16 16 (q.val) (Pl.q1) (Pl.qe (.tmp 73)) ac ?_;refine Pl.q0 17 17 (.int .i64 o.2.2) (Pl.q1) (Pl.qe (.tmp 74)) ac ?_;refine Pl.q8 (fun A' hA'=>?_);rw [Pl.At.ext hA' (((((((((((((((((hA.put 63 _).put 64 _).put 65 _).put 66 _).put 67 _).put 68 _).put 69 _).put 70 _).put 62 _).put 71 _).put 72 _).put 73 _).put 74 _).put 14 _).put 15 _).put 16 _).put 17 _)];exact hend hA'.fn y _ ⟨_,rfl,ak⟩ am aj ac
theorem ZpV (w:World)(b off len c a g:Nat)(ha:a<len)(x y:Rx)(hx:RwAt w b (off+a*6) x)(hy:RwBlk w g y.r (.slice y.a y.n y.c))(ah:x.r=y.r)(ae:Fs w x.a x.n x.c x.r.xs)(af:Fs w y.a y.n y.c y.r.xs)
    {Q:Exit→Act→World→Prop}{A:Act}(ag:A.tmps.size=114)(ad:A.defers=[])(s7:A.tmps.getD 7 undef=.slice (some ⟨b,off,none⟩) len c)(s10:A.tmps.getD 10 undef=.int .i64 (a:Int))(s14:A.tmps.getD 14 undef=.pointer (some ⟨g,0,none⟩))
    (hend:∀(u:Nat→Value) w',Below w.heap.size w w'→Q .normal ((Pl.pu A u [86,87,88,89,90,91,92,93,94,95,96,97]).put (some 98) (.bool false)) w') :
    (Code.region 13 (Pl.find 13 ((Tryz.f5.body).getD .skip)) true).wp Tryz.prog Q A w:=by
  have aa:Below w.heap.size w w.drew:=Zab w;have hA:=Pl.At.same (v:=.pointer (some ⟨g,0,none⟩)) (d:=14) (Pl.At.same (v:=.int .i64 (a:Int)) (d:=10) (Pl.At.same (v:=.slice (some ⟨b,off,none⟩) len c) (d:=7) (Pl.At.here ag ad) s7) s10) s14;refine Pl.qa (S:=fun w'=>Below w.heap.size w w') hA aa ?_;rw [show (Pl.find 13 ((Tryz.f5.body).getD .skip)).size=13 by kernel_rfl];refine Pl.q0 0 86 (.int .i64 (a:Int)) (Pl.q1) (Pl.q2 (.tmp 10)) aa ?_;refine Pl.q0 1 87 (.slice (some ⟨b,off,none⟩) len c) (Pl.q1) (Pl.q2 (.tmp 7)) aa ?_;refine Pl.q0 2 88 (.int .i64 (len:Int)) (Pl.q1) (Pl.qr 49 (.tmp 87) (fun _ _=>rfl)) aa ?_;refine Pl.q0 3 89 (.bool false) (Pl.q1) (Pl.qc .geq 3 3 (.tmp 86) (.tmp 88) (.int .i64 (a:Int)) (.int .i64 (len:Int)) (fun w=>geqF (a:Int) (len:Int) _ _ (by omega) w)) aa ?_;refine Pl.q0 4 90 (.bool false) (Pl.q1) (Pl.q2 (.tmp 89)) aa ?_;refine Pl.q0 5 91 (.slice (some ⟨b,off,none⟩) len c) (Pl.q3 4 90 false) (Pl.q2 (.tmp 7)) aa ?_;refine Pl.q0 6 92 (.int .i64 (a:Int)) (Pl.q3 4 90 false) (Pl.q2 (.tmp 10)) aa ?_;refine Pl.q0 7 93 (.pointer (some ⟨b,off+a*6,none⟩)) (Pl.q3 4 90 false) (Pl.qb 49 (.tmp 91) (.tmp 92) (ZaW b off len c a ha)) aa ?_;refine Pl.q0 8 94 (x.val) (Pl.q3 4 90 false) (Pl.q4 39 (.tmp 93) (fun w' hS=>ZbD b (off+a*6) x w' (hx.keep hS (Nat.le_refl _)))) aa ?_;refine Pl.q0 9 95 (y.val) (Pl.q3 4 90 false) (Pl.q4 39 (.tmp 14) (fun w' hS=>Zb3 g y.r (.slice y.a y.n y.c) ⟨_,_,_,rfl⟩ w' (hy.keep hS))) aa ?_;refine Pl.qd 10 96 13 [(.tmp 94),(.tmp 95)] #[39,39] (Pl.q3 4 90 false) Znv (Calls.mono (ZkQ ah w.drew (ae.keep aa (Nat.le_refl _)) (af.keep aa (Nat.le_refl _))) ?_);rintro e w1 ⟨rfl,ac⟩;have ab:Below w.heap.size w w1:=Zac aa ac;refine⟨.bool true,rfl,ab,?_⟩;refine Pl.q0 11 97 (.bool false) (Pl.q3 4 90 false) (Pl.qt 4 (.tmp 96) true) ab ?_;refine Pl.q0 12 98 (.bool false) (Pl.q1) (Pl.ql (.tmp 90) (.const (.bool true)) (.tmp 97)) ab ?_;refine Pl.q8 (fun A' hA'=>?_);rw [Pl.At.ext hA' (((((((((((((hA.put 86 _).put 87 _).put 88 _).put 89 _).put 90 _).put 91 _).put 92 _).put 93 _).put 94 _).put 95 _).put 96 _).put 97 _).put 98 _)];exact hend hA'.fn _ ab
structure Ea (w wr:World) (z:Bz) (v:Vw) (s:Sl) (lo hi:Nat) (so:Sl) (X:List Rx) (rs:Sl) (R:List Rx):Prop where
  l:Lx17 w wr z v s lo hi
  so:RzS wr so X
  rs:ZaA wr rs R
theorem Ea.keep {w wr w':World}{z:Bz}{v:Vw}{s:Sl}{lo hi:Nat}{so:Sl}{X:List Rx}{rs:Sl}{R:List Rx}(h:Ea w wr z v s lo hi so X rs R)(hb:Below wr.heap.size wr w'):Ea w w' z v s lo hi so X rs R:=⟨h.l.keep hb,h.so.keep hb,h.rs.keep hb⟩
theorem Vn.rows_at {α:Type}(V:Vn α)(l:List α){i:Nat}(hi:i<l.length){q:α}(h:(V.look 400 l[i]).1=some q)(d:α):(V.rows (l.take i)).length<(V.rows l).length∧(V.rows l).getD (V.rows (l.take i)).length d=q:=by
 have e1:V.rows l=V.rows (l.take (i+1)) ++ V.rows (l.drop (i+1)):=by
  show _=List.filterMap _ _ ++ List.filterMap _ _;rw [← List.filterMap_append,List.take_append_drop];rfl
 rw [V.rows_take hi,h] at e1;rw [e1];simp [List.getD]
theorem Vn.code_each {α:Type}(V:Vn α)(l:List α)(h:V.code l=0){r:α}(hr:r∈l):(V.look 400 r).2.2=0:=by
 rcases V.look_code 400 r with e | e
 · exact e
 · have:=(V.code_old l).2 ⟨r,hr,e⟩;rw [h] at this;cases this
theorem ZpK (HS:ZfP True)(w:World)(z:Bz)(h:BIn w z)(v:Vw)(s:Sl)(hv:InI w s v.act)(lo hi:Nat)(hlo:lo<18446744073709551616)(hhi:hi<18446744073709551616) :
    Calls Tryz.prog 5 #[z.val,vwV v s,.agg #[.float .f64 lo,.float .f64 hi]] w fun e w'=>e=.returned (.bool true)∧Below w.heap.size w w':=by
  obtain⟨Wa,Wb,W0,ha,hb,hc,hbs,hvw,ha2,hA⟩:=ZiG w z v s lo hi
  have HWA:=hide ha
  have HWB:=hide hb
  have HWC:=hide hc
  have HBS:=hide hbs
  have HVW:=hide hvw
  have HA2:=hide ha2
  have HA:=hide hA
  have HLT:=hide (Zkt W0 z (h.keep hA))
  have HVI:=hide (hv.keep hA)
  have HH:=hide HS
  have HAW:=hide (fun W=>ZjG HS W)
  have hsb:s.len≤9223372036854775807:=hv.big
  clear h hv HS ha hb hc hbs hvw ha2 hA
  obtain⟨sa,sn,sc⟩:=s
  obtain⟨vs,vn,vt⟩:=v
  have k0:=HBS.out.c0
  have k1:=HBS.out.c1
  have k2:=HBS.out.c2
  have k3:=HBS.out.c3
  have k4:=HBS.out.c4
  have k5:=HBS.out.c5
  unfold Bz.val at HLT
  unfold vwV Bz.val
  simp only [Sl.val] at *
  go_enter Tryz.func5,Tryz.ntmps5
  go_wp2_with fail
  rw [HWA.out,HWB.out,HWC.out]
  clear HWA HWB HWC
  refine HLT.out.mono ?_
  rintro e w1 ⟨hl | ⟨hbin,hfew,hl⟩,hb1⟩
  · subst hl
    have HB1:=hide (Zac HA.out hb1)
    clear hb1 HLT
    go_wp2_with fail
    refine(HAW.out _).mono ?_
    rintro e w90 ⟨rfl,hb90⟩
    have HF:=hide (Zac HB1.out hb90)
    clear hb90
    go_wp2_with fail
    go_ret
    exact⟨rfl,HF.out⟩
  · subst hl
    clear HLT k0 k1 k2 k3 k4 k5
    by_cases hs100:sn≤100
    · have i1:¬(100:Int)<(sn:Int):=by omega
      have HL1:Hid (Lx17 w w1 z ⟨vs,vn,vt⟩ ⟨sa,sn,sc⟩ lo hi):=⟨⟨HBS.out.keep hb1,HVW.out.keep hb1,hbin.keep hb1,(HVI.out.gi (by show sn≤_;omega)).below hb1 (Nat.le_refl _),Zac HA.out hb1⟩,HA2.out.keep hb1⟩
      clear hbin hb1 HBS HVW HVI HA HA2
      have k0:=HL1.out.l.bs.c0
      have k1:=HL1.out.l.bs.c1
      have k2:=HL1.out.l.bs.c2
      have k3:=HL1.out.l.bs.c3
      have k4:=HL1.out.l.bs.c4
      have k5:=HL1.out.l.bs.c5
      have g0:=HL1.out.l.vw.c0
      have g1:=HL1.out.l.vw.c1
      have g2:=HL1.out.l.vw.c2
      simp only [Sl.val] at k0 k1 k2 k3 k4 k5 g0 g1 g2
      have d0:=HL1.out.a2.c0
      have d1:=HL1.out.a2.c1
      by_cases hmb:MayBs z.b
      · have HMY:Hid (Calls Tryz.prog 11 #[z.val] w1 fun e w'=>e=.returned (.bool true)∧Below w1.heap.size w1 w'):=(Zh3 w1 z HL1.out.l.bin).mono (fun e w' h=>⟨Zq4 hmb h.1,h.2⟩)
        unfold Bz.val at HMY
        have HMB:=hide hmb
        clear hmb
        go_wp2_with fail
        refine HMY.out.mono ?_
        rintro e w2 ⟨rfl,hb2⟩
        have HL2:=hide (HL1.out.keep hb2)
        clear hb2 HL1 k0 k1 k2 k3 k4 k5 g0 g1 g2 d0 d1 HMY
        have k0:=HL2.out.l.bs.c0
        have k1:=HL2.out.l.bs.c1
        have k2:=HL2.out.l.bs.c2
        have k3:=HL2.out.l.bs.c3
        have k4:=HL2.out.l.bs.c4
        have k5:=HL2.out.l.bs.c5
        have g0:=HL2.out.l.vw.c0
        have g1:=HL2.out.l.vw.c1
        have g2:=HL2.out.l.vw.c2
        simp only [Sl.val] at k0 k1 k2 k3 k4 k5 g0 g1 g2
        have d0:=HL2.out.a2.c0
        have d1:=HL2.out.a2.c1
        have HMYV:Hid (Calls Tryz.prog 12 #[vwV ⟨vs,vn,vt⟩ ⟨sa,sn,sc⟩] w2 fun e w'=>e=.returned (.bool (decide (MayV ⟨vs,vn,vt⟩)))∧Below w2.heap.size w2 w'):=Zm1 w2 ⟨sa,sn,sc⟩ ⟨vs,vn,vt⟩ HL2.out.l.gi
        unfold vwV at HMYV
        simp only [Sl.val] at HMYV
        by_cases hmv:MayV ⟨vs,vn,vt⟩
        · rw [decide_eq_true hmv] at HMYV
          have HMV:=hide hmv
          clear hmv
          go_wp2_with fail
          refine HMYV.out.mono ?_
          rintro e w3 ⟨rfl,hb3⟩
          have HL3:=hide (HL2.out.keep hb3)
          clear hb3 HL2 k0 k1 k2 k3 k4 k5 g0 g1 g2 d0 d1 HMYV
          have k0:=HL3.out.l.bs.c0
          have k1:=HL3.out.l.bs.c1
          have k2:=HL3.out.l.bs.c2
          have k3:=HL3.out.l.bs.c3
          have k4:=HL3.out.l.bs.c4
          have k5:=HL3.out.l.bs.c5
          have g0:=HL3.out.l.vw.c0
          have g1:=HL3.out.l.vw.c1
          have g2:=HL3.out.l.vw.c2
          simp only [Sl.val] at k0 k1 k2 k3 k4 k5 g0 g1 g2
          have d0:=HL3.out.a2.c0
          have d1:=HL3.out.a2.c1
          have HRD:=hide (HH.out.scan trivial w3 z ⟨vs,vn,vt⟩ ⟨sa,sn,sc⟩ lo hi HL3.out.l.bin hfew HL3.out.l.gi (by show sn≤200;omega) hlo hhi HMB.out HMV.out)
          obtain⟨o,ho⟩:∃o,o=scanB (uns z.ux) (lfs z.lb) ⟨vs,vn,vt⟩ lo hi:=⟨_,rfl⟩
          simp only [← ho] at HRD
          have HO:=hide ho
          unfold vwV Bz.val at HRD
          simp only [Sl.val] at HRD
          have hlo':=hide hlo
          have hhi':=hide hhi
          clear ho hlo hhi
          go_wp2_with fail
          refine HRD.out.mono ?_
          rintro e w4 ⟨hb4,⟨oa,on,oc⟩,⟨qa,qn,qc⟩,X,rfl,hrz,hxe,hyq⟩
          have HRZ:=hide hrz
          have HXE:=hide hxe
          simp only [Sl.val]
          clear hrz hxe hyq HRD
          have HL4:=hide (HL3.out.keep hb4)
          clear hb4 HL3 k0 k1 k2 k3 k4 k5 g0 g1 g2 d0 d1
          have k0:=HL4.out.l.bs.c0
          have k1:=HL4.out.l.bs.c1
          have k2:=HL4.out.l.bs.c2
          have k3:=HL4.out.l.bs.c3
          have k4:=HL4.out.l.bs.c4
          have k5:=HL4.out.l.bs.c5
          have g0:=HL4.out.l.vw.c0
          have g1:=HL4.out.l.vw.c1
          have g2:=HL4.out.l.vw.c2
          simp only [Sl.val] at k0 k1 k2 k3 k4 k5 g0 g1 g2
          have d0:=HL4.out.a2.c0
          have d1:=HL4.out.a2.c1
          have HRO:=hide (ZkP w4 z.ls z.lb HL4.out.l.bin.ls lo hi hlo'.out hhi'.out)
          unfold Sl.val at HRO
          obtain⟨eo,heo⟩:∃eo,eo=o.2.2:=⟨_,rfl⟩
          rw [← heo]
          have HEO:=hide heo
          clear heo
          go_wp2_with fail
          refine HRO.out.mono ?_
          rintro e w5 ⟨hb5,⟨ra,rn,rc⟩,R,rfl,hRI,hRR⟩
          simp only
          have HRR:=hide hRR
          have hrl:rn=(rws R).length:=by rw [ZaX];exact hRI.rz.len.symm
          have hrn:rn≤62000:=by rw [hrl,hRR];exact Zmt HMB.out.l lo hi
          have HRL:=hide hrl
          have HOO:Hid (o=(vnB (uns z.ux) ⟨vs,vn,vt⟩).scan (rws R)):=by show _=_;rw [HO.out,hRR];rfl
          have HEA5:Hid (Ea w w5 z ⟨vs,vn,vt⟩ ⟨sa,sn,sc⟩ lo hi ⟨oa,on,oc⟩ X ⟨ra,rn,rc⟩ R):=⟨HL4.out.keep hb5,HRZ.out.keep hb5,hRI⟩
          have HON:Hid (on=X.length):=HRZ.out.rz.len.symm
          clear hb5 hRI hRR hrl HRO HL4 HRZ k0 k1 k2 k3 k4 k5 g0 g1 g2 d0 d1
          rcases (vnB (uns z.ux) ⟨vs,vn,vt⟩).code_two (rws R) with h0 | h0
          · have he0:eo=0:=by rw [HEO.out,HOO.out];exact h0
            subst he0
            have HXR:Hid (rws X=(vnB (uns z.ux) ⟨vs,vn,vt⟩).rows (rws R)):=by show _=_;rw [HXE.out,HOO.out];show (if (vnB (uns z.ux) ⟨vs,vn,vt⟩).code (rws R)=0 then _ else _)=_;rw [if_pos h0]
            have HC0:=hide h0
            clear h0 HEO HXE HO HOO
            have hon:on≤62000:=by
             have h1:=HON.out
             have h2:=congrArg List.length HXR.out
             have h3:((vnB (uns z.ux) ⟨vs,vn,vt⟩).rows (rws R)).length≤(rws R).length:=List.length_filterMap_le _ _
             have h4:=HRL.out
             rw [ZaX] at h2
             omega
            go_wp2_with fail
            go_loopw [10,11,13] (fun av ov iv wr=>∃(i a:Nat),i≤rn∧a≤on∧av=.int .i64 (a:Nat)∧ov=.bool false∧iv=.int .i64 (i:Nat)∧Hid (a=((vnB (uns z.ux) ⟨vs,vn,vt⟩).rows ((rws R).take i)).length)∧Hid (Ea w wr z ⟨vs,vn,vt⟩ ⟨sa,sn,sc⟩ lo hi ⟨oa,on,oc⟩ X ⟨ra,rn,rc⟩ R)) (fun _ _ iv _=>rn-(intOf iv).toNat)
            case atStart=>exact ⟨0,0,Nat.zero_le _,Nat.zero_le _,rfl,rfl,rfl,rfl,HEA5⟩
            case round =>
             clear HEA5
             obtain⟨i,a,hile,ha,rfl,rfl,rfl,hal,hea⟩:=hrel
             rcases Nat.lt_or_ge i rn with hlt | hge
             · have i1:(i:Int)<(rn:Int):=by omega
               have hir:i<(rws R).length:=by rw [← HRL.out];exact hlt
               obtain⟨b,off,hra,hxa⟩:=hea.out.rs.rz.at' i hlt
               replace hra:ra=some ⟨b,off,none⟩:=hra
               subst hra
               have hxf:=hea.out.rs.rz.fits _ (hea.out.rs.rz.mem hlt)
               have hri:(rws R)[i]=(R.getD i Rx.zero).r:=by
                rw [← ZcF]
                simp [List.getD,hir]
               obtain⟨x,hx⟩:∃x,x=R.getD i Rx.zero:=⟨_,rfl⟩
               rw [← hx] at hxa hxf hri
               have hmem:x.r∈Zay lo hi (allH (lfs z.lb)):=by rw [← HRR.out,← hri];exact List.getElem_mem _
               have hlk:readB (uns z.ux) (lfs z.lb) ⟨vs,vn,vt⟩ x.r.key=(vnB (uns z.ux) ⟨vs,vn,vt⟩).look 400 x.r:=Zf6 HMB.out.l hea.out.l.l.bin.ls.good hmem
               obtain⟨t,ht⟩:∃t,t=(vnB (uns z.ux) ⟨vs,vn,vt⟩).look 400 x.r:=⟨_,rfl⟩
               rw [← ht] at hlk
               have HIR:=hide hir
               have HT:Hid (t=(vnB (uns z.ux) ⟨vs,vn,vt⟩).look 400 ((rws R)[i]'HIR.out)):=by show _=_;rw [ht,hri]
               have HXA:=hide hxa
               have HSE:Hid (∀W,Below wr.heap.size wr W→Calls Tryz.prog 9 #[z.val,vwV ⟨vs,vn,vt⟩ ⟨sa,sn,sc⟩,.float .f64 x.r.key] W (TolE wr W t)):=fun W hb=>by
                rw [← hlk]
                exact(HH.out.read wr W z ⟨vs,vn,vt⟩ ⟨sa,sn,sc⟩ x.r.key hb hea.out.l.l.bin (hea.out.l.l.gi.below hb (Nat.le_refl _)) (by show sn≤200;omega) hxf.key HMB.out HMV.out).mono fun e w' h=>h.tole
               have HKC:=hide ((vnB (uns z.ux) ⟨vs,vn,vt⟩).look_code 400 x.r)
               rw [← ht] at HKC
               clear hir hxa hxf hx ht hri hlk hmem
               go_wp2_with fail
               refine Pl.q9 (ops:=Pl.find 10 ((Tryz.f5.body).getD .skip)) ?_
               refine Zoz wr _ w.heap.size (w.heap.size+1) b off rn rc i z ⟨vs,vn,vt⟩ ⟨sa,sn,sc⟩ x t hea.out.l.l.bs hea.out.l.l.vw hlt HXA.out HSE.out (Below.refl _ _) (by rfl) rfl (by rfl) (by rfl) (by rfl) (by rfl) ?_
               intro u10 y w10 ⟨g2,hg2,hk2⟩ hyr hyc hb10
               simp only [Pl.pu,List.foldl,Act.put,List.setIfInBounds_toArray,List.set_cons_zero,List.set_cons_succ]
               rw [hg2]
               have HEA:=hide (hea.out.keep hb10)
               have HK2:=hide hk2
               have HYR:=hide hyr
               have HYC:=hide hyc
               clear hg2 hk2 hyr hyc hb10 HSE HXA hea
               obtain⟨⟨tr,tw,tc⟩,htt⟩:∃t',t'=t:=⟨_,rfl⟩
               subst htt
               simp only at HKC ⊢
               have htc:tc=0:=by
                have:=(vnB (uns z.ux) ⟨vs,vn,vt⟩).code_each (rws R) HC0.out (List.getElem_mem HIR.out)
                rw [← HT.out] at this
                exact this
               subst htc
               have HTK:=hide ((vnB (uns z.ux) ⟨vs,vn,vt⟩).rows_take HIR.out)
               rw [← HT.out] at HTK
               cases tr with
               | none =>
                have HAL:Hid (a=((vnB (uns z.ux) ⟨vs,vn,vt⟩).rows ((rws R).take (i+1))).length):=by
                 show _=_
                 rw [HTK.out,hal.out]
                 simp
                go_wp2_with fail
                go_roundw
                case rel=>exact ⟨i+1,a,by omega,ha,rfl,rfl,by go_num,HAL,HEA⟩
                case measure=>simp only [intOf];omega
               | some r =>
                have hat:=(vnB (uns z.ux) ⟨vs,vn,vt⟩).rows_at (rws R) HIR.out (by rw [← HT.out]) zeroR
                have hlt2:a<on:=by
                 have h1:=congrArg List.length HXR.out
                 rw [ZaX,← HON.out] at h1
                 rw [hal.out,h1]
                 exact hat.1
                have hxy:(X.getD a Rx.zero).r=y.r:=by
                 rw [← ZcF,HXR.out,hal.out]
                 exact hat.2.trans HYR.out.symm
                have HAL:Hid (a+1=((vnB (uns z.ux) ⟨vs,vn,vt⟩).rows ((rws R).take (i+1))).length):=by
                 show _=_
                 rw [HTK.out,hal.out]
                 simp
                obtain⟨b5,o5,hoa,hxx⟩:=HEA.out.so.rz.at' a hlt2
                replace hoa:oa=some ⟨b5,o5,none⟩:=hoa
                subst hoa
                have HXX:=hide hxx
                have HXY:=hide hxy
                have HFX:=hide (HEA.out.so.rz.cols _ (HEA.out.so.rz.mem hlt2))
                clear hat hxx hxy
                go_wp2_with fail
                refine Pl.q9 (ops:=Pl.find 13 ((Tryz.f5.body).getD .skip)) ?_
                refine ZpV w10 b5 o5 on oc a g2 hlt2 _ y HXX.out HK2.out HXY.out HFX.out HYC.out.fs (by rfl) rfl (by rfl) (by rfl) (by rfl) ?_
                intro u13 w13 hb13
                simp only [Pl.pu,List.foldl,Act.put,List.setIfInBounds_toArray,List.set_cons_zero,List.set_cons_succ]
                have HEA3:=hide (HEA.out.keep hb13)
                clear hb13 HEA
                go_wp2_with fail
                go_roundw
                case rel=>exact ⟨i+1,a+1,by omega,by omega,by go_num,rfl,by go_num,HAL,HEA3⟩
                case measure=>simp only [intOf];omega
             · have i1:¬(i:Int)<(rn:Int):=by omega
               have hao:a=on:=by
                have h1:=congrArg List.length HXR.out
                rw [ZaX,← HON.out] at h1
                rw [hal.out,List.take_of_length_le (by rw [← HRL.out];exact hge),h1]
               subst hao
               clear hal
               go_wp2_with fail
               refine(HAW.out _).mono ?_
               rintro e w90 ⟨rfl,hb90⟩
               have HF:=hide (Zac hea.out.l.l.below hb90)
               clear hb90
               go_wp2_with fail
               go_ret
               exact⟨rfl,HF.out⟩
          · have he0:eo=13:=by rw [HEO.out,HOO.out];exact h0
            subst he0
            have hon:on=0:=by
             have h1:rws X=[]:=by rw [HXE.out,HOO.out];show (if (vnB (uns z.ux) ⟨vs,vn,vt⟩).code (rws R)=0 then _ else _)=_;rw [if_neg (by rw [h0];decide)]
             have h2:=congrArg List.length h1
             rw [ZaX] at h2
             rw [HON.out,h2]
             rfl
            subst hon
            have HC0:=hide h0
            clear h0 HEO HXE HO HOO
            go_wp2_with fail
            go_loopw [10,11,13] (fun av ov iv wr=>∃(i:Nat) (ob:Bool),i≤rn∧av=.int .i64 0∧ov=.bool ob∧iv=.int .i64 (i:Nat)∧Hid (ob=decide ((vnB (uns z.ux) ⟨vs,vn,vt⟩).code ((rws R).take i)=13))∧Hid (Ea w wr z ⟨vs,vn,vt⟩ ⟨sa,sn,sc⟩ lo hi ⟨oa,0,oc⟩ X ⟨ra,rn,rc⟩ R)) (fun _ _ iv _=>rn-(intOf iv).toNat)
            case atStart=>exact ⟨0,false,Nat.zero_le _,rfl,rfl,rfl,rfl,HEA5⟩
            case round =>
             clear HEA5
             obtain⟨i,ob,hile,rfl,rfl,rfl,hob,hea⟩:=hrel
             rcases Nat.lt_or_ge i rn with hlt | hge
             · have i1:(i:Int)<(rn:Int):=by omega
               have hir:i<(rws R).length:=by rw [← HRL.out];exact hlt
               obtain⟨b,off,hra,hxa⟩:=hea.out.rs.rz.at' i hlt
               replace hra:ra=some ⟨b,off,none⟩:=hra
               subst hra
               have hxf:=hea.out.rs.rz.fits _ (hea.out.rs.rz.mem hlt)
               have hri:(rws R)[i]=(R.getD i Rx.zero).r:=by
                rw [← ZcF]
                simp [List.getD,hir]
               obtain⟨x,hx⟩:∃x,x=R.getD i Rx.zero:=⟨_,rfl⟩
               rw [← hx] at hxa hxf hri
               have hmem:x.r∈Zay lo hi (allH (lfs z.lb)):=by rw [← HRR.out,← hri];exact List.getElem_mem _
               have hlk:readB (uns z.ux) (lfs z.lb) ⟨vs,vn,vt⟩ x.r.key=(vnB (uns z.ux) ⟨vs,vn,vt⟩).look 400 x.r:=Zf6 HMB.out.l hea.out.l.l.bin.ls.good hmem
               obtain⟨t,ht⟩:∃t,t=(vnB (uns z.ux) ⟨vs,vn,vt⟩).look 400 x.r:=⟨_,rfl⟩
               rw [← ht] at hlk
               have HIR:=hide hir
               have HT:Hid (t=(vnB (uns z.ux) ⟨vs,vn,vt⟩).look 400 ((rws R)[i]'HIR.out)):=by show _=_;rw [ht,hri]
               have HXA:=hide hxa
               have HSE:Hid (∀W,Below wr.heap.size wr W→Calls Tryz.prog 9 #[z.val,vwV ⟨vs,vn,vt⟩ ⟨sa,sn,sc⟩,.float .f64 x.r.key] W (TolE wr W t)):=fun W hb=>by
                rw [← hlk]
                exact(HH.out.read wr W z ⟨vs,vn,vt⟩ ⟨sa,sn,sc⟩ x.r.key hb hea.out.l.l.bin (hea.out.l.l.gi.below hb (Nat.le_refl _)) (by show sn≤200;omega) hxf.key HMB.out HMV.out).mono fun e w' h=>h.tole
               have HKC:=hide ((vnB (uns z.ux) ⟨vs,vn,vt⟩).look_code 400 x.r)
               rw [← ht] at HKC
               clear hir hxa hxf hx ht hri hlk hmem
               go_wp2_with fail
               refine Pl.q9 (ops:=Pl.find 10 ((Tryz.f5.body).getD .skip)) ?_
               refine Zoz wr _ w.heap.size (w.heap.size+1) b off rn rc i z ⟨vs,vn,vt⟩ ⟨sa,sn,sc⟩ x t hea.out.l.l.bs hea.out.l.l.vw hlt HXA.out HSE.out (Below.refl _ _) (by rfl) rfl (by rfl) (by rfl) (by rfl) (by rfl) ?_
               intro u10 y w10 ⟨g2,hg2,hk2⟩ hyr hyc hb10
               simp only [Pl.pu,List.foldl,Act.put,List.setIfInBounds_toArray,List.set_cons_zero,List.set_cons_succ]
               rw [hg2]
               have HEA:=hide (hea.out.keep hb10)
               have HK2:=hide hk2
               have HYR:=hide hyr
               have HYC:=hide hyc
               clear hg2 hk2 hyr hyc hb10 HSE HXA hea
               obtain⟨⟨tr,tw,tc⟩,htt⟩:∃t',t'=t:=⟨_,rfl⟩
               subst htt
               simp only at HKC ⊢
               have HTK:=hide ((vnB (uns z.ux) ⟨vs,vn,vt⟩).code_take HIR.out)
               rw [← HT.out] at HTK
               rcases HKC.out with htc | htc
               · subst htc
                 have HOB:Hid (ob=decide ((vnB (uns z.ux) ⟨vs,vn,vt⟩).code ((rws R).take (i+1))=13)):=by
                  show _=_
                  rw [HTK.out,hob.out]
                  rfl
                 clear hob HTK
                 cases ob with
                 | false =>
                  go_wp2_with fail
                  go_roundw
                  case rel=>exact ⟨i+1,false,by omega,rfl,rfl,by go_num,HOB,HEA⟩
                  case measure=>simp only [intOf];omega
                 | true =>
                  go_wp2_with fail
                  go_roundw
                  case rel=>exact ⟨i+1,true,by omega,rfl,rfl,by go_num,HOB,HEA⟩
                  case measure=>simp only [intOf];omega
               · subst htc
                 have HOB:Hid (true=decide ((vnB (uns z.ux) ⟨vs,vn,vt⟩).code ((rws R).take (i+1))=13)):=by
                  show _=_
                  rw [HTK.out]
                  rfl
                 clear hob HTK
                 cases ob with
                 | false =>
                  go_wp2_with fail
                  go_roundw
                  case rel=>exact ⟨i+1,true,by omega,rfl,rfl,by go_num,HOB,HEA⟩
                  case measure=>simp only [intOf];omega
                 | true =>
                  go_wp2_with fail
                  go_roundw
                  case rel=>exact ⟨i+1,true,by omega,rfl,rfl,by go_num,HOB,HEA⟩
                  case measure=>simp only [intOf];omega
             · have i1:¬(i:Int)<(rn:Int):=by omega
               have hobt:ob=true:=by
                rw [hob.out,List.take_of_length_le (by rw [← HRL.out];exact hge),HC0.out]
                rfl
               subst hobt
               clear hob
               go_wp2_with fail
               refine(HAW.out _).mono ?_
               rintro e w90 ⟨rfl,hb90⟩
               have HF:=hide (Zac hea.out.l.l.below hb90)
               clear hb90
               go_wp2_with fail
               go_ret
               exact⟨rfl,HF.out⟩
        · rw [decide_eq_false hmv] at HMYV
          clear hmv
          go_wp2_with fail
          refine HMYV.out.mono ?_
          rintro e w3 ⟨rfl,hb3⟩
          have HB3:=hide (Zac HL2.out.l.below hb3)
          clear hb3 HMYV k0 k1 k2 k3 k4 k5 g0 g1 g2 d0 d1
          go_wp2_with fail
          refine(HAW.out _).mono ?_
          rintro e w90 ⟨rfl,hb90⟩
          have HF:=hide (Zac HB3.out hb90)
          clear hb90
          go_wp2_with fail
          go_ret
          exact⟨rfl,HF.out⟩
      · have HMY:Hid (Calls Tryz.prog 11 #[z.val] w1 fun e w'=>e=.returned (.bool false)∧Below w1.heap.size w1 w'):=(Zh3 w1 z HL1.out.l.bin).mono (fun e w' h=>⟨Zpq hmb h.1,h.2⟩)
        unfold Bz.val at HMY
        clear hmb
        go_wp2_with fail
        refine HMY.out.mono ?_
        rintro e w2 ⟨rfl,hb2⟩
        have HB3:=hide (Zac HL1.out.l.below hb2)
        clear hb2 HMY k0 k1 k2 k3 k4 k5 g0 g1 g2 d0 d1
        go_wp2_with fail
        refine(HAW.out _).mono ?_
        rintro e w90 ⟨rfl,hb90⟩
        have HF:=hide (Zac HB3.out hb90)
        clear hb90
        go_wp2_with fail
        go_ret
        exact⟨rfl,HF.out⟩
    · have i1:(100:Int)<(sn:Int):=by omega
      have HB1:=hide (Zac HA.out hb1)
      have hvw1:=HVW.out.keep hb1
      have g0:=hvw1.c0
      have g1:=hvw1.c1
      have g2:=hvw1.c2
      simp only [Sl.val] at g0 g1 g2
      clear hb1 hbin hvw1
      go_wp2_with fail
      refine(HAW.out _).mono ?_
      rintro e w90 ⟨rfl,hb90⟩
      have HF:=hide (Zac HB1.out hb90)
      clear hb90
      go_wp2_with fail
      go_ret
      exact⟨rfl,HF.out⟩
theorem Zgt {r:Rw}(h:nxB u r≠none):(1≤r.cell∧r.cell≤(u.length:Int))∧(atU u r.cell).no=r.no:=by
 have h2:(getU u r.cell r.no).2=true:=by
  cases hh:(getU u r.cell r.no).2 with
  | true=>rfl
  | false=>exact absurd (Zjx hh) h
 unfold getU at h2;split at h2
 · cases h2
 · rename_i hn;have h0:(atU u r.cell).emp=false:=by
    cases hh:(atU u r.cell).emp with
    | false=>rfl
    | true=>exact absurd (.inl hh) hn
   have hc:=ZiT h0;refine⟨⟨by omega,by omega⟩,?_⟩;by_cases e:(atU u r.cell).no=r.no
   · exact e
   · exact absurd (.inr e) hn
theorem Zmg {r q:Rw}(hr:nxB u r≠none)(hq:nxB u q≠none)(he:(r.cell-1).toNat=(q.cell-1).toNat):nxB u r=nxB u q:=by
 obtain⟨h1,h2⟩:=Zgt hr;obtain⟨h3,h4⟩:=Zgt hq;(have e1:r.cell=q.cell:=by omega);(have e2:r.no=q.no:=by rw [← h2,← h4,e1]);unfold nxB;rw [e1,e2]
section
variable {α : Type}
def Vn.whoc (V:Vn α) (l:List α):List Int:=l.flatMap fun r=>(V.look 400 r).2.1.take 400
theorem Vn.whoc_take (V:Vn α){l:List α}{i:Nat}(h:i<l.length):V.whoc (l.take (i+1))=V.whoc (l.take i) ++ (V.look 400 l[i]).2.1.take 400:=by
 unfold Vn.whoc;rw [List.take_succ_eq_append_getElem h,List.flatMap_append];simp
theorem Vn.whoc_le (V:Vn α)(l:List α):(V.whoc l).length≤400*l.length:=by
 induction l with
 | nil=>simp [Vn.whoc]
 | cons r l ih =>
  (have h2:V.whoc (r :: l)=(V.look 400 r).2.1.take 400 ++ V.whoc l:=by simp [Vn.whoc]);rw [h2,List.length_append,List.length_cons,List.length_take];omega
end
theorem Zoq (h:u.length≤378)(v:Vw)(L:List Rw):allN ((vnB u v).whoc L)=allN ((vnB u v).whos L):=by
 refine Zlh (Zli _) (fun x=>?_);rw [ZiR];show x∈L.flatMap _↔x∈L.flatMap _;rw [List.mem_flatMap,List.mem_flatMap];have e:∀r,x∈((vnB u v).look 400 r).2.1↔x∈((vnB u v).look 400 r).2.1.take 400:=fun r =>
  (vnB u v).look_again (fun q=>(q.cell-1).toNat) 378 (fun r q hr hq he=>Zmg hr hq he) (fun q hq=>by have:=(Zgt hq).1;omega) (by decide) r x
 constructor
 · rintro ⟨r,hr,hm⟩;exact⟨r,hr,(e r).2 hm⟩
 · rintro ⟨r,hr,hm⟩;exact⟨r,hr,(e r).1 hm⟩
def orN:List Int→Int
  | []=>0
  | x :: l=>if x=0 then orN l else x
theorem Zo7:∀(t:List Int)(i:Nat),(∀j,j<i→t.getD j 0=0)→i<t.length→t.getD i 0≠0→orN t=t.getD i 0
 | [],i,_,h,_=>absurd h (Nat.not_lt_zero i)
 | x :: l,0,_,_,hn=>by
  have hx:¬x=0:=hn
  show (if x=0 then orN l else x)=x
  rw [if_neg hx]
 | x :: l,i+1,h0,hl,hn=>by
  have hx:x=0:=h0 0 (Nat.succ_pos i)
  have e:=Zo7 l i (fun j hj=>h0 (j+1) (by omega)) (by simpa using hl) hn
  show (if x=0 then orN l else x)=l.getD i 0
  rw [if_pos hx,e]
theorem Zjz:∀(t:List Int),(∀j,j<t.length→t.getD j 0=0)→orN t=0
 | [],_=>rfl
 | x :: l,h=>by
  have hx:x=0:=h 0 (by simp)
  show (if x=0 then orN l else x)=0
  rw [if_pos hx,Zjz l (fun j hj=>h (j+1) (by simpa using hj))]
theorem ZnR (p q r s:Bool):orN [chk p,chk q,chk r,chk s]=chk (p && q && r && s):=by
 cases p <;> cases q <;> cases r <;> cases s <;> rfl
theorem Zo8 (w:World)(b off len:Nat)(t:List Int)(hl:t.length=len)(h4:len≤1000)(hc:∀i,i<len→w.cell? ⟨b,off+i,none⟩=some (.int .i64 (t.getD i 0))) :
    Calls Tryz.prog 29 #[.slice (some ⟨b,off,none⟩) len len] w fun e w'=>e=.returned (.int .i64 (orN t))∧w'=w:=by
  have HC:=hide hc;have HL:=hide hl;clear hc hl;go_enter Tryz.func29,Tryz.ntmps29;go_wp2_with fail;go_loopw [8] (fun iv wr=>wr=w∧∃i:Nat,i≤len∧iv=.int .i64 (i:Nat)∧Hid (∀j,j<i→t.getD j 0=0)) (fun iv _=>len-(intOf iv).toNat)
  case atStart=>exact ⟨rfl,0,Nat.zero_le _,rfl,fun _ h=>absurd h (Nat.not_lt_zero _)⟩
  case round =>
   obtain⟨rfl,i,hi,rfl,hz⟩:=hrel;rcases Nat.lt_or_ge i len with aa | ab
   · (have i1:(i:Int)<(len:Int):=by omega);have c0:=HC.out i aa;obtain⟨x,hx⟩:∃x,x=t.getD i 0:=⟨_,rfl⟩;rw [← hx] at c0;have HX:=hide hx;clear hx;by_cases h0:x=0
     · have HN:Hid (∀j,j<i+1→t.getD j 0=0):=fun j hj=>by
        by_cases e:j=i
        · rw [e,← HX.out,h0]
        · exact hz.out j (by omega)
       clear hz HX;subst h0;go_wp2_with fail;go_roundw
       case rel=>exact ⟨trivial,i+1,by omega,by go_num,HN⟩
       case measure=>simp only [intOf];omega
     · have HE:Hid (orN t=x):=by
        show _=_;rw [HX.out];exact Zo7 t i hz.out (by rw [HL.out];exact aa) (by rw [← HX.out];exact h0)
       clear hz HX;go_wp2_with fail;go_ret;exact⟨by rw [HE.out];rfl,rfl⟩
   · (have i1:¬(i:Int)<(len:Int):=by omega);have HE:Hid (orN t=0):=Zjz t (fun j hj=>hz.out j (by rw [HL.out] at hj;omega));clear hz;go_wp2_with fail;go_ret;exact⟨by rw [HE.out];rfl,rfl⟩
theorem Zqs (w:World)(a b:Int):(Instr.buildSlice 112 2 #[(0,.int .i64 a),(1,.int .i64 b)]).run Tryz.prog w=.ok (.slice (some ⟨w.heap.size,0,none⟩) 2 2) (w.alloc (.cells #[.int .i64 a,.int .i64 b] 40)):=by
 simp [go_sem,Instr.buildSlice]
theorem Zry (w:World)(a b c d:Int):(Instr.buildSlice 112 4 #[(0,.int .i64 a),(1,.int .i64 b),(2,.int .i64 c),(3,.int .i64 d)]).run Tryz.prog w=.ok (.slice (some ⟨w.heap.size,0,none⟩) 4 4) (w.alloc (.cells #[.int .i64 a,.int .i64 b,.int .i64 c,.int .i64 d] 40)):=by
 simp [go_sem,Instr.buildSlice]
theorem Zgv (w:World)(a b:Int):Calls Tryz.prog 29 #[.slice (some ⟨w.heap.size,0,none⟩) 2 2] (w.alloc (.cells #[.int .i64 a,.int .i64 b] 40)) fun e w'=>e=.returned (.int .i64 (orN [a,b]))∧Below w.heap.size w w':=
 (Zo8 _ w.heap.size 0 2 [a,b] rfl (by decide) (fun i hi=>by
  have hk:=heap_alloc_new w (.cells #[.int .i64 a,.int .i64 b] 40)
  match i,hi with
  | 0,_=>exact (show World.cell? _ ⟨w.heap.size,0,none⟩=some (.int .i64 a) from by rw [cell_of_row _ _ _ _ _ _ hk];rfl)
  | 1,_=>exact (show World.cell? _ ⟨w.heap.size,1,none⟩=some (.int .i64 b) from by rw [cell_of_row _ _ _ _ _ _ hk];rfl))).mono fun e w' h=>⟨h.1,by rw [h.2];exact Zaa w _⟩
theorem Zpv (w:World)(a b c d:Int):Calls Tryz.prog 29 #[.slice (some ⟨w.heap.size,0,none⟩) 4 4] (w.alloc (.cells #[.int .i64 a,.int .i64 b,.int .i64 c,.int .i64 d] 40)) fun e w'=>e=.returned (.int .i64 (orN [a,b,c,d]))∧Below w.heap.size w w':=
 (Zo8 _ w.heap.size 0 4 [a,b,c,d] rfl (by decide) (fun i hi=>by
  have hk:=heap_alloc_new w (.cells #[.int .i64 a,.int .i64 b,.int .i64 c,.int .i64 d] 40)
  match i,hi with
  | 0,_=>exact (show World.cell? _ ⟨w.heap.size,0,none⟩=some (.int .i64 a) from by rw [cell_of_row _ _ _ _ _ _ hk];rfl)
  | 1,_=>exact (show World.cell? _ ⟨w.heap.size,1,none⟩=some (.int .i64 b) from by rw [cell_of_row _ _ _ _ _ _ hk];rfl)
  | 2,_=>exact (show World.cell? _ ⟨w.heap.size,2,none⟩=some (.int .i64 c) from by rw [cell_of_row _ _ _ _ _ _ hk];rfl)
  | 3,_=>exact (show World.cell? _ ⟨w.heap.size,3,none⟩=some (.int .i64 d) from by rw [cell_of_row _ _ _ _ _ _ hk];rfl))).mono fun e w' h=>⟨h.1,by rw [h.2];exact Zaa w _⟩
theorem Zmn (n:Nat)(la:Option Addr)(lc:Nat)(y:Ux)(b:Nat)(w:World)(hb:w.cell? ⟨b,5,none⟩=some (.slice la n lc)) :
    Calls Tryz.prog 80 #[y.val,.pointer (some ⟨b,0,none⟩)] w fun e w'=>e=.returned (.bool (decide ((n:Int)≤y.u.page)))∧Below w.heap.size w w':=by
  unfold Ux.val Un.val;have hA:=Zaa w (.cells #[.int .i64 y.u.tx,.int .i64 y.u.no,.int .i64 y.u.prev,.int .i64 y.u.kind,.int .i64 y.u.page,.int .i64 y.u.slot,.float .f64 y.u.row.key,.bool y.u.row.dead,.slice y.a y.n y.c,.int .i64 y.u.row.wr,.int .i64 y.u.row.cell,.int .i64 y.u.row.no] 65);have hc:=(hA.cell (p:=⟨b,5,none⟩) (World.block_lt_of_cell? w _ hb)).trans hb;have HA:=hide hA;clear hA hb;go_enter Tryz.func80,Tryz.ntmps80;go_wp2_with fail;go_ret;exact⟨rfl,HA.out⟩
theorem Zrs (w:World)(va:Option Addr)(vl vc:Nat)(l:List Ux)(h:Us w va vl l)(aj:vl≤1000000)(b n:Nat)(la:Option Addr)(lc:Nat)(hb:w.cell? ⟨b,5,none⟩=some (.slice la n lc)) :
    Calls Tryz.prog 118 #[.slice va vl vc,.func (.func 80) #[] #[.pointer (some ⟨b,0,none⟩)]] w fun e w'=>e=.returned (.int .i64 (ixU ((uns l).findIdx? (fun y:Un=>decide ((n:Int)≤y.page)))))∧Below w.heap.size w w':=by
  have HE:=hide h;have hl:l.length=vl:=h.len;have HC:=hide hb;have H0:=hide (Below.refl w.heap.size w);clear h hb;have HL:=hide hl;clear hl;go_enter Tryz.func118,Tryz.ntmps118;go_wp2_with fail;go_loopw [8] (fun iv wr=>∃i:Nat,i≤vl∧iv=.int .i64 (i:Nat)∧Hid (∀j,j<i→(fun y:Un=>decide ((n:Int)≤y.page)) (l.getD j Ux.zero).u=false)∧Hid (Below w.heap.size w wr)) (fun iv _=>vl-(intOf iv).toNat)
  case atStart=>exact ⟨0,Nat.zero_le _,rfl,fun j hj=>absurd hj (Nat.not_lt_zero _),H0⟩
  case round =>
   obtain⟨i,hi,rfl,aa,ac⟩:=hrel;rcases Nat.lt_or_ge i vl with ah | ak
   · (have i1:(i:Int)<(vl:Int):=by omega);have hr:=HE.out.keep ac.out (Nat.le_refl _);obtain⟨b1,off,rfl,ag⟩:=hr.at' i ah;have ad:=hr.cols _ (hr.mem ah);obtain⟨y,hy⟩:∃y,y=l.getD i Ux.zero:=⟨_,rfl⟩;rw [← hy] at ag ad;have ai:=hide (Zbs b1 (off+i*12) y wr ag);have HY:=hide hy;have ae:Hid (Calls Tryz.prog 80 #[y.val,.pointer (some ⟨b,0,none⟩)] wr fun e w'=>e=.returned (.bool ((fun y:Un=>decide ((n:Int)≤y.page)) y.u))∧Below wr.heap.size wr w'):=Zmn n la lc y b wr ((ac.out.cell (World.block_lt_of_cell? w _ HC.out)).trans HC.out);clear ag hy ad hr;cases hon:((fun y:Un=>decide ((n:Int)≤y.page)) y.u:Bool) with
     | true =>
      rw [hon] at ae;have HF:Hid ((uns l).findIdx? (fun y:Un=>decide ((n:Int)≤y.page))=some i):=ZoW (by rw [ZcN,HL.out];exact ah) (by rw [Zb6,← HY.out];exact hon) (fun j hj=>by rw [Zb6];exact aa.out j hj);clear aa HY hon;go_wp2_with (refine Zah _ rfl 65 (.tmp 14) rfl (.pointer (some ⟨b1,off+i*12,none⟩)) y.val rfl ai.out ?_);refine ae.out.mono ?_;rintro e w1 ⟨rfl,ab⟩;have af:=hide (Zac ac.out ab);clear ab;go_wp2_with fail;go_ret;exact⟨by rw [HF.out];rfl,af.out⟩
     | false =>
      rw [hon] at ae;have HN:Hid (∀j,j<i+1→(fun y:Un=>decide ((n:Int)≤y.page)) (l.getD j Ux.zero).u=false):=by
       intro j hj;by_cases e:j=i
       · rw [e,← HY.out];exact hon
       · exact aa.out j (by omega)
      clear aa HY hon;go_wp2_with (refine Zah _ rfl 65 (.tmp 14) rfl (.pointer (some ⟨b1,off+i*12,none⟩)) y.val rfl ai.out ?_);refine ae.out.mono ?_;rintro e w1 ⟨rfl,ab⟩;have af:=hide (Zac ac.out ab);clear ab;go_wp2_with fail;go_roundw
      case rel=>exact ⟨i+1,by omega,by go_num,HN,af⟩
      case measure=>simp only [intOf];omega
   · (have i1:¬(i:Int)<(vl:Int):=by omega);have HF:Hid ((uns l).findIdx? (fun y:Un=>decide ((n:Int)≤y.page))=none):=ZoX (fun j hj=>by rw [Zb6];exact aa.out j (by rw [ZcN,HL.out] at hj;omega));clear aa;go_wp2_with fail;go_ret;exact⟨by rw [HF.out];rfl,ac.out⟩
theorem ZpT (w:World)(va:Option Addr)(vl vc:Nat)(l:List Ux)(h:Us w va vl l)(ac:vl≤1000000)(b n:Nat)(la:Option Addr)(lc:Nat)(hb:w.cell? ⟨b,5,none⟩=some (.slice la n lc)) :
    Calls Tryz.prog 79 #[.slice va vl vc,.func (.func 80) #[] #[.pointer (some ⟨b,0,none⟩)]] w fun e w'=>e=.returned (.bool ((uns l).findIdx? (fun y:Un=>decide ((n:Int)≤y.page))).isSome)∧Below w.heap.size w w':=by
  have HX:=hide (Zrs w va vl vc l h ac b n la lc hb);have hg:=Zpe (fun y:Un=>decide ((n:Int)≤y.page)) (uns l);obtain⟨z,hz⟩:∃z,z=ixU ((uns l).findIdx? (fun y:Un=>decide ((n:Int)≤y.page))):=⟨_,rfl⟩;rw [← hz] at hg HX;rw [← hg];clear h hb hg hz;by_cases hp:0≤z
  · have HR:Hid (decide (0≤z)=true):=decide_eq_true hp;go_enter Tryz.func79,Tryz.ntmps79;go_wp2_with fail;refine HX.out.mono ?_;rintro e w1 ⟨rfl,aa⟩;have ab:=hide aa;clear aa;go_wp2_with fail;go_ret;exact⟨by rw [HR.out];rfl,ab.out⟩
  · have HR:Hid (decide (0≤z)=false):=decide_eq_false hp;go_enter Tryz.func79,Tryz.ntmps79;go_wp2_with fail;refine HX.out.mono ?_;rintro e w1 ⟨rfl,aa⟩;have ab:=hide aa;clear aa;go_wp2_with fail;go_ret;exact⟨by rw [HR.out];rfl,ab.out⟩
theorem ZkE (w:World)(z:Bz)(h:Bin w z) :
    Calls Tryz.prog 36 #[z.val] w fun e w'=>e=.returned (.int .i64 (chk (!((uns z.ux).findIdx? (fun y:Un=>decide ((z.ls.len:Int)≤y.page))).isSome)))∧Below w.heap.size w w':=by
  have hA:=Zaa w (.cells #[.int .i64 z.t.nx,.int .i64 z.t.no,.int .i64 z.t.cm,.slice z.es.a z.es.len z.es.cap,.slice z.cs.a z.cs.len z.cs.cap,.slice z.ls.a z.ls.len z.ls.cap] 28);have hb:=Zbi w z;have HX:=hide (ZpT _ z.cs.a z.cs.len z.cs.cap z.ux (h.keep hA).cs (by have:=h.cb;omega) w.heap.size z.ls.len z.ls.a z.ls.cap hb.c5);have HA:=hide hA;have c4:=hb.c4;clear h hA hb;generalize ((uns z.ux).findIdx? (fun y:Un=>decide ((z.ls.len:Int)≤y.page))).isSome=m at *;unfold Bz.val;go_enter Tryz.func36,Tryz.ntmps36;go_wp2_with fail;refine HX.out.mono ?_;rintro e w1 ⟨rfl,ab⟩;have aa:=hide (Zac HA.out ab);clear ab HX;cases m with
  | true =>
   go_wp2_with fail;go_ret;exact⟨rfl,aa.out⟩
  | false =>
   go_wp2_with fail;go_ret;exact⟨rfl,aa.out⟩
theorem Zml (u:List Un)(n:Nat):(u.findIdx? (fun y:Un=>decide ((n:Int)≤y.page))).isSome=false↔∀i,i<u.length→(u.getD i zeroU).page<(n:Int):=by
 rw [List.findIdx?_isSome,List.any_eq_false];constructor
 · intro h i hi;have h1:=h (u.getD i zeroU) (by rw [List.getD_eq_getElem?_getD,List.getElem?_eq_getElem hi];exact List.getElem_mem hi);simp only [decide_eq_true_eq] at h1;omega
 · intro h y hy;obtain⟨i,hi,rfl⟩:=List.getElem_of_mem hy;have h1:=h i hi;rw [List.getD_eq_getElem?_getD,List.getElem?_eq_getElem hi] at h1;simp only [Option.getD_some,decide_eq_true_eq] at h1 ⊢;omega
end Go.Proofs.YtiecfcjlhldhdaaGreat
