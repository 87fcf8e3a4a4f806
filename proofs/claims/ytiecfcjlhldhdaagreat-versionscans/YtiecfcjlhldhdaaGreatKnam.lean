/-
  Lemmas.
-/
import Derived.Test.YtiecfcjlhldhdaaGreatKnal
import Derived.Test.YtiecfcjlhldhdaaGreatKnai
import Derived.Test.YtiecfcjlhldhdaaGreatKnae
import Derived.Test.YtiecfcjlhldhdaaGreatKnaj
import Derived.Deep.Cut
import Derived.Deep.CutRange
import Derived.Test.YtiecfcjlhldhdaaGreatKnak
import Derived.ProofKit
import Derived.OpenShut
import Derived.Lib.SmallJoins
import Derived.Laws.Cover2
import Derived.Deep.Slices
import Derived.Test.YtiecfcjlhldhdaaGreatKnad
namespace Go.Proofs.YtiecfcjlhldhdaaGreat
open Go.RowKit Go.Proofs.Tryz
set_option linter.unusedVariables false
set_option linter.unusedSimpArgs false
set_option maxRecDepth 100000
set_option maxHeartbeats 4000000
variable {w w' W w0 wr:World}{s vs rs so q:Sl}{z y:Bz}{g i n p j k b0:Nat}{A:Act}{v:Vw}{L:List Lb}{R X:List Rx}{l t:List Int}{o:Option Rw × List Int × Int}{a:Option Addr}{r:Reach}
theorem ZpD (k:ZaG w p v s):(Instr.loadAt 31 (.pointer (some ⟨p,0,none⟩))).run prog w=.ok (vwV v s) w:=by
 have c0:=k.c0;have c1:=k.c1;have c2:=k.c2;obtain⟨a,n,c⟩:=s;unfold vwV Sl.val at *;simp [go_sem,c0,c1,c2]
theorem ex4 (a b c d:Value)(w:World):(Instr.extract (.tuple #[a,b,c,d]) 0).run prog w=.ok a w∧(Instr.extract (.tuple #[a,b,c,d]) 1).run prog w=.ok b w∧(Instr.extract (.tuple #[a,b,c,d]) 2).run prog w=.ok c w∧(Instr.extract (.tuple #[a,b,c,d]) 3).run prog w=.ok d w:=⟨rfl,rfl,rfl,rfl⟩
theorem Zjk (w:World):(Instr.alloc 39 true (.tuple #[])).run prog w=.ok (.pointer (some ⟨w.heap.size,0,none⟩)) (w.alloc (.cells #[.float .f64 0,.bool false,.slice none 0 0,.int .i64 0,.int .i64 0,.int .i64 0] 39)):=by simp [go_sem,Instr.alloc]
theorem Zjv:∀args w,(callFunc 42 args).run prog w=.ok (.enter 42 args) w:=Pl.qi func42
theorem Zsm (wb w0 w:World)(ar:wb.heap.size≤w0.heap.size)(g k b off len c i:Nat)(z:Bz)(v:Vw)(s:Sl)(x:Rx)(o:Option Rw × List Int × Int)(hg:BsBlk w0 g z)(hk:ZaG w0 k v s)(hi:i<len)(hx:RwAt w0 b (off+i*6) x)(aq:∀W,Bl w0 W→Calls prog 42 #[z.val,vwV v s,x.val] W (Zeq wb W o))(hW:Bl w0 w)
    {Q:Exit→Act→World→Prop}(ay:A.tmps.size=114)(av:A.defers=[])(s4:A.tmps.getD 4 undef=.pointer (some ⟨g,0,none⟩))(s5:A.tmps.getD 5 undef=.pointer (some ⟨k,0,none⟩))(s14:A.tmps.getD 14 undef=.slice (some ⟨b,off,none⟩) len c)(s15:A.tmps.getD 15 undef=.int .i64 (i:Int))
    (hend:∀(u:Nat→Value)(y:Rx)(q:Sl) w',(∃g2,u 16=.pointer (some ⟨g2,0,none⟩)∧w0.heap.size≤g2∧RwBlk w' g2 y.r (.slice y.a y.n y.c))→y.r=o.1.getD zeroR→ColR wb w' y→y.r.fits→Gi (fun k=>w0.heap.size≤k) w' q o.2.1→Bl w0 w'→Q .normal ((((Pl.pu A u [36,37,38,39,40,41,42,35,43,44,45,46,16]).put (some 17) (.bool o.1.isSome)).put (some 18) (q.val)).put (some 19) (.int .i64 o.2.2)) w') :
    Pl.rg prog 7 f17 Q A w:=by
  have ab:Bl w0 w.drew:=hW.drew;have hA:=Pl.At.same (v:=.int .i64 (i:Int)) (d:=15) (Pl.At.same (v:=.slice (some ⟨b,off,none⟩) len c) (d:=14) (Pl.At.same (v:=.pointer (some ⟨k,0,none⟩)) (d:=5) (Pl.At.same (v:=.pointer (some ⟨g,0,none⟩)) (d:=4) (Pl.At.here ay av) s4) s5) s14) s15;refine Pl.qb (S:=fun w'=>Bl w0 w') hA ab ?_;rw [show (Pl.fd 7 f17).size=17 by kernel_rfl];refine Pl.q0 0 36 (z.val) (Pl.q1) (Pl.q4 28 (.tmp 4) (fun w' hS=>Zg4 (hg.keep hS))) ab ?_;refine Pl.q0 1 37 (vwV v s) (Pl.q1) (Pl.q4 31 (.tmp 5) (fun w' hS=>ZpD (hk.keep hS))) ab ?_;refine Pl.q0 2 38 (.slice (some ⟨b,off,none⟩) len c) (Pl.q1) (Pl.q2 (.tmp 14)) ab ?_;refine Pl.q0 3 39 (.int .i64 (i:Int)) (Pl.q1) (Pl.q2 (.tmp 15)) ab ?_;refine Pl.q0 4 40 (.pointer (some ⟨b,off+i*6,none⟩)) (Pl.q1) (Pl.qa 49 (.tmp 38) (.tmp 39) (ZaX b off len c i hi)) ab ?_;refine Pl.q0 5 41 (x.val) (Pl.q1) (Pl.q4 39 (.tmp 40) (fun w' hS=>Zbl b (off+i*6) x w' (hx.keep hS (Nat.le_refl _)))) ab ?_;refine Pl.qs 6 12 ?_ ?_
  · refine Pl.q_36 6 42 42 [(.tmp 36),(.tmp 37),(.tmp 41)] #[28,31,39] Zjv (Calls.mono (aq w.drew ab) ?_);rintro e w6 ⟨ah,y,q,rfl,ap,am,an,ao⟩;have aa:Bl w0 w6:=Zac ab ah;refine⟨.tuple #[y.val,.bool o.1.isSome,q.val,.int .i64 o.2.2],rfl,aa,?_⟩;refine Pl.q0 7 35 (.tuple #[y.val,.bool o.1.isSome,q.val,.int .i64 o.2.2]) (Pl.q1) (Pl.q2 (.tmp 42)) aa ?_;refine Pl.q0 8 43 (y.val) (Pl.q1) (Pl.qh (.tmp 35) 0 (fun w=>(ex4 _ _ _ _ w).1)) aa ?_;refine Pl.q0 9 44 (.bool o.1.isSome) (Pl.q1) (Pl.qh (.tmp 35) 1 (fun w=>(ex4 _ _ _ _ w).2.1)) aa ?_;refine Pl.q0 10 45 (q.val) (Pl.q1) (Pl.qh (.tmp 35) 2 (fun w=>(ex4 _ _ _ _ w).2.2.1)) aa ?_;refine Pl.q0 11 46 (.int .i64 o.2.2) (Pl.q1) (Pl.qh (.tmp 35) 3 (fun w=>(ex4 _ _ _ _ w).2.2.2)) aa ?_;have ad:Bl w0 (w6.alloc (.cells #[.float .f64 0,.bool false,.slice none 0 0,.int .i64 0,.int .i64 0,.int .i64 0] 39)):=aa.alloc aa.size _;have ag:RwBlk (w6.alloc (.cells #[.float .f64 0,.bool false,.slice none 0 0,.int .i64 0,.int .i64 0,.int .i64 0] 39)) w6.heap.size zeroR (.slice none 0 0):=Zai w6 zeroR (.slice none 0 0);have af:w0.heap.size≤w6.heap.size:=aa.size;have ax:Gi (fun k=>k≠w6.heap.size∧w0.heap.size≤k) (w6.alloc (.cells #[.float .f64 0,.bool false,.slice none 0 0,.int .i64 0,.int .i64 0,.int .i64 0] 39)) q o.2.1:=(ao.mono (fun k h1 h2=>⟨by omega,Nat.le_trans ab.size h1⟩)).below (Zab w6 _) (Nat.le_refl _);have au:=am.keep (Zab w6 (.cells #[.float .f64 0,.bool false,.slice none 0 0,.int .i64 0,.int .i64 0,.int .i64 0] 39));refine Pl.qf 12 16 (.pointer (some ⟨w6.heap.size,0,none⟩)) (w6.alloc (.cells #[.float .f64 0,.bool false,.slice none 0 0,.int .i64 0,.int .i64 0,.int .i64 0] 39)) (Pl.q1) (Pl.qx 39 (Zjk w6)) ad ?_;have ae:=ZaE ((w6.alloc (.cells #[.float .f64 0,.bool false,.slice none 0 0,.int .i64 0,.int .i64 0,.int .i64 0] 39))) (w6.heap.size) y.r (.slice y.a y.n y.c);have ac:Bl w0 (setRw ((w6.alloc (.cells #[.float .f64 0,.bool false,.slice none 0 0,.int .i64 0,.int .i64 0,.int .i64 0] 39))) (w6.heap.size) y.r (.slice y.a y.n y.c)):=ad.trans (ae.below ad.size (fun k hk=>by rw [hk];exact af));have al:Gi (fun k=>w0.heap.size≤k) (setRw ((w6.alloc (.cells #[.float .f64 0,.bool false,.slice none 0 0,.int .i64 0,.int .i64 0,.int .i64 0] 39))) (w6.heap.size) y.r (.slice y.a y.n y.c)) q o.2.1:=(ax.keep (Kept.frm ae (fun k h1 e=>h1.1 e))).wide (fun k h1=>h1.2);have aj:ColR wb (setRw ((w6.alloc (.cells #[.float .f64 0,.bool false,.slice none 0 0,.int .i64 0,.int .i64 0,.int .i64 0] 39))) (w6.heap.size) y.r (.slice y.a y.n y.c)) y:=au.frm ae (fun k hk=>by rw [hk];exact ⟨Nat.le_trans ar af,_,_,ag,by decide⟩);have ak:=Za5 ag y.r (.slice y.a y.n y.c);refine Pl.ql 13 (setRw ((w6.alloc (.cells #[.float .f64 0,.bool false,.slice none 0 0,.int .i64 0,.int .i64 0,.int .i64 0] 39))) (w6.heap.size) y.r (.slice y.a y.n y.c)) (Pl.q1) (Pl.qm 39 (.tmp 16) (.tmp 43) (Zen ((w6.alloc (.cells #[.float .f64 0,.bool false,.slice none 0 0,.int .i64 0,.int .i64 0,.int .i64 0] 39))) (w6.heap.size) _ _ ag y.r y.a y.n y.c)) ac ?_;refine Pl.q0 14 17 (.bool o.1.isSome) (Pl.q1) (Pl.qd (.tmp 44)) ac ?_;refine Pl.q0 15 18 (q.val) (Pl.q1) (Pl.qd (.tmp 45)) ac ?_;refine Pl.q0 16 19 (.int .i64 o.2.2) (Pl.q1) (Pl.qd (.tmp 46)) ac ?_;refine Pl.q8 (fun A' hA'=>?_);exact Pl.en hA' hA [36,37,38,39,40,41,42,35,43,44,45,46,16,17,18,19] (hend hA'.fn y q _ ⟨_,rfl,af,ak⟩ ap aj an al ac)
  · have ad:Bl w0 (w.drew.alloc (.cells #[.float .f64 0,.bool false,.slice none 0 0,.int .i64 0,.int .i64 0,.int .i64 0] 39)):=ab.alloc ab.size _;have ag:RwBlk (w.drew.alloc (.cells #[.float .f64 0,.bool false,.slice none 0 0,.int .i64 0,.int .i64 0,.int .i64 0] 39)) w.drew.heap.size zeroR (.slice none 0 0):=Zai w.drew zeroR (.slice none 0 0);have af:w0.heap.size≤w.drew.heap.size:=ab.size;refine Pl.qj 12 16 (.pointer (some ⟨w.drew.heap.size,0,none⟩)) (w.drew.alloc (.cells #[.float .f64 0,.bool false,.slice none 0 0,.int .i64 0,.int .i64 0,.int .i64 0] 39)) (Pl.qx 39 (Zjk w.drew)) ad ?_;refine Pl.qe 6 42 42 [(.tmp 36),(.tmp 37),(.tmp 41)] #[28,31,39] (Pl.q1) Zjv (Calls.mono (aq ((w.drew.alloc (.cells #[.float .f64 0,.bool false,.slice none 0 0,.int .i64 0,.int .i64 0,.int .i64 0] 39))) ad) ?_);rintro e w6 ⟨ah,y,q,rfl,ap,am,an,ao⟩;have aa:Bl w0 w6:=Zac ad ah;have ai:=ag.keep ah;have aw:Gi (fun k=>k≠w.drew.heap.size∧w0.heap.size≤k) w6 q o.2.1:=ao.mono (fun k h1 h2=>⟨fun e=>by rw [e,Zae] at h1;omega,Nat.le_trans ad.size h1⟩);refine⟨.tuple #[y.val,.bool o.1.isSome,q.val,.int .i64 o.2.2],rfl,aa,?_⟩;rw [Pl.qg 16 42];refine Pl.q0 7 35 (.tuple #[y.val,.bool o.1.isSome,q.val,.int .i64 o.2.2]) (Pl.q1) (Pl.q2 (.tmp 42)) aa ?_;rw [Pl.qg 16 35];refine Pl.q0 8 43 (y.val) (Pl.q1) (Pl.qh (.tmp 35) 0 (fun w=>(ex4 _ _ _ _ w).1)) aa ?_;rw [Pl.qg 16 43];refine Pl.q0 9 44 (.bool o.1.isSome) (Pl.q1) (Pl.qh (.tmp 35) 1 (fun w=>(ex4 _ _ _ _ w).2.1)) aa ?_;rw [Pl.qg 16 44];refine Pl.q0 10 45 (q.val) (Pl.q1) (Pl.qh (.tmp 35) 2 (fun w=>(ex4 _ _ _ _ w).2.2.1)) aa ?_;rw [Pl.qg 16 45];refine Pl.q0 11 46 (.int .i64 o.2.2) (Pl.q1) (Pl.qh (.tmp 35) 3 (fun w=>(ex4 _ _ _ _ w).2.2.2)) aa ?_;rw [Pl.qg 16 46];have ae:=ZaE w6 (w.drew.heap.size) y.r (.slice y.a y.n y.c);have ac:Bl w0 (setRw w6 (w.drew.heap.size) y.r (.slice y.a y.n y.c)):=aa.trans (ae.below aa.size (fun k hk=>by rw [hk];exact af));have al:Gi (fun k=>w0.heap.size≤k) (setRw w6 (w.drew.heap.size) y.r (.slice y.a y.n y.c)) q o.2.1:=(aw.keep (Kept.frm ae (fun k h1 e=>h1.1 e))).wide (fun k h1=>h1.2);have aj:ColR wb (setRw w6 (w.drew.heap.size) y.r (.slice y.a y.n y.c)) y:=am.frm ae (fun k hk=>by rw [hk];exact ⟨Nat.le_trans ar af,_,_,ai,by decide⟩);have ak:=Za5 ai y.r (.slice y.a y.n y.c);refine Pl.ql 13 (setRw w6 (w.drew.heap.size) y.r (.slice y.a y.n y.c)) (Pl.q1) (Pl.qm 39 (.tmp 16) (.tmp 43) (Zen w6 (w.drew.heap.size) _ _ ai y.r y.a y.n y.c)) ac ?_;refine Pl.q0 14 17 (.bool o.1.isSome) (Pl.q1) (Pl.qd (.tmp 44)) ac ?_;refine Pl.q0 15 18 (q.val) (Pl.q1) (Pl.qd (.tmp 45)) ac ?_;refine Pl.q0 16 19 (.int .i64 o.2.2) (Pl.q1) (Pl.qd (.tmp 46)) ac ?_;refine Pl.q8 (fun A' hA'=>?_);exact Pl.en hA' hA [36,37,38,39,40,41,42,35,43,44,45,46,16,17,18,19] (hend hA'.fn y q _ ⟨_,rfl,af,ak⟩ ap aj an al ac)
theorem Zqj (w:World)(b1 o1 n1 c1 b2 o2 n2 c2 j k:Nat)(x y:Int)(hj:j<n1)(hk:k<n2)(hx:w.cell? ⟨b1,o1+j,none⟩=some (.int .i64 x))(hy:w.cell? ⟨b2,o2+k,none⟩=some (.int .i64 y))(hc:x<y)
    {Q:Exit→Act→World→Prop}(ac:A.tmps.size=114)(ab:A.defers=[])(s12:A.tmps.getD 12 undef=.slice (some ⟨b1,o1,none⟩) n1 c1)(s18:A.tmps.getD 18 undef=.slice (some ⟨b2,o2,none⟩) n2 c2)(s20:A.tmps.getD 20 undef=.int .i64 (k:Int))(s21:A.tmps.getD 21 undef=.int .i64 (j:Int))
    (hend:∀(u:Nat→Value) w',Bl w w'→Q .normal ((Pl.pu A u [61,62,63,64,65,66,67,68,69,70,71,72,73,74]).put (some 75) (.bool true)) w') :
    Pl.rg prog 16 f17 Q A w:=by
  have aa:Bl w w.drew:=Zaa w;have hA:=Pl.At.same (v:=.int .i64 (j:Int)) (d:=21) (Pl.At.same (v:=.int .i64 (k:Int)) (d:=20) (Pl.At.same (v:=.slice (some ⟨b2,o2,none⟩) n2 c2) (d:=18) (Pl.At.same (v:=.slice (some ⟨b1,o1,none⟩) n1 c1) (d:=12) (Pl.At.here ac ab) s12) s18) s20) s21;refine Pl.qb (S:=fun w'=>Bl w w') hA aa ?_;rw [show (Pl.fd 16 f17).size=15 by kernel_rfl];refine Pl.q0 0 61 (.int .i64 (j:Int)) (Pl.q1) (Pl.q2 (.tmp 21)) aa ?_;refine Pl.q0 1 62 (.slice (some ⟨b1,o1,none⟩) n1 c1) (Pl.q1) (Pl.q2 (.tmp 12)) aa ?_;refine Pl.q0 2 63 (.int .i64 (n1:Int)) (Pl.q1) (Pl.qr 29 (.tmp 62) (fun _ _=>rfl)) aa ?_;refine Pl.q0 3 64 (.bool true) (Pl.q1) (Pl.qc .lss 3 3 (.tmp 61) (.tmp 63) (.int .i64 (j:Int)) (.int .i64 (n1:Int)) (fun w=>lssT (j:Int) (n1:Int) _ _ (by omega) w)) aa ?_;refine Pl.q0 4 65 (.bool true) (Pl.q1) (Pl.q2 (.tmp 64)) aa ?_;refine Pl.q0 5 66 (.slice (some ⟨b1,o1,none⟩) n1 c1) (Pl.q3 4 65 true) (Pl.q2 (.tmp 12)) aa ?_;refine Pl.q0 6 67 (.int .i64 (j:Int)) (Pl.q3 4 65 true) (Pl.q2 (.tmp 21)) aa ?_;refine Pl.q0 7 68 (.pointer (some ⟨b1,o1+j,none⟩)) (Pl.q3 4 65 true) (Pl.qa 29 (.tmp 66) (.tmp 67) (ixI1 b1 o1 n1 c1 j hj)) aa ?_;refine Pl.q0 8 69 (.int .i64 x) (Pl.q3 4 65 true) (Pl.q4 3 (.tmp 68) (fun w' hS=>ldI1 b1 (o1+j) x w' (Zaf hx hS))) aa ?_;refine Pl.q0 9 70 (.slice (some ⟨b2,o2,none⟩) n2 c2) (Pl.q3 4 65 true) (Pl.q2 (.tmp 18)) aa ?_;refine Pl.q0 10 71 (.int .i64 (k:Int)) (Pl.q3 4 65 true) (Pl.q2 (.tmp 20)) aa ?_;refine Pl.q0 11 72 (.pointer (some ⟨b2,o2+k,none⟩)) (Pl.q3 4 65 true) (Pl.qa 29 (.tmp 70) (.tmp 71) (ixI1 b2 o2 n2 c2 k hk)) aa ?_;refine Pl.q0 12 73 (.int .i64 y) (Pl.q3 4 65 true) (Pl.q4 3 (.tmp 72) (fun w' hS=>ldI1 b2 (o2+k) y w' (Zaf hy hS))) aa ?_;refine Pl.q0 13 74 (.bool true) (Pl.q3 4 65 true) (Pl.qc .lss 3 3 (.tmp 69) (.tmp 73) (.int .i64 x) (.int .i64 y) (fun w=>lssT x y _ _ hc w)) aa ?_;refine Pl.q0 14 75 (.bool true) (Pl.q1) (Pl.qp (.tmp 65) (.tmp 74) (.const (.bool false))) aa ?_;refine Pl.q8 (fun A' hA'=>?_);exact Pl.en hA' hA [61,62,63,64,65,66,67,68,69,70,71,72,73,74,75] (hend hA'.fn _ aa)
theorem Zqi (w:World)(b1 o1 n1 c1 b2 o2 n2 c2 j k:Nat)(x y:Int)(hj:j<n1)(hk:k<n2)(hx:w.cell? ⟨b1,o1+j,none⟩=some (.int .i64 x))(hy:w.cell? ⟨b2,o2+k,none⟩=some (.int .i64 y))(hc:¬x<y)
    {Q:Exit→Act→World→Prop}(ac:A.tmps.size=114)(ab:A.defers=[])(s12:A.tmps.getD 12 undef=.slice (some ⟨b1,o1,none⟩) n1 c1)(s18:A.tmps.getD 18 undef=.slice (some ⟨b2,o2,none⟩) n2 c2)(s20:A.tmps.getD 20 undef=.int .i64 (k:Int))(s21:A.tmps.getD 21 undef=.int .i64 (j:Int))
    (hend:∀(u:Nat→Value) w',Bl w w'→Q .normal ((Pl.pu A u [61,62,63,64,65,66,67,68,69,70,71,72,73,74]).put (some 75) (.bool false)) w') :
    Pl.rg prog 16 f17 Q A w:=by
  have aa:Bl w w.drew:=Zaa w;have hA:=Pl.At.same (v:=.int .i64 (j:Int)) (d:=21) (Pl.At.same (v:=.int .i64 (k:Int)) (d:=20) (Pl.At.same (v:=.slice (some ⟨b2,o2,none⟩) n2 c2) (d:=18) (Pl.At.same (v:=.slice (some ⟨b1,o1,none⟩) n1 c1) (d:=12) (Pl.At.here ac ab) s12) s18) s20) s21;refine Pl.qb (S:=fun w'=>Bl w w') hA aa ?_;rw [show (Pl.fd 16 f17).size=15 by kernel_rfl];refine Pl.q0 0 61 (.int .i64 (j:Int)) (Pl.q1) (Pl.q2 (.tmp 21)) aa ?_;refine Pl.q0 1 62 (.slice (some ⟨b1,o1,none⟩) n1 c1) (Pl.q1) (Pl.q2 (.tmp 12)) aa ?_;refine Pl.q0 2 63 (.int .i64 (n1:Int)) (Pl.q1) (Pl.qr 29 (.tmp 62) (fun _ _=>rfl)) aa ?_;refine Pl.q0 3 64 (.bool true) (Pl.q1) (Pl.qc .lss 3 3 (.tmp 61) (.tmp 63) (.int .i64 (j:Int)) (.int .i64 (n1:Int)) (fun w=>lssT (j:Int) (n1:Int) _ _ (by omega) w)) aa ?_;refine Pl.q0 4 65 (.bool true) (Pl.q1) (Pl.q2 (.tmp 64)) aa ?_;refine Pl.q0 5 66 (.slice (some ⟨b1,o1,none⟩) n1 c1) (Pl.q3 4 65 true) (Pl.q2 (.tmp 12)) aa ?_;refine Pl.q0 6 67 (.int .i64 (j:Int)) (Pl.q3 4 65 true) (Pl.q2 (.tmp 21)) aa ?_;refine Pl.q0 7 68 (.pointer (some ⟨b1,o1+j,none⟩)) (Pl.q3 4 65 true) (Pl.qa 29 (.tmp 66) (.tmp 67) (ixI1 b1 o1 n1 c1 j hj)) aa ?_;refine Pl.q0 8 69 (.int .i64 x) (Pl.q3 4 65 true) (Pl.q4 3 (.tmp 68) (fun w' hS=>ldI1 b1 (o1+j) x w' (Zaf hx hS))) aa ?_;refine Pl.q0 9 70 (.slice (some ⟨b2,o2,none⟩) n2 c2) (Pl.q3 4 65 true) (Pl.q2 (.tmp 18)) aa ?_;refine Pl.q0 10 71 (.int .i64 (k:Int)) (Pl.q3 4 65 true) (Pl.q2 (.tmp 20)) aa ?_;refine Pl.q0 11 72 (.pointer (some ⟨b2,o2+k,none⟩)) (Pl.q3 4 65 true) (Pl.qa 29 (.tmp 70) (.tmp 71) (ixI1 b2 o2 n2 c2 k hk)) aa ?_;refine Pl.q0 12 73 (.int .i64 y) (Pl.q3 4 65 true) (Pl.q4 3 (.tmp 72) (fun w' hS=>ldI1 b2 (o2+k) y w' (Zaf hy hS))) aa ?_;refine Pl.q0 13 74 (.bool false) (Pl.q3 4 65 true) (Pl.qc .lss 3 3 (.tmp 69) (.tmp 73) (.int .i64 x) (.int .i64 y) (fun w=>lssF x y _ _ hc w)) aa ?_;refine Pl.q0 14 75 (.bool false) (Pl.q1) (Pl.qp (.tmp 65) (.tmp 74) (.const (.bool false))) aa ?_;refine Pl.q8 (fun A' hA'=>?_);exact Pl.en hA' hA [61,62,63,64,65,66,67,68,69,70,71,72,73,74,75] (hend hA'.fn _ aa)
theorem Zqm (w:World)(b1 o1 n1 c1 b2 o2 n2 c2 j k:Nat)(x y:Int)(hj:j<n1)(hk:k<n2)(hx:w.cell? ⟨b1,o1+j,none⟩=some (.int .i64 x))(hy:w.cell? ⟨b2,o2+k,none⟩=some (.int .i64 y))(hc:x≠y)
    {Q:Exit→Act→World→Prop}(ac:A.tmps.size=114)(ab:A.defers=[])(s12:A.tmps.getD 12 undef=.slice (some ⟨b1,o1,none⟩) n1 c1)(s18:A.tmps.getD 18 undef=.slice (some ⟨b2,o2,none⟩) n2 c2)(s20:A.tmps.getD 20 undef=.int .i64 (k:Int))(s21:A.tmps.getD 21 undef=.int .i64 (j:Int))
    (hend:∀(u:Nat→Value) w',Bl w w'→Q .normal ((Pl.pu A u [78,79,80,81,82,83,84,85,86,87,88,89,90,91]).put (some 92) (.bool true)) w') :
    Pl.rg prog 18 f17 Q A w:=by
  have aa:Bl w w.drew:=Zaa w;have hA:=Pl.At.same (v:=.int .i64 (j:Int)) (d:=21) (Pl.At.same (v:=.int .i64 (k:Int)) (d:=20) (Pl.At.same (v:=.slice (some ⟨b2,o2,none⟩) n2 c2) (d:=18) (Pl.At.same (v:=.slice (some ⟨b1,o1,none⟩) n1 c1) (d:=12) (Pl.At.here ac ab) s12) s18) s20) s21;refine Pl.qb (S:=fun w'=>Bl w w') hA aa ?_;rw [show (Pl.fd 18 f17).size=15 by kernel_rfl];refine Pl.q0 0 78 (.int .i64 (j:Int)) (Pl.q1) (Pl.q2 (.tmp 21)) aa ?_;refine Pl.q0 1 79 (.slice (some ⟨b1,o1,none⟩) n1 c1) (Pl.q1) (Pl.q2 (.tmp 12)) aa ?_;refine Pl.q0 2 80 (.int .i64 (n1:Int)) (Pl.q1) (Pl.qr 29 (.tmp 79) (fun _ _=>rfl)) aa ?_;refine Pl.q0 3 81 (.bool false) (Pl.q1) (Pl.qc .eql 3 3 (.tmp 78) (.tmp 80) (.int .i64 (j:Int)) (.int .i64 (n1:Int)) (fun w=>eqlF (j:Int) (n1:Int) _ _ (by omega) w)) aa ?_;refine Pl.q0 4 82 (.bool false) (Pl.q1) (Pl.q2 (.tmp 81)) aa ?_;refine Pl.q0 5 83 (.slice (some ⟨b1,o1,none⟩) n1 c1) (Pl.q3 4 82 false) (Pl.q2 (.tmp 12)) aa ?_;refine Pl.q0 6 84 (.int .i64 (j:Int)) (Pl.q3 4 82 false) (Pl.q2 (.tmp 21)) aa ?_;refine Pl.q0 7 85 (.pointer (some ⟨b1,o1+j,none⟩)) (Pl.q3 4 82 false) (Pl.qa 29 (.tmp 83) (.tmp 84) (ixI1 b1 o1 n1 c1 j hj)) aa ?_;refine Pl.q0 8 86 (.int .i64 x) (Pl.q3 4 82 false) (Pl.q4 3 (.tmp 85) (fun w' hS=>ldI1 b1 (o1+j) x w' (Zaf hx hS))) aa ?_;refine Pl.q0 9 87 (.slice (some ⟨b2,o2,none⟩) n2 c2) (Pl.q3 4 82 false) (Pl.q2 (.tmp 18)) aa ?_;refine Pl.q0 10 88 (.int .i64 (k:Int)) (Pl.q3 4 82 false) (Pl.q2 (.tmp 20)) aa ?_;refine Pl.q0 11 89 (.pointer (some ⟨b2,o2+k,none⟩)) (Pl.q3 4 82 false) (Pl.qa 29 (.tmp 87) (.tmp 88) (ixI1 b2 o2 n2 c2 k hk)) aa ?_;refine Pl.q0 12 90 (.int .i64 y) (Pl.q3 4 82 false) (Pl.q4 3 (.tmp 89) (fun w' hS=>ldI1 b2 (o2+k) y w' (Zaf hy hS))) aa ?_;refine Pl.q0 13 91 (.bool true) (Pl.q3 4 82 false) (Pl.qc .neq 3 3 (.tmp 86) (.tmp 90) (.int .i64 x) (.int .i64 y) (fun w=>neqT x y _ _ hc w)) aa ?_;refine Pl.q0 14 92 (.bool true) (Pl.q1) (Pl.qk (.tmp 82) (.const (.bool true)) (.tmp 91)) aa ?_;refine Pl.q8 (fun A' hA'=>?_);exact Pl.en hA' hA [78,79,80,81,82,83,84,85,86,87,88,89,90,91,92] (hend hA'.fn _ aa)
theorem Zql (w:World)(b1 o1 n1 c1 b2 o2 n2 c2 j k:Nat)(x y:Int)(hj:j<n1)(hk:k<n2)(hx:w.cell? ⟨b1,o1+j,none⟩=some (.int .i64 x))(hy:w.cell? ⟨b2,o2+k,none⟩=some (.int .i64 y))(hc:x=y)
    {Q:Exit→Act→World→Prop}(ac:A.tmps.size=114)(ab:A.defers=[])(s12:A.tmps.getD 12 undef=.slice (some ⟨b1,o1,none⟩) n1 c1)(s18:A.tmps.getD 18 undef=.slice (some ⟨b2,o2,none⟩) n2 c2)(s20:A.tmps.getD 20 undef=.int .i64 (k:Int))(s21:A.tmps.getD 21 undef=.int .i64 (j:Int))
    (hend:∀(u:Nat→Value) w',Bl w w'→Q .normal ((Pl.pu A u [78,79,80,81,82,83,84,85,86,87,88,89,90,91]).put (some 92) (.bool false)) w') :
    Pl.rg prog 18 f17 Q A w:=by
  have aa:Bl w w.drew:=Zaa w;have hA:=Pl.At.same (v:=.int .i64 (j:Int)) (d:=21) (Pl.At.same (v:=.int .i64 (k:Int)) (d:=20) (Pl.At.same (v:=.slice (some ⟨b2,o2,none⟩) n2 c2) (d:=18) (Pl.At.same (v:=.slice (some ⟨b1,o1,none⟩) n1 c1) (d:=12) (Pl.At.here ac ab) s12) s18) s20) s21;refine Pl.qb (S:=fun w'=>Bl w w') hA aa ?_;rw [show (Pl.fd 18 f17).size=15 by kernel_rfl];refine Pl.q0 0 78 (.int .i64 (j:Int)) (Pl.q1) (Pl.q2 (.tmp 21)) aa ?_;refine Pl.q0 1 79 (.slice (some ⟨b1,o1,none⟩) n1 c1) (Pl.q1) (Pl.q2 (.tmp 12)) aa ?_;refine Pl.q0 2 80 (.int .i64 (n1:Int)) (Pl.q1) (Pl.qr 29 (.tmp 79) (fun _ _=>rfl)) aa ?_;refine Pl.q0 3 81 (.bool false) (Pl.q1) (Pl.qc .eql 3 3 (.tmp 78) (.tmp 80) (.int .i64 (j:Int)) (.int .i64 (n1:Int)) (fun w=>eqlF (j:Int) (n1:Int) _ _ (by omega) w)) aa ?_;refine Pl.q0 4 82 (.bool false) (Pl.q1) (Pl.q2 (.tmp 81)) aa ?_;refine Pl.q0 5 83 (.slice (some ⟨b1,o1,none⟩) n1 c1) (Pl.q3 4 82 false) (Pl.q2 (.tmp 12)) aa ?_;refine Pl.q0 6 84 (.int .i64 (j:Int)) (Pl.q3 4 82 false) (Pl.q2 (.tmp 21)) aa ?_;refine Pl.q0 7 85 (.pointer (some ⟨b1,o1+j,none⟩)) (Pl.q3 4 82 false) (Pl.qa 29 (.tmp 83) (.tmp 84) (ixI1 b1 o1 n1 c1 j hj)) aa ?_;refine Pl.q0 8 86 (.int .i64 x) (Pl.q3 4 82 false) (Pl.q4 3 (.tmp 85) (fun w' hS=>ldI1 b1 (o1+j) x w' (Zaf hx hS))) aa ?_;refine Pl.q0 9 87 (.slice (some ⟨b2,o2,none⟩) n2 c2) (Pl.q3 4 82 false) (Pl.q2 (.tmp 18)) aa ?_;refine Pl.q0 10 88 (.int .i64 (k:Int)) (Pl.q3 4 82 false) (Pl.q2 (.tmp 20)) aa ?_;refine Pl.q0 11 89 (.pointer (some ⟨b2,o2+k,none⟩)) (Pl.q3 4 82 false) (Pl.qa 29 (.tmp 87) (.tmp 88) (ixI1 b2 o2 n2 c2 k hk)) aa ?_;refine Pl.q0 12 90 (.int .i64 y) (Pl.q3 4 82 false) (Pl.q4 3 (.tmp 89) (fun w' hS=>ldI1 b2 (o2+k) y w' (Zaf hy hS))) aa ?_;refine Pl.q0 13 91 (.bool false) (Pl.q3 4 82 false) (Pl.qc .neq 3 3 (.tmp 86) (.tmp 90) (.int .i64 x) (.int .i64 y) (fun w=>neqF x y _ _ (fun h=>h hc) w)) aa ?_;refine Pl.q0 14 92 (.bool false) (Pl.q1) (Pl.qk (.tmp 82) (.const (.bool true)) (.tmp 91)) aa ?_;refine Pl.q8 (fun A' hA'=>?_);exact Pl.en hA' hA [78,79,80,81,82,83,84,85,86,87,88,89,90,91,92] (hend hA'.fn _ aa)
theorem Zqh (w:World)(a1:Option Addr)(n1 c1 k:Nat)
    {Q:Exit→Act→World→Prop}(ac:A.tmps.size=114)(ab:A.defers=[])(s12:A.tmps.getD 12 undef=.slice a1 n1 c1)(s20:A.tmps.getD 20 undef=.int .i64 (k:Int))(s21:A.tmps.getD 21 undef=.int .i64 (n1:Int))
    (hend:∀(u:Nat→Value) w',Bl w w'→Q .normal ((Pl.pu A u [61,62,63,64,65,66,67,68,69,70,71,72,73,74]).put (some 75) (.bool false)) w') :
    Pl.rg prog 16 f17 Q A w:=by
  have aa:Bl w w.drew:=Zaa w;have hA:=Pl.At.same (v:=.int .i64 (n1:Int)) (d:=21) (Pl.At.same (v:=.int .i64 (k:Int)) (d:=20) (Pl.At.same (v:=.slice a1 n1 c1) (d:=12) (Pl.At.here ac ab) s12) s20) s21;refine Pl.qb (S:=fun w'=>Bl w w') hA aa ?_;rw [show (Pl.fd 16 f17).size=15 by kernel_rfl];refine Pl.q0 0 61 (.int .i64 (n1:Int)) (Pl.q1) (Pl.q2 (.tmp 21)) aa ?_;refine Pl.q0 1 62 (.slice a1 n1 c1) (Pl.q1) (Pl.q2 (.tmp 12)) aa ?_;refine Pl.q0 2 63 (.int .i64 (n1:Int)) (Pl.q1) (Pl.qr 29 (.tmp 62) (fun _ _=>rfl)) aa ?_;refine Pl.q0 3 64 (.bool false) (Pl.q1) (Pl.qc .lss 3 3 (.tmp 61) (.tmp 63) (.int .i64 (n1:Int)) (.int .i64 (n1:Int)) (fun w=>lssF (n1:Int) (n1:Int) _ _ (by omega) w)) aa ?_;refine Pl.q0 4 65 (.bool false) (Pl.q1) (Pl.q2 (.tmp 64)) aa ?_;refine Pl.q5 5 66 (Pl.q7 4 65 true) aa ?_;refine Pl.q5 6 67 (Pl.q7 4 65 true) aa ?_;refine Pl.q5 7 68 (Pl.q7 4 65 true) aa ?_;refine Pl.q5 8 69 (Pl.q7 4 65 true) aa ?_;refine Pl.q5 9 70 (Pl.q7 4 65 true) aa ?_;refine Pl.q5 10 71 (Pl.q7 4 65 true) aa ?_;refine Pl.q5 11 72 (Pl.q7 4 65 true) aa ?_;refine Pl.q5 12 73 (Pl.q7 4 65 true) aa ?_;refine Pl.q5 13 74 (Pl.q7 4 65 true) aa ?_;refine Pl.q0 14 75 (.bool false) (Pl.q1) (Pl.qk (.tmp 65) (.tmp 74) (.const (.bool false))) aa ?_;refine Pl.q8 (fun A' hA'=>?_);exact Pl.en hA' hA [61,62,63,64,65,66,67,68,69,70,71,72,73,74,75] (hend hA'.fn _ aa)
theorem Zqk (w:World)(a1:Option Addr)(n1 c1 k:Nat)
    {Q:Exit→Act→World→Prop}(ac:A.tmps.size=114)(ab:A.defers=[])(s12:A.tmps.getD 12 undef=.slice a1 n1 c1)(s20:A.tmps.getD 20 undef=.int .i64 (k:Int))(s21:A.tmps.getD 21 undef=.int .i64 (n1:Int))
    (hend:∀(u:Nat→Value) w',Bl w w'→Q .normal ((Pl.pu A u [78,79,80,81,82,83,84,85,86,87,88,89,90,91]).put (some 92) (.bool true)) w') :
    Pl.rg prog 18 f17 Q A w:=by
  have aa:Bl w w.drew:=Zaa w;have hA:=Pl.At.same (v:=.int .i64 (n1:Int)) (d:=21) (Pl.At.same (v:=.int .i64 (k:Int)) (d:=20) (Pl.At.same (v:=.slice a1 n1 c1) (d:=12) (Pl.At.here ac ab) s12) s20) s21;refine Pl.qb (S:=fun w'=>Bl w w') hA aa ?_;rw [show (Pl.fd 18 f17).size=15 by kernel_rfl];refine Pl.q0 0 78 (.int .i64 (n1:Int)) (Pl.q1) (Pl.q2 (.tmp 21)) aa ?_;refine Pl.q0 1 79 (.slice a1 n1 c1) (Pl.q1) (Pl.q2 (.tmp 12)) aa ?_;refine Pl.q0 2 80 (.int .i64 (n1:Int)) (Pl.q1) (Pl.qr 29 (.tmp 79) (fun _ _=>rfl)) aa ?_;refine Pl.q0 3 81 (.bool true) (Pl.q1) (Pl.qc .eql 3 3 (.tmp 78) (.tmp 80) (.int .i64 (n1:Int)) (.int .i64 (n1:Int)) (fun w=>eqlT (n1:Int) (n1:Int) _ _ rfl w)) aa ?_;refine Pl.q0 4 82 (.bool true) (Pl.q1) (Pl.q2 (.tmp 81)) aa ?_;refine Pl.q5 5 83 (Pl.q7 4 82 false) aa ?_;refine Pl.q5 6 84 (Pl.q7 4 82 false) aa ?_;refine Pl.q5 7 85 (Pl.q7 4 82 false) aa ?_;refine Pl.q5 8 86 (Pl.q7 4 82 false) aa ?_;refine Pl.q5 9 87 (Pl.q7 4 82 false) aa ?_;refine Pl.q5 10 88 (Pl.q7 4 82 false) aa ?_;refine Pl.q5 11 89 (Pl.q7 4 82 false) aa ?_;refine Pl.q5 12 90 (Pl.q7 4 82 false) aa ?_;refine Pl.q5 13 91 (Pl.q7 4 82 false) aa ?_;refine Pl.q0 14 92 (.bool true) (Pl.q1) (Pl.qp (.tmp 82) (.const (.bool true)) (.tmp 91)) aa ?_;refine Pl.q8 (fun A' hA'=>?_);exact Pl.en hA' hA [78,79,80,81,82,83,84,85,86,87,88,89,90,91,92] (hend hA'.fn _ aa)
theorem Zps {w13:World}{s13:Sl}{ay:Nat}{x:Int}(hq:Nq w w13 s13 ([] ++ t.take ay ++ [x] ++ t.drop ay)):Nq w w13 s13 (t.take ay ++ x :: t.drop ay):=by
 (have e:[] ++ t.take ay ++ [x] ++ t.drop ay=t.take ay ++ x :: t.drop ay:=by simp);rwa [e] at hq
theorem Zpc {D:Nat→Prop}(w:World)(s:Sl)(t:List Int)(hs:Gi D w s t)(hl:s.len+1≤1000000)(ay:Nat)(am:ay≤s.len)(b2 o2 n2 c2 k:Nat)(y:Int)(hk:k<n2)(hy:w.cell? ⟨b2,o2+k,none⟩=some (.int .i64 y))
    {Q:Exit→Act→World→Prop}(az:A.tmps.size=114)(ax:A.defers=[])(s12:A.tmps.getD 12 undef=.slice s.a s.len s.cap)(s21:A.tmps.getD 21 undef=.int .i64 (ay:Int))(s18:A.tmps.getD 18 undef=.slice (some ⟨b2,o2,none⟩) n2 c2)(s20:A.tmps.getD 20 undef=.int .i64 (k:Int))
    (hend:∀(u:Nat→Value)(s13:Sl) w',Nq w w' s13 (t.take ay ++ y :: t.drop ay)→s13.len=s.len+1→Q .normal ((Pl.pu A u [94,95,96,98,99,100,101,104,105,106,93,97,102,103,107]).put (some 12) (s13.val)) w') :
    Pl.rg prog 19 f17 Q A w:=by
  have ae:Bl w w.drew:=Zaa w;have hA:=Pl.At.same (v:=.int .i64 (k:Int)) (d:=20) (Pl.At.same (v:=.slice (some ⟨b2,o2,none⟩) n2 c2) (d:=18) (Pl.At.same (v:=.int .i64 (ay:Int)) (d:=21) (Pl.At.same (v:=.slice s.a s.len s.cap) (d:=12) (Pl.At.here az ax) s12) s21) s18) s20;refine Pl.qb (S:=fun w'=>Bl w w') hA ae ?_;rw [show (Pl.fd 19 f17).size=16 by kernel_rfl];refine Pl.q0 1 94 (.slice s.a s.len s.cap) (Pl.q1) (Pl.q2 (.tmp 12)) ae ?_;refine Pl.q0 2 95 (.int .i64 (ay:Int)) (Pl.q1) (Pl.q2 (.tmp 21)) ae ?_;refine Pl.q0 3 96 (.slice (fromA s.a s.cap 0) ay s.cap) (Pl.q1) (Pl.qt 29 (.tmp 94) none (some (.tmp 95)) (fun w=>ZhV s.a s.len s.cap ay (by have:=hs.le;omega) w)) ae ?_;refine Pl.q0 5 98 (.slice (some ⟨b2,o2,none⟩) n2 c2) (Pl.q1) (Pl.q2 (.tmp 18)) ae ?_;refine Pl.q0 6 99 (.int .i64 (k:Int)) (Pl.q1) (Pl.q2 (.tmp 20)) ae ?_;refine Pl.q0 7 100 (.pointer (some ⟨b2,o2+k,none⟩)) (Pl.q1) (Pl.qa 29 (.tmp 98) (.tmp 99) (ixI1 b2 o2 n2 c2 k hk)) ae ?_;refine Pl.q0 8 101 (.int .i64 y) (Pl.q1) (Pl.q4 3 (.tmp 100) (fun w' hS=>ldI1 b2 (o2+k) y w' (Zaf hy hS))) ae ?_;refine Pl.q0 11 104 (.slice s.a s.len s.cap) (Pl.q1) (Pl.q2 (.tmp 12)) ae ?_;refine Pl.q0 12 105 (.int .i64 (ay:Int)) (Pl.q1) (Pl.q2 (.tmp 21)) ae ?_;refine Pl.q0 13 106 (.slice (fromA s.a s.cap ay) (s.len-ay) (s.cap-ay)) (Pl.q1) (Pl.qt 29 (.tmp 104) (some (.tmp 105)) none (fun w=>ZhU s.a s.len s.cap ay am w)) ae ?_;refine Pl.qs 0 9 ?_ ?_
  · have al:Nq w (w.drew.alloc (.cells #[] 3)) ⟨some ⟨w.drew.heap.size,0,none⟩,0,0⟩ []:=Nq.new0 ae;refine Pl.qj 0 93 (.slice (some ⟨w.drew.heap.size,0,none⟩) 0 0) (w.drew.alloc (.cells #[] 3)) (Pl.zero 0 29 _ _ (by kernel_rfl) (Zfy w.drew)) al.below ?_;refine Pl.qs 4 9 ?_ ?_
    · obtain⟨s5,w5,af,ai,aq,ao⟩:=al.app (((hs.below al.below (Nat.le_refl _)).upto am).src) (by show 0+ay≤_;omega);(have ac:s5.len=ay:=by rw [ao];exact Nat.zero_add ay);refine Pl.qj 4 97 (s5.val) w5 (Pl.qz 29 29 (.tmp 93) (.tmp 96) af) ai.below ?_;have ak:Nq w (w5.alloc (.cells #[.int .i64 y] 3)) ⟨some ⟨w5.heap.size,0,none⟩,1,1⟩ [y]:=Nq.lit1 ai.below y;have au:=ai.keep (Zab w5 (.cells #[.int .i64 y] 3));refine Pl.qf 9 102 (.slice (some ⟨w5.heap.size,0,none⟩) 1 1) (w5.alloc (.cells #[.int .i64 y] 3)) (Pl.q1) (Pl.qu 29 (.tmp 101) (Zd4 y w5)) ak.below ?_;obtain⟨s8,w8,ag,aj,av,ap⟩:=au.app ((ak.gi (by show 1≤1000000;omega)).src) (by rw [ac];show ay+1≤_;omega);(have ad:s8.len=ay+1:=by rw [ap,ac]);refine Pl.qf 10 103 (s8.val) w8 (Pl.q1) (Pl.qz 29 29 (.tmp 97) (.tmp 102) ag) aj.below ?_;obtain⟨s13,w13,ab,aa,an,ah⟩:=aj.app (((hs.below aj.below (Nat.le_refl _)).from_ am).src) (by rw [ad];show ay+1+(s.len-ay)≤_;omega);refine Pl.qf 14 107 (s13.val) w13 (Pl.q1) (Pl.qz 29 29 (.tmp 103) (.tmp 106) ab) aa.below ?_;refine Pl.q0 15 12 (s13.val) (Pl.q1) (Pl.qd (.tmp 107)) aa.below ?_;refine Pl.q8 (fun A' hA'=>?_);exact Pl.en hA' hA [94,95,96,98,99,100,101,104,105,106,93,97,102,103,107,12] (hend hA'.fn _ _ (Zps aa) (by rw [ah,ad];show ay+1+(s.len-ay)=_;omega))
    · have ak:Nq w ((w.drew.alloc (.cells #[] 3)).alloc (.cells #[.int .i64 y] 3)) ⟨some ⟨((w.drew.alloc (.cells #[] 3))).heap.size,0,none⟩,1,1⟩ [y]:=Nq.lit1 al.below y;have au:=al.keep (Zab ((w.drew.alloc (.cells #[] 3))) (.cells #[.int .i64 y] 3));refine Pl.qj 9 102 (.slice (some ⟨((w.drew.alloc (.cells #[] 3))).heap.size,0,none⟩) 1 1) ((w.drew.alloc (.cells #[] 3)).alloc (.cells #[.int .i64 y] 3)) (Pl.qu 29 (.tmp 101) (Zd4 y ((w.drew.alloc (.cells #[] 3))))) ak.below ?_;obtain⟨s5,w5,af,ai,aq,ao⟩:=au.app (((hs.below ak.below (Nat.le_refl _)).upto am).src) (by show 0+ay≤_;omega);(have ac:s5.len=ay:=by rw [ao];exact Nat.zero_add ay);have ar:=ak.other aq ai.below (fun k e1 e2=>by simp only [Sl.blk,Option.map_some,Option.some.injEq,Zae] at e1 e2;omega);refine Pl.qf 4 97 (s5.val) w5 (Pl.q1) (Pl.qz 29 29 (.tmp 93) (.tmp 96) af) ai.below ?_;rw [Pl.qg 102 97];obtain⟨s8,w8,ag,aj,av,ap⟩:=ai.app ((ar.gi (by show 1≤1000000;omega)).src) (by rw [ac];show ay+1≤_;omega);(have ad:s8.len=ay+1:=by rw [ap,ac]);refine Pl.qf 10 103 (s8.val) w8 (Pl.q1) (Pl.qz 29 29 (.tmp 97) (.tmp 102) ag) aj.below ?_;obtain⟨s13,w13,ab,aa,an,ah⟩:=aj.app (((hs.below aj.below (Nat.le_refl _)).from_ am).src) (by rw [ad];show ay+1+(s.len-ay)≤_;omega);refine Pl.qf 14 107 (s13.val) w13 (Pl.q1) (Pl.qz 29 29 (.tmp 103) (.tmp 106) ab) aa.below ?_;refine Pl.q0 15 12 (s13.val) (Pl.q1) (Pl.qd (.tmp 107)) aa.below ?_;refine Pl.q8 (fun A' hA'=>?_);exact Pl.en hA' hA [94,95,96,98,99,100,101,104,105,106,93,97,102,103,107,12] (hend hA'.fn _ _ (Zps aa) (by rw [ah,ad];show ay+1+(s.len-ay)=_;omega))
  · have ak:Nq w (w.drew.alloc (.cells #[.int .i64 y] 3)) ⟨some ⟨w.drew.heap.size,0,none⟩,1,1⟩ [y]:=Nq.lit1 ae y;refine Pl.qj 9 102 (.slice (some ⟨w.drew.heap.size,0,none⟩) 1 1) (w.drew.alloc (.cells #[.int .i64 y] 3)) (Pl.qu 29 (.tmp 101) (Zd4 y w.drew)) ak.below ?_;have al:Nq w ((w.drew.alloc (.cells #[.int .i64 y] 3)).alloc (.cells #[] 3)) ⟨some ⟨((w.drew.alloc (.cells #[.int .i64 y] 3))).heap.size,0,none⟩,0,0⟩ []:=Nq.new0 ak.below;have aw:=ak.keep (Zab ((w.drew.alloc (.cells #[.int .i64 y] 3))) (.cells #[] 3));refine Pl.qf 0 93 (.slice (some ⟨((w.drew.alloc (.cells #[.int .i64 y] 3))).heap.size,0,none⟩) 0 0) ((w.drew.alloc (.cells #[.int .i64 y] 3)).alloc (.cells #[] 3)) (Pl.q1) (Pl.zero 0 29 _ _ (by kernel_rfl) (Zfy ((w.drew.alloc (.cells #[.int .i64 y] 3))))) al.below ?_;rw [Pl.qg 102 93];obtain⟨s5,w5,af,ai,aq,ao⟩:=al.app (((hs.below al.below (Nat.le_refl _)).upto am).src) (by show 0+ay≤_;omega);(have ac:s5.len=ay:=by rw [ao];exact Nat.zero_add ay);have ar:=aw.other aq ai.below (fun k e1 e2=>by simp only [Sl.blk,Option.map_some,Option.some.injEq,Zae] at e1 e2;omega);refine Pl.qf 4 97 (s5.val) w5 (Pl.q1) (Pl.qz 29 29 (.tmp 93) (.tmp 96) af) ai.below ?_;rw [Pl.qg 102 97];obtain⟨s8,w8,ag,aj,av,ap⟩:=ai.app ((ar.gi (by show 1≤1000000;omega)).src) (by rw [ac];show ay+1≤_;omega);(have ad:s8.len=ay+1:=by rw [ap,ac]);refine Pl.qf 10 103 (s8.val) w8 (Pl.q1) (Pl.qz 29 29 (.tmp 97) (.tmp 102) ag) aj.below ?_;obtain⟨s13,w13,ab,aa,an,ah⟩:=aj.app (((hs.below aj.below (Nat.le_refl _)).from_ am).src) (by rw [ad];show ay+1+(s.len-ay)≤_;omega);refine Pl.qf 14 107 (s13.val) w13 (Pl.q1) (Pl.qz 29 29 (.tmp 103) (.tmp 106) ab) aa.below ?_;refine Pl.q0 15 12 (s13.val) (Pl.q1) (Pl.qd (.tmp 107)) aa.below ?_;refine Pl.q8 (fun A' hA'=>?_);exact Pl.en hA' hA [94,95,96,98,99,100,101,104,105,106,93,97,102,103,107,12] (hend hA'.fn _ _ (Zps aa) (by rw [ah,ad];show ay+1+(s.len-ay)=_;omega))
theorem Gl.good {D:Nat→Prop}(h:Gl D w s L):∀g∈allH (lfs L),Zfu g.r:=by
 intro g hg;obtain⟨h1,h2,h3⟩:=Zg7.1 hg;refine⟨(ZlG ?_ h3).key,(ZcT hg).1⟩;have hm:lf (lfs L) g.i∈lfs L:=ZcA h1;obtain⟨x,hx,aa⟩:=List.mem_map.1 hm;rw [← aa] at h2 ⊢;have hk:g.k<x.v.len:=by
  (have e:(bss x.l).length=x.v.len:=by rw [Zaj,(h.it x hx).2.len]);rw [← e];exact h2
 exact((h.it x hx).2.at hk).1.came.bs.2.1
theorem ZhA:∀(a b:List Int),a.Nodup→(∀x,x∈a→x∈b)→a.length≤b.length
 | [],b,_,_=>Nat.zero_le _
 | x :: a,b,hn,hs=>by
  have hx:=hs x (by simp)
  have hn':=List.nodup_cons.1 hn
  have:=ZhA a (b.erase x) hn'.2 (fun y hy=>(List.mem_erase_of_ne (fun e=>hn'.1 (by rw [← e];exact hy))).2 (hs y (by simp [hy])))
  rw [List.length_erase_of_mem hx] at this
  have aa:0<b.length:=List.length_pos_of_mem hx
  rw [List.length_cons]
  omega
theorem ZrA {a b:List Int}(h:Up a)(hs:∀x,x∈a→x∈b):a.length≤b.length:=ZhA a b (List.Pairwise.imp (fun h e=>by omega) h) hs
theorem Vn.look_who {α:Type}(V:Vn α)(S:List α)(hS:∀r q,V.nx r=some (some q)→q∈S):∀(n:Nat)(r:α)(t:Int),t∈(V.look n r).2.1→t=V.wr r∨t∈S.map V.wr
 | n,r,t,h=>by
  cases hs:V.see r with
  | true=>rw [V.look_seen n hs] at h;cases h
  | false =>
   cases n with
   | zero=>rw [V.look_end hs] at h;exact .inl (by simpa using h)
   | succ n =>
    cases hn:V.nx r with
    | none=>rw [V.look_old (n+1) hs hn] at h;exact .inl (by simpa using h)
    | some o =>
     cases o with
     | none=>rw [V.look_new n hs hn] at h;exact .inl (by simpa using h)
     | some q =>
      rw [V.look_next n hs hn] at h
      rcases List.mem_cons.1 h with e | e
      · exact .inl e
      · rcases V.look_who S hS n q t e with e | e
        · exact .inr (by rw [e];exact List.mem_map.2 ⟨q,hS r q hn,rfl⟩)
        · exact .inr e
theorem ZpO {u:List Un}{r q:Rw}(h:nxB u r=some (some q)):q∈u.map Un.row:=by
 unfold nxB at h;split at h
 · rename_i h2;split at h
   · cases h
   · simp only [Option.some.injEq] at h;rw [← h];have h0:(atU u r.cell).emp=false:=by
      unfold getU at h2;split at h2
      · cases h2
      · rename_i hn;cases hh:(atU u r.cell).emp with
        | false=>rfl
        | true=>exact absurd (.inl hh) hn
     have hc:=Zgi h0;have e:(getU u r.cell r.no).1=atU u r.cell:=by
      unfold getU at h2 ⊢;split at h2
      · cases h2
      · rename_i hn;rw [if_neg hn]
     rw [e,Zl3 hc];(have hi:(r.cell-1).toNat<u.length:=by omega);rw [unget hi];exact List.mem_map.2 ⟨_,List.getElem_mem hi,rfl⟩
 · cases h
theorem ZoE {u:List Un}{L:List Rw}(h:Up t)(hs:∀x∈t,x∈(vnB u v).whos L):t.length≤L.length+u.length:=by
 have:=ZrA (a:=t) (b:=L.map Rw.wr ++ (u.map Un.row).map Rw.wr) h (fun x hx=>by
  obtain⟨r,hr,hm⟩:=List.mem_flatMap.1 (hs x hx);rcases (vnB u v).look_who (u.map Un.row) (fun r q hq=>ZpO hq) 400 r x hm with e | e
  · exact List.mem_append.2 (.inl (List.mem_map.2 ⟨r,hr,e.symm⟩))
  · exact List.mem_append.2 (.inr e))
 simpa using this
theorem ZoL {t:Int}(hj:j≤l.length)(h1:∀m,m<j→l.getD m 0<t)(h2:j<l.length→¬l.getD j 0<t):atV l t=j:=by
 have a:=ZoM l t;rcases Nat.lt_trichotomy (atV l t) j with e | e | e
 · exact absurd (h1 _ e) (ZoK (by omega))
 · exact e
 · exact absurd (ZoN e) (h2 (by omega))
theorem ZjU (h:Up l){t:Int}(ha:atV l t=j)(hj:j<l.length)(he:l.getD j 0=t):addN l t=l:=by
 unfold addN;rw [if_pos ((Zl4 h).2 ⟨by rw [ha];exact hj,by rw [ha];exact he⟩)]
theorem Zjh (h:Up l){t:Int}(ha:atV l t=j)(he:j<l.length→l.getD j 0≠t):addN l t=l.take j ++ t :: l.drop j:=by
 unfold addN;rw [if_neg (fun hm=>by
  have:=(Zl4 h).1 hm;rw [ha] at this;exact he this.1 this.2)]
 unfold insV;rw [ha]
theorem Zkr {m:List Int}(hk:k<m.length):(m.take (k+1)).foldl addN l=addN ((m.take k).foldl addN l) (m.getD k 0):=by
 rw [List.take_succ_eq_append_getElem hk,List.foldl_append];simp [List.getD,hk]
theorem Zjj {l:List Lf}(h:MayH l):(allH l).length≤62000:=by
 have h1:=Ze2 l 0 (fun f hf=>by have:=(h.leaf f hf).slots.1;omega);have h2:=h.few;unfold allH;have h3:l.length*1000≤62*1000:=Nat.mul_le_mul_right _ h2;omega
structure RzS (w:World) (s:Sl) (l:List Rx):Prop where
  rz:Rz w s.a s.len l
  le:s.len≤s.cap
  nil:s.a=none→s.cap=0
theorem RzS.keep {l:List Rx}(h:RzS w s l)(hb:Bl w w'):RzS w' s l:=⟨h.rz.keep hb (Nat.le_refl _),h.le,h.nil⟩
theorem RzS.none (w:World):RzS w Sl.nil []:=⟨⟨rfl,fun j hj=>absurd hj (Nat.not_lt_zero _),(fun x hx=>by cases hx),(fun x hx=>by cases hx)⟩,Nat.le_refl _,fun _=>rfl⟩
theorem Rq.rzs {l:List Rx}(h:Rq w0 w s l):RzS w s l:=⟨h.rz,Own.lecap h.own,Own.nilcap h.own⟩
theorem Za9.frm {F:Nat→Prop}{l:List Rx}(h:Za9 w s l)(hf:Frm F w W)(hn:∀b off,s.a=some ⟨b,off,none⟩→0<s.len→¬F b)(hF:∀k,F k→∀C fr,w.heap[k]? ≠ some (Obj.cells C 32 fr)):Za9 W s l:=by
 have hc:∀x∈l,ColF W x:=fun x hx=>(h.flt x hx).frm hf hF;refine⟨⟨h.rz.len,fun j hj=>?_,fun x hx=>(hc x hx).fs,h.rz.fits⟩,h.le,h.nil,hc⟩;obtain⟨b,off,ha,aa⟩:=h.rz.at' j hj;exact⟨b,off,ha,aa.frm (hf.block b (World.block_lt_of_cell? _ _ aa.c0) (hn b off ha (by omega)))⟩
theorem Sl.val_inj {t:Sl}(h:s.val=t.val):s=t:=by
 obtain⟨a,n,c⟩:=s;obtain⟨b,m,d⟩:=t;unfold Sl.val at h;simp only [Value.slice.injEq] at h;obtain⟨rfl,rfl,rfl⟩:=h;rfl
theorem Rq.oneB {l:List Rx}(h:Rq w0 w s l)(x:Rx)(hx:ColR w0 w x)(hf:x.r.fits)(hl:l.length+1≤1000000) :
    ∃s' W,(∀ty,(Builtin.append_ #[49,49] ty #[s.val,.slice (some ⟨w.heap.size,0,none⟩) 1 1]).run prog (w.alloc (.cells #[.float .f64 x.r.key,.bool x.r.dead,.slice x.a x.n x.c,.int .i64 x.r.wr,.int .i64 x.r.cell,.int .i64 x.r.no] 39))=.ok s'.val W)∧Rq w0 W s' (l ++ [x])∧Frm (fun k=>s.blk=some k) w W∧(s'.blk=s.blk∨∀k,s'.blk=some k→w.heap.size≤k):=by
  obtain⟨s',W,aa,hq,ad⟩:=h.one x hx hf hl;have hB:=Zab w (.cells #[.float .f64 x.r.key,.bool x.r.dead,.slice x.a x.n x.c,.int .i64 x.r.wr,.int .i64 x.r.cell,.int .i64 x.r.no] 39);obtain⟨s2,W2,ab,_,_,_,ac⟩:=Zaz underlying49 Zmc rfl (by decide) _ s (Zav l) (h.keep hB).own (Zbt l) _ 1 (Zav [x]) (Zpe w x) (by rw [← h.len];exact hl) 0;have e:=(aa 0).symm.trans ab;injection e with e1 e2;have e3:=Sl.val_inj e1;subst e3;refine⟨s',W,aa,hq,ad,ac.imp id (fun e k hk=>?_)⟩;rw [e.1] at hk;cases hk;exact hB.size
structure ScI (w wr:World) (z:Bz) (v:Vw) (vs:Sl) (rs:Sl) (R:List Rx) (i:Nat) (so q:Sl) (X:List Rx):Prop where
  bs:BsBlk wr w.heap.size z
  vw:ZaG wr (w.heap.size+1) v vs
  rows:Za9 wr rs R
  ot:Rq w wr so X
  oeq:rws X=(vnB (uns z.ux) v).rows ((rws R).take i)
  apart:∀k,so.blk=some k→∀b off,rs.a=some ⟨b,off,none⟩→0<rs.len→b≠k
  nq:Nq w wr q (allN ((vnB (uns z.ux) v).whos ((rws R).take i)))
theorem ScI.xlen (h:ScI w wr z v vs rs R i so q X):X.length≤R.length:=by
 have h1:=congrArg List.length h.oeq;rw [ZaR] at h1;rw [h1];refine Nat.le_trans (List.length_filterMap_le _ _) ?_;rw [List.length_take,ZaR];exact Nat.min_le_right _ _
structure ScJ (w wr:World) (z:Bz) (v:Vw) (vs:Sl) (rs:Sl) (R:List Rx) (i:Nat) (so q:Sl) (X:List Rx) (o:Option Rw × List Int × Int) (g:Nat) (y:Rx) (p:Sl):Prop where
  i:ScI w wr z v vs rs R i so q X
  row:RwBlk wr g y.r (.slice y.a y.n y.c)
  col:ColR w wr y
  fit:y.r.fits
  yr:y.r=o.1.getD zeroR
  who:Gi (fun k=>¬so.blk=some k) wr p o.2.1
theorem ScI.keep (h:ScI w wr z v vs rs R i so q X)(hb:Bl wr w'):ScI w w' z v vs rs R i so q X:=
 ⟨h.bs.keep hb,h.vw.keep hb,h.rows.keep hb,h.ot.keep hb,h.oeq,h.apart,h.nq.keep hb⟩
structure ScK (w wr:World) (z:Bz) (v:Vw) (vs:Sl) (rs:Sl) (R:List Rx) (i:Nat) (so q:Sl) (X:List Rx) (o:Option Rw × List Int × Int) (p:Sl):Prop where
  bs:BsBlk wr w.heap.size z
  vw:ZaG wr (w.heap.size+1) v vs
  rows:Za9 wr rs R
  ot:Rq w wr so X
  oeq:rws X=(vnB (uns z.ux) v).rows ((rws R).take (i+1))
  apart:∀k,so.blk=some k→∀b off,rs.a=some ⟨b,off,none⟩→0<rs.len→b≠k
  nq:Nq w wr q (allN ((vnB (uns z.ux) v).whos ((rws R).take i)))
  who:Gi (fun _=>True) wr p o.2.1
theorem ScK.keep {p:Sl}(h:ScK w wr z v vs rs R i so q X o p)(hb:Bl wr w'):ScK w w' z v vs rs R i so q X o p:=
 ⟨h.bs.keep hb,h.vw.keep hb,h.rows.keep hb,h.ot.keep hb,h.oeq,h.apart,h.nq.keep hb,h.who.below hb (Nat.le_refl _)⟩
theorem ScK.next {q':Sl}{p:Sl}(h:ScK w wr z v vs rs R i so q X o p)(hb:Bl wr w')(hi:i<(rws R).length)(ho:o=(vnB (uns z.ux) v).look 400 ((rws R)[i]'hi))(hq:Nq w w' q' (o.2.1.foldl addN (allN ((vnB (uns z.ux) v).whos ((rws R).take i))))):ScI w w' z v vs rs R (i+1) so q' X:=by
 have k:=h.keep hb;refine⟨k.bs,k.vw,k.rows,k.ot,k.oeq,k.apart,?_⟩;rw [(vnB (uns z.ux) v).whos_take hi,Znv,← ho];exact hq
theorem ScJ.skip {y:Rx}{p:Sl}(h:ScJ w wr z v vs rs R i so q X o g y p)(hi:i<(rws R).length)(ho:o=(vnB (uns z.ux) v).look 400 ((rws R)[i]'hi))(hn:o.1=none):ScK w wr z v vs rs R i so q X o p:=by
 refine⟨h.i.bs,h.i.vw,h.i.rows,h.i.ot,?_,h.i.apart,h.i.nq,h.who.wide (fun _ _=>trivial)⟩;rw [(vnB (uns z.ux) v).rows_take hi,← ho,hn,h.i.oeq];simp
theorem ScJ.some_ {y:Rx}{p:Sl}(h:ScJ w wr z v vs rs R i so q X o g y p)(hi:i<(rws R).length)(ho:o=(vnB (uns z.ux) v).look 400 ((rws R)[i]'hi)){r:Rw}(hn:o.1=some r)(hl:R.length≤900000) :
    ∃so' W,(∀ty,(Builtin.append_ #[49,49] ty #[so.val,.slice (some ⟨wr.heap.size,0,none⟩) 1 1]).run prog (wr.alloc (.cells #[.float .f64 y.r.key,.bool y.r.dead,.slice y.a y.n y.c,.int .i64 y.r.wr,.int .i64 y.r.cell,.int .i64 y.r.no] 39))=.ok so'.val W)∧ScK w W z v vs rs R i so' q (X ++ [y]) o p:=by
  have hx:=h.i.xlen;obtain⟨so',W,ac,hq,aa,af⟩:=h.i.ot.oneB y h.col h.fit (by omega);(have hT:∀k,so.blk=some k→∃cs,wr.heap[k]? = some (Obj.cells cs 39 (0,0)):=fun k hk=>by obtain ⟨c,hc⟩:=Own.kind h.i.ot.own hk;exact ⟨c,hc⟩);refine⟨so',W,ac,⟨h.i.bs.frm aa ?_,h.i.vw.frm aa ?_,h.i.rows.frm aa ?_ ?_,hq,?_,?_,?_,?_⟩⟩
  · intro e;obtain⟨c,hc⟩:=hT _ e;have h2:=h.i.bs;unfold BsBlk at h2;rw [hc] at h2;simp only [Option.some.injEq,Obj.cells.injEq] at h2;exact absurd h2.2.1 (by decide)
  · intro e;obtain⟨c,hc⟩:=hT _ e;have h2:=h.i.vw;unfold ZaG at h2;rw [hc] at h2;simp only [Option.some.injEq,Obj.cells.injEq] at h2;exact absurd h2.2.1 (by decide)
  · exact fun b off ha hn e=>h.i.apart b e b off ha hn rfl
  · intro k hk C fr e;obtain⟨c,hc⟩:=hT k hk;rw [hc] at e;simp only [Option.some.injEq,Obj.cells.injEq] at e;exact absurd e.2.1 (by decide)
  · rw [(vnB (uns z.ux) v).rows_take hi,← ho,hn,← h.i.oeq];(have e:y.r=r:=by rw [h.yr,hn];rfl);unfold rws;rw [List.map_append];simp [e]
  · intro k hk b off ha hn;rcases af with e | e
    · exact h.i.apart k (by rw [← e];exact hk) b off ha hn
    · have h1:=e k hk;obtain⟨b2,off2,ad,ae⟩:=h.i.rows.rz.at' 0 hn;rw [ha] at ad;cases ad;have:=World.block_lt_of_cell? _ _ ae.c0;simp only at this;omega
  · refine⟨Own.frame h.i.nq.own (fun k hk=>aa.block k (Own.lt h.i.nq.own hk) (fun e=>?_)),h.i.nq.home,hq.below⟩;obtain⟨c,hc⟩:=hT k e;obtain⟨c2,ab⟩:=Own.kind h.i.nq.own hk;rw [hc] at ab;simp only [Option.some.injEq,Obj.cells.injEq] at ab;exact absurd ab.2.1 (by decide)
  · exact(h.who.keep (Kept.frm aa (fun k hk=>hk))).wide (fun _ _=>trivial)
def Zb2 (w:World) (o:List Rw × List Int × Int) (e:Ending) (w':World):Prop:=Bl w w'∧∃(s q:Sl) (l:List Rx),e=.returned (.tuple #[s.val,q.val,.int .i64 o.2.2])∧RzS w' s l∧rws l=o.1∧Gi (fun _=>True) w' q o.2.1
theorem Zlj (w:World)(z:Bz)(v:Vw)(s:Sl) :
    ∃Wa Wb W1 W0,w.alloc (.cells #[.int .i64 z.t.nx,.int .i64 z.t.no,.int .i64 z.t.cm,.slice z.es.a z.es.len z.es.cap,.slice z.cs.a z.cs.len z.cs.cap,.slice z.ls.a z.ls.len z.ls.cap] 28)=Wa∧Wa.alloc (.cells #[.int .i64 v.self,.int .i64 v.next,s.val] 31)=Wb∧Wb.alloc (.cells #[] 39)=W1∧W1.alloc (.cells #[] 3)=W0∧BsBlk W0 w.heap.size z∧ZaG W0 (w.heap.size+1) v s∧Rq w W0 ⟨some ⟨w.heap.size+1+1,0,none⟩,0,0⟩ []∧Nq w W0 ⟨some ⟨w.heap.size+1+1+1,0,none⟩,0,0⟩ []∧W0.heap[w.heap.size+1+1]? = some (Obj.cells #[] 39 (0,0))∧W0.heap.size=w.heap.size+1+1+1+1:=by
  have ad:=Zab w (.cells #[.int .i64 z.t.nx,.int .i64 z.t.no,.int .i64 z.t.cm,.slice z.es.a z.es.len z.es.cap,.slice z.cs.a z.cs.len z.cs.cap,.slice z.ls.a z.ls.len z.ls.cap] 28);have b1:=ZaU w z;obtain⟨Wa,ha⟩:∃W,w.alloc (.cells #[.int .i64 z.t.nx,.int .i64 z.t.no,.int .i64 z.t.cm,.slice z.es.a z.es.len z.es.cap,.slice z.cs.a z.cs.len z.cs.cap,.slice z.ls.a z.ls.len z.ls.cap] 28)=W:=⟨_,rfl⟩;(have sa:Wa.heap.size=w.heap.size+1:=by rw [← ha];exact Zae _ _);rw [ha] at ad b1;have ab:=Zab Wa (.cells #[.int .i64 v.self,.int .i64 v.next,s.val] 31);have b2:=ZbJ Wa v s;obtain⟨Wb,hb⟩:∃W,Wa.alloc (.cells #[.int .i64 v.self,.int .i64 v.next,s.val] 31)=W:=⟨_,rfl⟩;(have sb:Wb.heap.size=w.heap.size+1+1:=by rw [← hb,Zae,sa]);rw [hb] at ab b2;rw [sa] at b2;have ac:=Zab Wb (.cells #[] 39);have q3:=Rq.new0 w Wb (Zac ad ab);have n3:=heap_alloc_new Wb (.cells #[] 39);obtain⟨W1,hc⟩:∃W,Wb.alloc (.cells #[] 39)=W:=⟨_,rfl⟩;(have sc:W1.heap.size=w.heap.size+1+1+1:=by rw [← hc,Zae,sb]);rw [hc] at ac q3 n3;rw [sb] at q3 n3;have aa:=Zab W1 (.cells #[] 3);have q4:=Nq.new0 (Zac ad (Zac ab ac));obtain⟨W0,hd⟩:∃W,W1.alloc (.cells #[] 3)=W:=⟨_,rfl⟩;(have sd:W0.heap.size=w.heap.size+1+1+1+1:=by rw [← hd,Zae,sc]);rw [hd] at aa q4;rw [sc] at q4;exact⟨Wa,Wb,W1,W0,ha,hb,hc,hd,b1.keep (Zac ab (Zac ac aa)),b2.keep (Zac ac aa),q3.keep aa,q4,(aa.block _ (by omega)).trans n3,sd⟩
theorem Zlg {D:Nat→Prop}(w:World)(z:Bz)(h:Bin w z)(hm:MayH (lfs z.lb))(v:Vw)(s:Sl)(hv:Gi D w s v.act)(lo hi:Nat)(hlo:lo<18446744073709551616)(hhi:hi<18446744073709551616) :
    Calls prog 17 #[z.val,vwV v s,.float .f64 lo,.float .f64 hi] w (Zb2 w (scanB (uns z.ux) (lfs z.lb) v lo hi)):=by
  obtain⟨Wa,Wb,W1,W0,ha,hb,hc,hd,hbs,hvw,hrq,hnq,hem,hsz⟩:=Zlj w z v s
  have hA:=hnq.below
  have HWA:=Zh ha
  have HWB:=Zh hb
  have HWC:=Zh hc
  have HWD:=Zh hd
  have HBS:=Zh hbs
  have HVW:=Zh hvw
  have HRQ:=Zh hrq
  have HNQ:=Zh hnq
  have HEM:=Zh hem
  have HH:=Zh h
  have HV:=Zh hv
  have HRO:=Zh (Zle W0 z.ls z.lb (h.keep hA).ls lo hi hlo hhi)
  have hfew:(Zax lo hi (allH (lfs z.lb))).length≤62000:=Nat.le_trans (ZdK _ _ _) (Zjj hm)
  have hun:(uns z.ux).length≤1000:=by rw [Zcd,h.cs.len];exact h.cb
  have HFEW:=Zh hfew
  have HUN:=Zh hun
  obtain⟨o,ho⟩:∃o,o=scanB (uns z.ux) (lfs z.lb) v lo hi:=⟨_,rfl⟩
  rw [← ho]
  have HO:=Zh ho
  have HZE:Hi (∃a,a=z):=⟨z,rfl⟩
  clear h hv ha hb hc hd hbs hvw hrq hnq hem hsz hA ho hlo hhi hm hfew hun HZE
  obtain⟨sa,sn,sc⟩:=s
  obtain⟨vs,vn,vt⟩:=v
  have z5:=HBS.o.c5
  unfold vwV Bz.val
  simp only [Sl.val] at *
  go_enter func17,ntmps17
  go_wp2_with fail
  rw [HWA.o,HWB.o,HWC.o,HWD.o]
  clear HWA HWB HWC HWD
  refine HRO.o.mono ?_
  rintro e w1 ⟨hb1,⟨ra,rn,rc⟩,R,rfl,hRI,hRR⟩
  simp only
  have HRR:=Zh hRR
  have hrl:rn=(rws R).length:=by rw [ZaR];exact hRI.rz.len.symm
  have HSI:Hi (ScI w w1 z ⟨vs,vn,vt⟩ ⟨sa,sn,sc⟩ ⟨ra,rn,rc⟩ R 0 ⟨some ⟨w.heap.size+1+1,0,none⟩,0,0⟩ ⟨some ⟨w.heap.size+1+1+1,0,none⟩,0,0⟩ []):=by
   refine⟨HBS.o.keep hb1,HVW.o.keep hb1,hRI,HRQ.o.keep hb1,rfl,fun k hk b off ha hn e=>?_,HNQ.o.keep hb1⟩
   have hk2:k=w.heap.size+1+1:=by
    have:some (w.heap.size+1+1)=some k:=hk
    exact(Option.some.inj this).symm
   obtain⟨b2,off2,ha2,hat⟩:=hRI.rz.at' 0 hn
   rw [ha] at ha2
   cases ha2
   have hc:=hat.c0
   have h1:w1.heap[b]? = some (Obj.cells #[] 39 (0,0)):=by
    rw [e,hk2]
    exact(hb1.block _ (Array.getElem?_eq_some_iff.1 HEM.o).1).trans HEM.o
   rw [cell_of_row _ _ _ _ _ _ h1] at hc
   simp at hc
  have hr6:rn≤62000:=by rw [hrl,HRR.o];exact HFEW.o
  have HRL:=Zh hrl
  clear hb1 hRI hRR hrl HRO z5 HBS HVW HRQ HNQ HEM
  have HBD:Hi (∀t:List Int,Up t→(∀x∈t,x∈(vnB (uns z.ux) ⟨vs,vn,vt⟩).whos (rws R))→t.length≤63000):=fun t h1 h2=>by
   have:=ZoE h1 h2
   have h3:=HUN.o
   have h4:=HRL.o
   omega
  have HCD0:Hi ((vnB (uns z.ux) ⟨vs,vn,vt⟩).code ((rws R).take 0)=0):=rfl
  go_wp2_with fail
  go_loopw [11,12,13,15] (fun ov nv cv iv wr=>∃(i:Nat) (so q:Sl) (X:List Rx) (c:Int),i≤rn∧ov=so.val∧nv=q.val∧cv=.int .i64 c∧iv=.int .i64 (i:Nat)∧Hi (c=(vnB (uns z.ux) ⟨vs,vn,vt⟩).code ((rws R).take i))∧Hi (ScI w wr z ⟨vs,vn,vt⟩ ⟨sa,sn,sc⟩ ⟨ra,rn,rc⟩ R i so q X)) (fun _ _ _ iv _=>rn-(intOf iv).toNat)
  case atStart=>exact ⟨0,_,_,_,_,Nat.zero_le _,rfl,rfl,rfl,rfl,HCD0.o.symm,HSI⟩
  case round =>
   clear HSI HCD0
   obtain⟨i,⟨oa,on,oc⟩,⟨qa,qn,qc⟩,X,c,hi,rfl,rfl,rfl,rfl,hcd,hsi⟩:=hrel
   simp only [Sl.val]
   rcases Nat.lt_or_ge i rn with hlt | hge
   · have i1:(i:Int)<(rn:Int):=by omega
     have hir:i<(rws R).length:=by rw [← HRL.o];exact hlt
     obtain⟨b,off,hra,hxa⟩:=hsi.o.rows.rz.at' i hlt
     replace hra:ra=some ⟨b,off,none⟩:=hra
     subst hra
     have hxm:=hsi.o.rows.rz.mem hlt
     have hxf:=hsi.o.rows.rz.fits _ hxm
     have hxc:=hsi.o.rows.flt _ hxm
     have hri:(rws R)[i]=(R.getD i Rx.zero).r:=by
      rw [← ZcL]
      simp [List.getD,hir]
     obtain⟨x,hx⟩:∃x,x=R.getD i Rx.zero:=⟨_,rfl⟩
     rw [← hx] at hxa hxf hxc hri
     obtain⟨t,ht⟩:∃t,t=(vnB (uns z.ux) ⟨vs,vn,vt⟩).look 400 x.r:=⟨_,rfl⟩
     have HIR:=Zh hir
     have HT:Hi (t=(vnB (uns z.ux) ⟨vs,vn,vt⟩).look 400 ((rws R)[i]'HIR.o)):=by show _=_;rw [ht,hri]
     have HXA:=Zh hxa
     have HSE:Hi (∀W,Bl wr W→Calls prog 42 #[z.val,vwV ⟨vs,vn,vt⟩ ⟨sa,sn,sc⟩,x.val] W (Zeq w W t)):=fun W hb=>by
      rw [ht]
      exact Zlh w W (Zac hsi.o.nq.below hb) z HH.o _ _ HV.o x ((hxc.keep hb).colR w) hxf
     have hwb:w.heap.size≤wr.heap.size:=hsi.o.nq.below.size
     have HKC:=Zh ((vnB (uns z.ux) ⟨vs,vn,vt⟩).look_code 400 x.r)
     rw [← ht] at HKC
     have HKS:Hi (∀r,t.1=some r→t.2.2=0):=fun r h1=>by rw [ht] at h1 ⊢;exact (vnB (uns z.ux) ⟨vs,vn,vt⟩).look_some 400 x.r h1
     clear hir hxa hxm hxf hxc hx ht hri
     go_wp2_with fail
     refine Pl.q9 (ops:=Pl.find 7 ((f17.body).getD .skip)) ?_
     refine Zsm w wr _ hwb w.heap.size (w.heap.size+1) b off rn rc i z ⟨vs,vn,vt⟩ ⟨sa,sn,sc⟩ x t hsi.o.bs hsi.o.vw hlt HXA.o HSE.o (Below.refl _ _) (by rfl) rfl (by rfl) (by rfl) (by rfl) (by rfl) ?_
     intro u7 y p w7 ⟨g2,hg2,hgg,hk2⟩ hyr hyc hyf hyq hb7
     simp only [Pl.pu,List.foldl,Act.put,List.setIfInBounds_toArray,List.set_cons_zero,List.set_cons_succ]
     rw [hg2]
     have HSJ:Hi (ScJ w w7 z ⟨vs,vn,vt⟩ ⟨sa,sn,sc⟩ ⟨some ⟨b,off,none⟩,rn,rc⟩ R i ⟨oa,on,oc⟩ ⟨qa,qn,qc⟩ X t g2 y p):=
      ⟨hsi.o.keep hb7,hk2,hyc,hyf,hyr,hyq.wide (fun k hk e=>by have:=Own.lt hsi.o.ot.own e;omega)⟩
     clear hg2 hgg hk2 hyr hyc hyf hyq hb7 HSE HXA hsi hwb
     obtain⟨⟨tr,tw,tc⟩,htt⟩:∃t',t'=t:=⟨_,rfl⟩
     subst htt
     simp only at HKC HKS ⊢
     obtain⟨pa,pn,pc⟩:=p
     simp only [Sl.val]
     have HPN:Hi (tw.length=pn):=HSJ.o.who.len
     have hpb:pn≤1000000:=HSJ.o.who.big
     have HCN:Hi ((vnB (uns z.ux) ⟨vs,vn,vt⟩).code ((rws R).take (i+1))=if tc=0 then c else 13):=by
      show _=_
      rw [(vnB (uns z.ux) ⟨vs,vn,vt⟩).code_take HIR.o,← HT.o,hcd.o]
     go_upto_if 48 with fail
     go_cut [13] from 35 to 107 (fun cv wx=>wx=w7∧cv=.int .i64 (if tc=0 then c else 13))
     case first =>
      rcases HKC.o with h0 | h0
      · have h0':tc=0:=h0
        subst h0'
        go_wp2_with fail
        go_meet
        case rel=>exact ⟨rfl,rfl⟩
      · have h0':tc=13:=h0
        subst h0'
        go_wp2_with fail
        go_meet
        case rel=>exact ⟨rfl,rfl⟩
     case rest =>
      obtain⟨rfl,rfl⟩:=hcut
      generalize hcn:(if tc=0 then c else (13:Int))=cn at *
      clear hcn HKC HKS hcd
      go_upto_if 50 with fail
      go_cut [11] from 35 to 107 (fun ov wx=>∃(so:Sl) (X':List Rx),ov=so.val∧Hi (ScK w wx z ⟨vs,vn,vt⟩ ⟨sa,sn,sc⟩ ⟨some ⟨b,off,none⟩,rn,rc⟩ R i so ⟨qa,qn,qc⟩ X' (tr,tw,tc) ⟨pa,pn,pc⟩))
      case first =>
       cases tr with
       | none =>
        have HSK:=Zh (HSJ.o.skip HIR.o HT.o rfl)
        go_wp2_with fail
        go_meet
        case rel=>exact ⟨⟨oa,on,oc⟩,X,rfl,HSK⟩
       | some r =>
        obtain⟨⟨o2a,o2n,o2c⟩,W2,hrun,hsk⟩:=HSJ.o.some_ HIR.o HT.o rfl (by have:=HRL.o;rw [ZaR] at this;omega)
        have HRUN:=Zh hrun
        have HSK:=Zh hsk
        have r0:=HSJ.o.row.c0
        have r1:=HSJ.o.row.c1
        have r2:=HSJ.o.row.c2
        have r3:=HSJ.o.row.c3
        have r4:=HSJ.o.row.c4
        have r5:=HSJ.o.row.c5
        simp only [Sl.val] at HRUN
        clear hrun hsk
        go_wp2_with (first | refine Zbu _ rfl 49 (.tmp 51) (.tmp 53) rfl (.slice oa on oc) (.slice (some ⟨wc.heap.size,0,none⟩) 1 1) rfl rfl _ W2 HRUN.o ?_)
        go_meet
        case rel=>exact ⟨⟨o2a,o2n,o2c⟩,X ++ [y],rfl,HSK⟩
      case rest =>
       obtain⟨⟨o3a,o3n,o3c⟩,X3,rfl,hsk⟩:=hcut
       simp only [Sl.val]
       clear HSJ
       generalize wc=w3 at *
       obtain⟨A0,hA0⟩:∃A0,A0=allN ((vnB (uns z.ux) ⟨vs,vn,vt⟩).whos ((rws R).take i)):=⟨_,rfl⟩
       have HA0:=Zh hA0
       have HN0:Hi (Nq w w3 ⟨qa,qn,qc⟩ A0):=by show Nq _ _ _ _;rw [hA0];exact hsk.o.nq
       have HUP:Hi (Up A0):=by show Up _;rw [hA0];exact Zgh _
       have HSUB:Hi (∀k,∀x∈(tw.take k).foldl addN A0,x∈(vnB (uns z.ux) ⟨vs,vn,vt⟩).whos (rws R)):=fun k x hx=>by
        rcases (ZeA _ _).1 hx with e | e
        · refine List.mem_flatMap.2 ⟨(rws R)[i]'HIR.o,List.getElem_mem _,?_⟩
          rw [← HT.o]
          exact List.mem_of_mem_take e
        · rw [HA0.o,Zes] at e
          obtain⟨r,hr,e⟩:=List.mem_flatMap.1 e
          exact List.mem_flatMap.2 ⟨r,List.mem_of_mem_take hr,e⟩
       clear hA0
       go_wp2_with fail
       go_loopw [12,20] (fun nv kv wr2=>∃(k:Nat) (q:Sl),k≤pn∧nv=q.val∧kv=.int .i64 (k:Nat)∧Hi (Nq w wr2 q ((tw.take k).foldl addN A0))∧Hi (Bl w3 wr2)) (fun _ kv _=>pn-(intOf kv).toNat)
       case atStart=>exact ⟨0,⟨qa,qn,qc⟩,Nat.zero_le _,rfl,rfl,HN0,Below.refl _ _⟩
       case round =>
        clear HN0
        obtain⟨k,⟨ma,mn,mc⟩,hk,rfl,rfl,hnk,hbk⟩:=hrel
        simp only [Sl.val]
        rcases Nat.lt_or_ge k pn with hkl | hkg
        · have k1:(k:Int)<(pn:Int):=by omega
          obtain⟨b2,o2,hpa,hyc⟩:=(hsk.o.who.below hbk.o (Nat.le_refl _)).cell k hkl
          replace hpa:pa=some ⟨b2,o2,none⟩:=hpa
          subst hpa
          have hft:=Zkr (l:=A0) (m:=tw) (k:=k) (by rw [HPN.o];exact hkl)
          have hup:=Zgg (tw.take k) HUP.o
          have hbd:((tw.take k).foldl addN A0).length≤63000:=HBD.o _ hup (HSUB.o k)
          obtain⟨t,ht⟩:∃t,t=(tw.take k).foldl addN A0:=⟨_,rfl⟩
          rw [← ht] at hnk hft hup hbd
          obtain⟨x,hx⟩:∃x,x=tw.getD k 0:=⟨_,rfl⟩
          rw [← hx] at hft hyc
          have HFT:=Zh hft
          have HUT:=Zh hup
          have HYC:=Zh hyc
          have HML:Hi (t.length=mn):=OwnN.len hnk.o.own
          have hmn:mn≤63000:=by rw [← HML.o];exact hbd
          clear hft hup hyc ht hx hbd
          go_wp2_with fail
          go_loopw [21] (fun jv wr3=>∃j:Nat,j≤mn∧jv=.int .i64 (j:Nat)∧Hi (∀m,m<j→t.getD m 0<x)∧Hi (Bl wr wr3)) (fun jv _=>mn-(intOf jv).toNat)
          case atStart=>exact ⟨0,Nat.zero_le _,rfl,fun m h1=>absurd h1 (Nat.not_lt_zero _),Below.refl _ _⟩
          case round =>
           obtain⟨j,hj,rfl,hjl,hb3⟩:=hrel
           have HN3:=Zh (hnk.o.keep hb3.o)
           have HYC3:=Zh (Zaf HYC.o hb3.o)
           have HB3:=Zh (Zac hbk.o hb3.o)
           rcases Nat.lt_or_ge j mn with hjm | hjm
           · have hgi:=(HN3.o.gi (by show mn≤_;omega)).cell j hjm
             obtain⟨b1,o1,hma,hxc⟩:=hgi
             replace hma:ma=some ⟨b1,o1,none⟩:=hma
             subst hma
             obtain⟨yv,hyv⟩:∃yv,yv=t.getD j 0:=⟨_,rfl⟩
             rw [← hyv] at hxc
             have HYV:=Zh hyv
             have HXC:=Zh hxc
             clear hyv hxc
             by_cases hc:yv<x
             · have HJN:Hi (∀m,m<j+1→t.getD m 0<x):=by
                intro m hm
                by_cases e:m=j
                · rw [e,← HYV.o];exact hc
                · exact hjl.o m (by omega)
               have HC:=Zh hc
               clear hc hjl
               go_wp2_with fail
               refine Pl.q9 (ops:=Pl.find 16 ((f17.body).getD .skip)) ?_
               refine Zqj _ b1 o1 mn mc b2 o2 pn pc j k yv x hjm hkl HXC.o HYC3.o HC.o (by rfl) rfl (by rfl) (by rfl) (by rfl) (by rfl) ?_
               intro u8 w8 hb8
               simp only [Pl.pu,List.foldl,Act.put,List.setIfInBounds_toArray,List.set_cons_zero,List.set_cons_succ]
               have HB8:=Zh (Zac hb3.o hb8)
               clear hb8
               go_wp2_with fail
               go_roundw
               case rel=>exact ⟨j+1,by omega,by go_num,HJN,HB8⟩
               case measure=>simp only [intOf];omega
             · have HAT:Hi (atV t x=j):=ZoL (by rw [HML.o];exact hj) hjl.o (fun _=>by rw [← HYV.o];exact hc)
               have HC:=Zh hc
               clear hjl
               go_wp2_with fail
               refine Pl.q9 (ops:=Pl.find 16 ((f17.body).getD .skip)) ?_
               refine Zqi _ b1 o1 mn mc b2 o2 pn pc j k yv x hjm hkl HXC.o HYC3.o (by have:=HC.o;omega) (by rfl) rfl (by rfl) (by rfl) (by rfl) (by rfl) ?_
               intro u8 w8 hb8
               simp only [Pl.pu,List.foldl,Act.put,List.setIfInBounds_toArray,List.set_cons_zero,List.set_cons_succ]
               have HB8:=Zh (Zac HB3.o hb8)
               have HN8:=Zh (HN3.o.keep hb8)
               have HX8:=Zh (Zaf HXC.o hb8)
               have HY8:=Zh (Zaf HYC3.o hb8)
               clear hb8 HN3 HB3 HXC HYC3
               by_cases he:yv=x
               · have HQ:Hi (addN t x=t):=ZjU HUT.o HAT.o (by rw [HML.o];exact hjm) (by rw [← HYV.o];exact he)
                 have HE:=Zh he
                 clear he hc
                 go_wp2_with fail
                 refine Pl.q9 (ops:=Pl.find 18 ((f17.body).getD .skip)) ?_
                 refine Zql w8 b1 o1 mn mc b2 o2 pn pc j k yv x hjm hkl HX8.o HY8.o HE.o (by rfl) rfl (by rfl) (by rfl) (by rfl) (by rfl) ?_
                 intro u9 w9 hb9
                 simp only [Pl.pu,List.foldl,Act.put,List.setIfInBounds_toArray,List.set_cons_zero,List.set_cons_succ]
                 have HB9:=Zh (Zac HB8.o hb9)
                 have HN9:Hi (Nq w w9 ⟨some ⟨b1,o1,none⟩,mn,mc⟩ ((tw.take (k+1)).foldl addN A0)):=by show Nq _ _ _ _;rw [HFT.o,HQ.o];exact HN8.o.keep hb9
                 clear hb9
                 go_wp2_with fail
                 go_roundw
                 case rel=>exact ⟨k+1,_,by omega,rfl,by go_num,HN9,HB9⟩
                 case measure=>simp only [intOf];omega
               · have HQ:Hi (addN t x=t.take j ++ x :: t.drop j):=Zjh HUT.o HAT.o (fun _=>by rw [← HYV.o];exact he)
                 have HE:=Zh he
                 clear he hc
                 go_wp2_with fail
                 refine Pl.q9 (ops:=Pl.find 18 ((f17.body).getD .skip)) ?_
                 refine Zqm w8 b1 o1 mn mc b2 o2 pn pc j k yv x hjm hkl HX8.o HY8.o HE.o (by rfl) rfl (by rfl) (by rfl) (by rfl) (by rfl) ?_
                 intro u9 w9 hb9
                 simp only [Pl.pu,List.foldl,Act.put,List.setIfInBounds_toArray,List.set_cons_zero,List.set_cons_succ]
                 have HB9:=Zh (Zac HB8.o hb9)
                 have HN9:=Zh (HN8.o.keep hb9)
                 have HY9:=Zh (Zaf HY8.o hb9)
                 clear hb9
                 go_wp2_with fail
                 refine Pl.q9 (ops:=Pl.find 19 ((f17.body).getD .skip)) ?_
                 refine Zpc w9 ⟨some ⟨b1,o1,none⟩,mn,mc⟩ t (HN9.o.gi (by show mn≤_;omega)) (by show mn+1≤_;omega) j hj b2 o2 pn pc k x hkl HY9.o (by rfl) rfl (by rfl) (by rfl) (by rfl) (by rfl) ?_
                 intro u10 ⟨na,nn,nc⟩ w10 hq10 hl10
                 simp only [Pl.pu,List.foldl,Act.put,List.setIfInBounds_toArray,List.set_cons_zero,List.set_cons_succ]
                 simp only [Sl.val]
                 have HB10:=Zh (Zac HB9.o hq10.below)
                 have HN10:Hi (Nq w w10 ⟨na,nn,nc⟩ ((tw.take (k+1)).foldl addN A0)):=by show Nq _ _ _ _;rw [HFT.o,HQ.o];exact ⟨hq10.own,fun k2 h2=>Nat.le_trans HN9.o.below.size (hq10.home k2 h2),Zac HN9.o.below hq10.below⟩
                 clear hq10 hl10
                 go_wp2_with fail
                 go_roundw
                 case rel=>exact ⟨k+1,⟨na,nn,nc⟩,by omega,rfl,by go_num,HN10,HB10⟩
                 case measure=>simp only [intOf];omega
           · obtain rfl:j=mn:=by omega
             have HAT:Hi (atV t x=j):=ZoL (by rw [HML.o];exact hj) hjl.o (fun e=>by rw [HML.o] at e;omega)
             have HQ:Hi (addN t x=t.take j ++ x :: t.drop j):=Zjh HUT.o HAT.o (fun e=>by rw [HML.o] at e;omega)
             clear hjl
             go_wp2_with fail
             refine Pl.q9 (ops:=Pl.find 16 ((f17.body).getD .skip)) ?_
             refine Zqh _ ma j mc k (by rfl) rfl (by rfl) (by rfl) (by rfl) ?_
             intro u8 w8 hb8
             simp only [Pl.pu,List.foldl,Act.put,List.setIfInBounds_toArray,List.set_cons_zero,List.set_cons_succ]
             have HB8:=Zh (Zac HB3.o hb8)
             have HN8:=Zh (HN3.o.keep hb8)
             have HY8:=Zh (Zaf HYC3.o hb8)
             clear hb8 HN3 HB3 HYC3
             go_wp2_with fail
             refine Pl.q9 (ops:=Pl.find 18 ((f17.body).getD .skip)) ?_
             refine Zqk w8 ma j mc k (by rfl) rfl (by rfl) (by rfl) (by rfl) ?_
             intro u9 w9 hb9
             simp only [Pl.pu,List.foldl,Act.put,List.setIfInBounds_toArray,List.set_cons_zero,List.set_cons_succ]
             have HB9:=Zh (Zac HB8.o hb9)
             have HN9:=Zh (HN8.o.keep hb9)
             have HY9:=Zh (Zaf HY8.o hb9)
             clear hb9
             go_wp2_with fail
             refine Pl.q9 (ops:=Pl.find 19 ((f17.body).getD .skip)) ?_
             refine Zpc w9 ⟨ma,j,mc⟩ t (HN9.o.gi (by show j≤_;omega)) (by show j+1≤_;omega) j (Nat.le_refl _) b2 o2 pn pc k x hkl HY9.o (by rfl) rfl (by rfl) (by rfl) (by rfl) (by rfl) ?_
             intro u10 ⟨na,nn,nc⟩ w10 hq10 hl10
             simp only [Pl.pu,List.foldl,Act.put,List.setIfInBounds_toArray,List.set_cons_zero,List.set_cons_succ]
             simp only [Sl.val]
             have HB10:=Zh (Zac HB9.o hq10.below)
             have HN10:Hi (Nq w w10 ⟨na,nn,nc⟩ ((tw.take (k+1)).foldl addN A0)):=by show Nq _ _ _ _;rw [HFT.o,HQ.o];exact ⟨hq10.own,fun k2 h2=>Nat.le_trans HN9.o.below.size (hq10.home k2 h2),Zac HN9.o.below hq10.below⟩
             clear hq10 hl10
             go_wp2_with fail
             go_roundw
             case rel=>exact ⟨k+1,⟨na,nn,nc⟩,by omega,rfl,by go_num,HN10,HB10⟩
             case measure=>simp only [intOf];omega
        · have k1:¬(k:Int)<(pn:Int):=by omega
          have HNX:Hi (ScI w wr z ⟨vs,vn,vt⟩ ⟨sa,sn,sc⟩ ⟨some ⟨b,off,none⟩,rn,rc⟩ R (i+1) ⟨o3a,o3n,o3c⟩ ⟨ma,mn,mc⟩ X3):=by
           refine hsk.o.next hbk.o HIR.o HT.o ?_
           have:=hnk.o
           rw [List.take_of_length_le (by rw [HPN.o];exact hkg),HA0.o] at this
           exact this
          go_wp2_with fail
          go_roundw
          case rel=>exact ⟨i+1,⟨o3a,o3n,o3c⟩,⟨ma,mn,mc⟩,X3,_,by omega,rfl,rfl,rfl,by go_num,HCN.o.symm,HNX⟩
          case measure=>simp only [intOf];omega
   · have i1:¬(i:Int)<(rn:Int):=by omega
     have HTK:Hi ((rws R).take i=rws R):=List.take_of_length_le (by rw [← HRL.o];exact hge)
     have HOO:Hi (o=(vnB (uns z.ux) ⟨vs,vn,vt⟩).scan (rws R)):=by show _=_;rw [HO.o,HRR.o];rfl
     have hcv:c=(vnB (uns z.ux) ⟨vs,vn,vt⟩).code (rws R):=by rw [hcd.o,HTK.o]
     have hqn:qn≤1000000:=by
      have h1:(allN ((vnB (uns z.ux) ⟨vs,vn,vt⟩).whos ((rws R).take i))).length=qn:=OwnN.len hsi.o.nq.own
      have h2:=HBD.o _ (Zgh ((vnB (uns z.ux) ⟨vs,vn,vt⟩).whos ((rws R).take i))) (fun x hx=>by rw [HTK.o] at hx;exact Zes.1 hx)
      omega
     have HGQ:Hi (Gi (fun _=>True) wr ⟨qa,qn,qc⟩ (allN ((vnB (uns z.ux) ⟨vs,vn,vt⟩).whos (rws R)))):=by
      have:=hsi.o.nq.gi hqn
      rw [HTK.o] at this
      exact this.wide (fun _ _=>trivial)
     have HRZ:=Zh hsi.o.ot.rzs
     have HXR:Hi (rws X=(vnB (uns z.ux) ⟨vs,vn,vt⟩).rows (rws R)):=by show _=_;rw [hsi.o.oeq,HTK.o]
     have HBW:=Zh hsi.o.nq.below
     clear hsi hcd
     rcases (vnB (uns z.ux) ⟨vs,vn,vt⟩).code_two (rws R) with h0 | h0
     · have HS:Hi (Zb2 w o (.returned (.tuple #[.slice oa on oc,.slice qa qn qc,.int .i64 0])) wr):=by
        refine⟨HBW.o,⟨oa,on,oc⟩,⟨qa,qn,qc⟩,X,?_,HRZ.o,?_,?_⟩
        · rw [HOO.o];show _=Ending.returned (.tuple #[_,_,.int .i64 ((vnB (uns z.ux) ⟨vs,vn,vt⟩).code (rws R))]);rw [h0];rfl
        · rw [HOO.o,HXR.o];show _=if (vnB (uns z.ux) ⟨vs,vn,vt⟩).code (rws R)=0 then _ else _;rw [if_pos h0]
        · rw [HOO.o];exact HGQ.o
       obtain rfl:c=0:=by rw [hcv,h0]
       clear hcv h0
       go_wp2_with fail
       go_ret3
       exact HS.o
     · have HS:Hi (Zb2 w o (.returned (.tuple #[.slice none 0 0,.slice qa qn qc,.int .i64 13])) wr):=by
        refine⟨HBW.o,Sl.nil,⟨qa,qn,qc⟩,[],?_,RzS.none _,?_,?_⟩
        · rw [HOO.o];show _=Ending.returned (.tuple #[_,_,.int .i64 ((vnB (uns z.ux) ⟨vs,vn,vt⟩).code (rws R))]);rw [h0];rfl
        · rw [HOO.o];show _=if (vnB (uns z.ux) ⟨vs,vn,vt⟩).code (rws R)=0 then _ else _;rw [if_neg (by rw [h0];decide)];rfl
        · rw [HOO.o];exact HGQ.o
       obtain rfl:c=13:=by rw [hcv,h0]
       clear hcv h0
       go_wp2_with fail
       go_ret3
       exact HS.o
open Go.ChangeShapes Go.WideShapes Go.ChangeAt Go.RowKit
theorem InI.keep (h:InI w s t)(hb:Bl w w'):InI w' s t:=by
 refine⟨h.len,h.nil,h.le,h.big,fun i hi=>?_⟩;obtain⟨b,off,ha,c0⟩:=h.cell i hi;exact⟨b,off,ha,(hb.cell (World.block_lt_of_cell? w _ c0)).trans c0⟩
section
variable {H : Type} {enc : TypeId × Value → H} {w : World} {base : Nat} {spare : Nat → Bool} {held : Bool}
theorem ZkN {len cap:Nat}{y:DataW H × List MemPlace}(h:DataW.trod enc prog w base spare held n 29 [.slice a len cap]=some y):∃t,InI w ⟨a,len,cap⟩ t:=by
 (have hC:prog.cellsOf 3=1:=by kernel_rfl);rcases Go.Deep.open_slice1 underlying29 hC h with ⟨aa,_⟩ | ⟨x,l,c,m,k,V,D,Pl,aa,hb,hl,hm,ac,_,hx⟩
 · simp only [List.cons.injEq,Value.slice.injEq,and_true] at aa;obtain⟨rfl,rfl,rfl⟩:=aa;exact⟨[],⟨rfl,fun _=>rfl,Nat.le_refl _,Nat.zero_le _,fun j hj=>absurd hj (Nat.not_lt_zero _)⟩⟩
 · simp only [List.cons.injEq,Value.slice.injEq,and_true] at aa;obtain⟨rfl,rfl,rfl⟩:=aa;(have ae:len≤m:=by rw [ac];split <;> omega);have ad:0<len→x.spot=none:=by
    intro h0;have:=World.cell?_spot (hx 0 (by omega)).1;simpa [Addr.add] using this
   have each:∀i,i<len→∃b:Int,V i=.int .i64 b:=by
    intro i hi;obtain⟨k3,e3,_,w3⟩:=DataW.trod_int underlying3 (hx i (by omega)).2;exact⟨k3,by simpa using e3⟩
   obtain⟨f,hf⟩:=@Go.Deep.choose_lt Int ⟨0⟩ len _ each;refine⟨(List.range len).map f,⟨by simp,(fun e=>by cases e),hl,by show len≤_;unfold maxLen at hm;omega,?_⟩⟩;intro j hj;replace hj:j<len:=hj;have hc:=(hx j (by omega)).1;obtain⟨b,off,spot⟩:=x;have ab:spot=none:=ad (by omega);subst ab;refine⟨b,off,rfl,?_⟩;rw [Addr.add_lit] at hc;rw [hc,hf j hj];simp [List.getD,hj]
theorem Zrn {v:Value}{d:DataW H}{p:List MemPlace}(hv:Value.okWide prog w r b0 31 v)(h:DataW.Trod enc prog w base spare held 31 v d p):∃(x:Vw)(s:Sl),v=vwV x s∧InI w s x.act:=by
 obtain⟨v0,v1,v2,y0,y1,y2,n,rfl,_,_,h0,h1,h2⟩:=Go.Joins.open_agg3 underlying31 (by kernel_rfl) (by kernel_rfl) hv h;obtain⟨k0,e0,_,_⟩:=DataW.trod_int underlying3 h0;obtain⟨k1,e1,_,_⟩:=DataW.trod_int underlying3 h1;obtain⟨a,len,cap,e2⟩:=Go.Joins.slice_form underlying29 h2;simp only [List.cons.injEq,and_true] at e0 e1 e2;subst e0 e1 e2;obtain⟨t,ht⟩:=ZkN h2;exact⟨⟨k0,k1,t⟩,⟨a,len,cap⟩,rfl,ht⟩
end
open Go.ChangeShapes Go.WideShapes Go.ChangeAt Go.RowKit
structure En.fits (e:En):Prop where
  tx:(Lit.int .i64 e.tx).wf=true
  st:(Lit.int .i64 e.st).wf=true
  last:(Lit.int .i64 e.last).wf=true
  com:(Lit.int .i64 e.com).wf=true
structure Tbl.fits (t:Tbl):Prop where
  nx:(Lit.int .i64 t.nx).wf=true
  no:(Lit.int .i64 t.no).wf=true
  cm:(Lit.int .i64 t.cm).wf=true
  es:∀e∈t.es,e.fits
section
variable {H : Type} {enc : TypeId × Value → H} {w : World} {base : Nat} {spare : Nat → Bool} {held : Bool}
theorem ZnF {c0 c1 c2 c3:Value}{y:DataW H × List MemPlace}(hf:DataW.trod enc prog w base spare held k 127 [c0,c1,c2,c3]=some y) :
    ∃e:En,[c0,c1,c2,c3]=e.cells∧e.fits:=by
  (have h4:prog.cellsOf 3=1:=by kernel_rfl);obtain⟨xs,n,_,_,_,ab,aa⟩:=DataW.trod_struct underlying127 hf
  match xs,ab with
  | [y0,y1,y2,y3],_ =>
   (have t0:DataW.trod enc prog w base spare held n 3 [c0]=some y0:=by simpa [Value.cells,h4] using aa 0 _ rfl);(have t1:DataW.trod enc prog w base spare held n 3 [c1]=some y1:=by simpa [Value.cells,h4] using aa 1 _ rfl);(have t2:DataW.trod enc prog w base spare held n 3 [c2]=some y2:=by simpa [Value.cells,h4] using aa 2 _ rfl);(have t3:DataW.trod enc prog w base spare held n 3 [c3]=some y3:=by simpa [Value.cells,h4] using aa 3 _ rfl);obtain⟨k0,e0,_,w0⟩:=DataW.trod_int underlying3 t0;obtain⟨k1,e1,_,w1⟩:=DataW.trod_int underlying3 t1;obtain⟨k2,e2,_,w2⟩:=DataW.trod_int underlying3 t2;obtain⟨k3,e3,_,w3⟩:=DataW.trod_int underlying3 t3;simp only [List.cons.injEq,and_true] at e0 e1 e2 e3;subst e0 e1 e2 e3;exact⟨⟨k0,k1,k2,k3⟩,rfl,⟨w0,w1,w2,w3⟩⟩
theorem Zol {len cap:Nat}{y:DataW H × List MemPlace}(h:DataW.trod enc prog w base spare held n 22 [.slice a len cap]=some y) :
    ∃l,Es w ⟨a,len,cap⟩ l∧∀e∈l,e.fits:=by
  (have hC:prog.cellsOf 127=4:=by kernel_rfl);rcases Go.Deep.open_slice underlying22 h with ⟨ad,_⟩ | ⟨x,l,c,m,k,D,Pl,ad,hb,hl,hm,ag,_,hx⟩
  · simp only [List.cons.injEq,Value.slice.injEq,and_true] at ad;obtain⟨rfl,rfl,rfl⟩:=ad;exact⟨[],Es.none w,fun x hx=>by cases hx⟩
  · simp only [List.cons.injEq,Value.slice.injEq,and_true] at ad;obtain⟨rfl,rfl,rfl⟩:=ad;(have ai:len≤m:=by rw [ag];split <;> omega);have ah:0<len→x.spot=none:=by
     intro h0;obtain⟨cs,h1,_⟩:=hx 0 (by omega);rw [hC] at h1;obtain⟨_,ac,hc⟩:=World.cells?_some h1
     match cs,ac with
     | [c0,c1,c2,c3],_ =>
      have e0:=hc 0 (by omega);have:=World.cell?_spot (by simpa using e0);simpa [Addr.add] using this
    have each:∀i,i<len→∃t:En,∃b off,x=⟨b,off,none⟩∧EnAt w b (off+i*4) t∧t.fits:=by
     intro i hi;obtain⟨cs,g1,g2⟩:=hx i (by omega);rw [hC] at g1;obtain⟨_,ac,hc⟩:=World.cells?_some g1
     match cs,ac with
     | [c0,c1,c2,c3],_ =>
      obtain⟨t,ht,ab⟩:=ZnF g2;have aa:x.spot=none:=ah (by omega);obtain⟨b,off,spot⟩:=x;simp only at aa;subst aa;refine⟨t,b,off,rfl,EnAt.of fun q hq=>?_,ab⟩;have e:=hc q (by omega);simp only [Addr.add_lit] at e;rw [← ht];simpa using e
    obtain⟨f,hf⟩:=@Go.Deep.choose_lt En ⟨En.zero⟩ len _ each;(have ae:∀j,j<len→((List.range len).map f).getD j En.zero=f j:=fun j hj=>by simp [List.getD,hj]);refine⟨(List.range len).map f,⟨by simp,(fun e=>by cases e),by show len≤cap;omega,by show len≤_;unfold maxLen at hm;omega,fun j hj=>?_⟩,fun t ht=>?_⟩
    · obtain⟨b,off,rfl,af,_⟩:=hf j hj;refine⟨b,off,rfl,?_⟩;rw [ae j hj];exact af
    · obtain⟨j,hj,rfl⟩:=List.mem_map.1 ht;obtain⟨_,_,_,_,ab⟩:=hf j (by simpa using hj);exact ab
theorem Znj {c0 c1 c2 c3:Value}{y:DataW H × List MemPlace}(hf:DataW.trod enc prog w base spare held k 24 [c0,c1,c2,c3]=some y) :
    ∃(t:Tbl) (s:Sl),[c0,c1,c2,c3]=[.int .i64 t.nx,.int .i64 t.no,.int .i64 t.cm,.slice s.a s.len s.cap]∧Es w s t.es∧t.fits:=by
  (have hS:prog.cellsOf 22=1:=by kernel_rfl);(have h4:prog.cellsOf 3=1:=by kernel_rfl);obtain⟨xs,n,_,_,_,ad,ab⟩:=DataW.trod_struct underlying24 hf
  match xs,ad with
  | [y0,y1,y2,y3],_ =>
   (have t0:DataW.trod enc prog w base spare held n 3 [c0]=some y0:=by simpa [Value.cells,h4] using ab 0 _ rfl);(have t1:DataW.trod enc prog w base spare held n 3 [c1]=some y1:=by simpa [Value.cells,h4] using ab 1 _ rfl);(have t2:DataW.trod enc prog w base spare held n 3 [c2]=some y2:=by simpa [Value.cells,h4] using ab 2 _ rfl);(have t3:DataW.trod enc prog w base spare held n 22 [c3]=some y3:=by simpa [Value.cells,hS] using ab 3 _ rfl);obtain⟨k0,e0,_,w0⟩:=DataW.trod_int underlying3 t0;obtain⟨k1,e1,_,w1⟩:=DataW.trod_int underlying3 t1;obtain⟨k2,e2,_,w2⟩:=DataW.trod_int underlying3 t2;simp only [List.cons.injEq,and_true] at e0 e1 e2;subst e0 e1 e2;have ae:∃a len cap,c3=.slice a len cap:=by
    rcases Go.Deep.open_slice underlying22 t3 with ⟨aa,_⟩ | ⟨x,l,c,m,k,D,Pl,aa,_⟩
    · simp only [List.cons.injEq,and_true] at aa;exact⟨_,_,_,aa⟩
    · simp only [List.cons.injEq,and_true] at aa;exact⟨_,_,_,aa⟩
   obtain⟨a,len,cap,rfl⟩:=ae;obtain⟨es,hE,ac⟩:=Zol t3;exact⟨⟨k0,k1,k2,es⟩,⟨a,len,cap⟩,rfl,hE,⟨w0,w1,w2,ac⟩⟩
end
open Go.ChangeShapes Go.WideShapes Go.ChangeAt Go.RowKit
section
variable {H : Type} {enc : TypeId × Value → H} {w : World} {base : Nat} {spare : Nat → Bool} {held : Bool}
theorem ZrC {v:Value}{d:DataW H}{p:List MemPlace}(hv:Value.okWide prog w r b0 48 v)(h:DataW.Trod enc prog w base spare held 48 v d p) :
    ∃x0 x1:Nat,v=.agg #[.float .f64 x0,.float .f64 x1]∧x0<18446744073709551616∧x1<18446744073709551616:=by
  (have hu:prog.underlying 48=some (.array 2 32):=by kernel_rfl);(have hC:prog.cellsOf 48=2:=by kernel_rfl);(have h1:prog.cellsOf 32=1:=by kernel_rfl);simp only [Value.okWide,hu] at hv;obtain⟨cs,rfl,ac,_⟩:=hv;rw [hC] at ac;obtain⟨l⟩:=cs
  match l,ac with
  | [c0,c1],_ =>
   obtain⟨fuel,hf⟩:=h;obtain⟨xs,m,_,_,_,aa,ab⟩:=DataW.trod_array hu hf
   match xs,aa with
   | [y0,y1],_ =>
    (have t0:DataW.trod enc prog w base spare held m 32 [c0]=some y0:=by simpa [Value.cells,h1] using ab 0 (by omega));obtain⟨k0,e0,l0⟩:=Zcu t0;(have t1:DataW.trod enc prog w base spare held m 32 [c1]=some y1:=by simpa [Value.cells,h1] using ab 1 (by omega));obtain⟨k1,e1,l1⟩:=Zcu t1;subst e0 e1;exact⟨k0,k1,rfl,l0,l1⟩
end
section
variable {ops : Array Oper} {rest : List Oper} {o : Oper} {a : Act} {Q : Exit → Act → World → Prop}
end
def ZrD (n:Nat) (w:World) (e:Ending) (w':World):Prop:=∃b,e=.returned (.bool b)∧(b=true→n≤30)∧w'=w
theorem ZkC (a:Option Addr)(n cap:Nat)(l:List Ux)(w:World)(h:Us w a n l)(ac:n≤9223372036854775807) :
    Calls prog 25 #[.slice a n cap] w fun e w'=>ZrD n w e w':=by
  have HE:=Zh h;clear h;go_enter func25,ntmps25;go_wp2_with fail;go_loopw [3] (fun iv wr=>∃i:Nat,i≤30∧i≤n∧iv=.int .i64 (i:Nat)∧wr=w) (fun iv _=>30-(intOf iv).toNat)
  case atStart=>exact ⟨0,by omega,by omega,rfl,rfl⟩
  case round =>
   obtain⟨i,hi,ag,rfl,rfl⟩:=hrel;rcases Nat.lt_or_ge i n with ad | af
   · (have i1:(i:Int)<(n:Int):=by omega);rcases Nat.lt_or_ge i 30 with ah | ae
     · (have i2:(i:Int)<30:=by omega);obtain⟨b1,off,rfl,ab⟩:=HE.o.at' i ad;generalize l.getD i Ux.zero=y at *;have x8:=ab.c8;clear ab;by_cases hc:20<y.n
       · (have i3:(20:Int)<(y.n:Int):=by omega);go_wp2;go_ret;exact⟨_,rfl,(fun e=>by cases e),rfl⟩
       · (have i3:¬(20:Int)<(y.n:Int):=by omega);go_wp2;go_roundw;exact ⟨i+1,by omega,by omega,by go_num,trivial⟩;simp only [intOf];omega
     · (have i2:¬(i:Int)<30:=by omega);by_cases aa:n≤30
       · (have i3:(n:Int)≤30:=by omega);go_wp2;go_ret;exact⟨_,rfl,(fun _=>aa),rfl⟩
       · (have i3:¬(n:Int)≤30:=by omega);go_wp2;go_ret;exact⟨_,rfl,(fun e=>by cases e),rfl⟩
   · (have i1:¬(i:Int)<(n:Int):=by omega);(have aa:n≤30:=by omega);(have i3:(n:Int)≤30:=by omega);go_wp2;go_ret;exact⟨_,rfl,(fun _=>aa),rfl⟩
open Go.ChangeShapes Go.WideShapes Go.ChangeAt Go.RowKit
structure BIn (w:World) (z:Bz):Prop where
  es:Es w z.es z.t.es
  cs:Us w z.cs.a z.cs.len z.ux
  cb:z.cs.len≤9223372036854775807
  ls:InL w z.ls z.lb
theorem InS.keepB {l:List Sb}(h:InS w s l)(hA:Bl w w'):InS w' s l:=
 ⟨h.len,h.nil,h.le,h.big,fun i hi=>by obtain ⟨b,off,ha,c0⟩:=h.cell i hi;exact ⟨b,off,ha,Zaf c0 hA⟩,fun q hq=>(h.bs q hq).keep hA (Nat.le_refl _)⟩
theorem InL.keepB (h:InL w s L)(hA:Bl w w'):InL w' s L:=
 ⟨h.len,h.nil,h.le,h.big,fun i hi=>by obtain ⟨b,off,ha,c0,c1⟩:=h.cell i hi;exact ⟨b,off,ha,Zaf c0 hA,Zaf c1 hA⟩,fun x hx=>⟨(h.it x hx).1.keep hA,(h.it x hx).2.keepB hA⟩⟩
theorem BIn.keep (h:BIn w z)(hb:Bl w w'):BIn w' z:=⟨h.es.keep hb (Nat.le_refl _),h.cs.keep hb (Nat.le_refl _),h.cb,h.ls.keepB hb⟩
section
variable {H : Type} {enc : TypeId × Value → H} {w : World} {base : Nat} {spare : Nat → Bool} {held : Bool}
theorem Zrm {v:Value}{d:DataW H}{p:List MemPlace}(hv:Value.okWide prog w r b0 28 v)(h:DataW.Trod enc prog w base spare held 28 v d p) :
    ∃z:Bz,v=z.val∧BIn w z:=by
  (have hC:prog.cellsOf 28=6:=by kernel_rfl);(have hT:prog.cellsOf 24=4:=by kernel_rfl);(have hU:prog.cellsOf 25=1:=by kernel_rfl);(have hL:prog.cellsOf 26=1:=by kernel_rfl);obtain⟨cs,rfl,ac⟩:=okWide_struct underlying28 hv;rw [hC] at ac;obtain⟨l⟩:=cs
  match l,ac with
  | [c0,c1,c2,c3,c4,c5],_ =>
   obtain⟨fuel,hf⟩:=h;obtain⟨xs,n,_,_,_,ab,aa⟩:=DataW.trod_struct underlying28 hf
   match xs,ab with
   | [y0,y1,y2],_ =>
    (have t0:DataW.trod enc prog w base spare held n 24 [c0,c1,c2,c3]=some y0:=by simpa [Value.cells,hT] using aa 0 _ rfl);(have t1:DataW.trod enc prog w base spare held n 25 [c4]=some y1:=by simpa [Value.cells,hU,hT] using aa 1 _ rfl);(have t2:DataW.trod enc prog w base spare held n 26 [c5]=some y2:=by simpa [Value.cells,hL,hU,hT] using aa 2 _ rfl);obtain⟨t,s,e0,hE,ag⟩:=Znj t0;obtain⟨ua,un,uc,e1⟩:=Go.Joins.slice_form underlying25 t1;obtain⟨la,ln,lc,e2⟩:=Go.Joins.slice_form underlying26 t2;simp only [List.cons.injEq,and_true] at e0 e1 e2;obtain⟨rfl,rfl,rfl,rfl⟩:=e0;subst e1 e2;obtain⟨ux,ae,af⟩:=ZkP t1;obtain⟨L,ad⟩:=Zi9 t2;exact⟨⟨t,s,⟨ua,un,uc⟩,ux,⟨la,ln,lc⟩,L⟩,rfl,hE,ae,af,ad⟩
end
def ZjS (w:World) (z:Bz) (e:Ending):Prop:=e=.returned (.bool false)∨(Bin w z∧z.ls.len≤8∧e=.returned (.bool true))
theorem ZkA (w:World)(z:Bz)(h:BIn w z):Calls prog 7 #[z.val] w fun e w'=>ZjS w z e∧Bl w w':=by
 have hA:=Zab w (.cells #[.int .i64 z.t.nx,.int .i64 z.t.no,.int .i64 z.t.cm,.slice z.es.a z.es.len z.es.cap,.slice z.cs.a z.cs.len z.cs.cap,.slice z.ls.a z.ls.len z.ls.cap] 28);have hb:=ZaU w z;obtain⟨W,hW⟩:∃W,w.alloc (.cells #[.int .i64 z.t.nx,.int .i64 z.t.no,.int .i64 z.t.cm,.slice z.es.a z.es.len z.es.cap,.slice z.cs.a z.cs.len z.cs.cap,.slice z.ls.a z.ls.len z.ls.cap] 28)=W:=⟨_,rfl⟩;rw [hW] at hA hb;have HW:=Zh hW;have HA:=Zh hA;have HB:=Zh hb;have hk:=h.keep hA;have HU:=Zh (ZkC z.cs.a z.cs.len z.cs.cap z.ux W hk.cs h.cb);have HL:=Zh (ZkB W z.ls z.lb hk.ls);have ac:Hi (z.cs.len≤30→z.ls.len≤8→(∀x∈z.lb,ZdU x.u x.v x.l)→Bin w z):=fun h1 h2 h3=>⟨h.es,h.cs,by omega,h.ls.gl h2 h3⟩;have ai:z.es.len≤9223372036854775807:=h.es.big;have c3:=hb.c3;have c4:=hb.c4;have c5:=hb.c5;clear h hA hb hW hk;unfold Bz.val;unfold Sl.val at HL;go_enter func7,ntmps7;by_cases h0:z.es.len≤20
 · (have j0:(z.es.len:Int)≤20:=by omega);go_wp2_with fail;rw [HW.o];refine HU.o.mono ?_;rintro e w1 ⟨b,rfl,ah,rfl⟩;cases b with
   | false =>
    clear HL;go_wp2;go_ret;exact⟨.inl rfl,HA.o⟩
   | true =>
    have ag:=ah rfl;go_wp2_with fail;refine HL.o.mono ?_;rintro e w2 ⟨hl | ⟨ad,ae,hl⟩,aa⟩
    · subst hl;have ab:=Zh (Zac HA.o aa);clear aa;go_wp2;go_ret;exact⟨.inl rfl,ab.o⟩
    · subst hl;have ab:=Zh (Zac HA.o aa);have HR:=Zh (ac.o ag ad ae);have af:Hi (z.ls.len≤8):=ad;clear aa ae;go_wp2;go_ret;exact⟨.inr ⟨HR.o,af.o,rfl⟩,ab.o⟩
 · (have j0:¬(z.es.len:Int)≤20:=by omega);go_wp2_with fail;rw [HW.o];go_ret;exact⟨.inl rfl,HA.o⟩
def Zie (b:Bse) (e:Ending):Prop:=(MayBs b∧e=.returned (.int .i64 0))∨(¬MayBs b∧e=.returned (.int .i64 1))
def Zer (w0 w:World) (o:Option Rw × List Int × Int) (e:Ending) (w':World):Prop:=Bl w w'∧∃(y:Rx) (q:Sl),e=.returned (.tuple #[y.val,.bool o.1.isSome,q.val,.int .i64 o.2.2])∧y.r=o.1.getD zeroR∧ColR w0 w' y∧Gi (fun _=>True) w' q o.2.1
structure Zgf (F:Prop):Prop where
  check:∀(w:World) (z:Bz),Bin w z→Calls prog 10 #[z.val] w fun e w'=>Zie z.b e∧Bl w w'
  read:∀(w0 w:World) (z:Bz) (v:Vw) (s:Sl) (key:Nat),Bl w0 w→Bin w0 z→Gi (fun _=>True) w s v.act→s.len≤200→key<18446744073709551616→MayBs z.b→MayV v→Calls prog 9 #[z.val,vwV v s,.float .f64 key] w (Zer w0 w (Vn.cut (readB (uns z.ux) (lfs z.lb) v key)))
  readN:∀(w:World) (z:Bz) (v:Vw) (s:Sl) (key:Nat),Bin w z→Gi (fun _=>True) w s v.act→s.len≤200→key<18446744073709551616→¬(MayBs z.b∧MayV v)→Calls prog 9 #[z.val,vwV v s,.float .f64 key] w fun e w'=>(∃(a:Option Addr) (c:Nat),e=.returned (.tuple #[Zd1,.bool false,.slice a 0 c,.int .i64 1]))∧Bl w w'
  scan:F→∀(w:World) (z:Bz) (v:Vw) (s:Sl) (lo hi:Nat),Bin w z→z.ls.len≤8→Gi (fun _=>True) w s v.act→s.len≤200→lo<18446744073709551616→hi<18446744073709551616→MayBs z.b→MayV v→Calls prog 16 #[z.val,vwV v s,.float .f64 lo,.float .f64 hi] w (Zb2 w (scanB (uns z.ux) (lfs z.lb) v lo hi))
  scanN:F→∀(w:World) (z:Bz) (v:Vw) (s:Sl) (lo hi:Nat),Bin w z→z.ls.len≤8→Gi (fun _=>True) w s v.act→s.len≤200→lo<18446744073709551616→hi<18446744073709551616→¬(MayBs z.b∧MayV v)→Calls prog 16 #[z.val,vwV v s,.float .f64 lo,.float .f64 hi] w fun e w'=>(∃(a b:Option Addr) (c d:Nat),e=.returned (.tuple #[.slice a 0 c,.slice b 0 d,.int .i64 1]))∧Bl w w'
theorem ZiW {fn:Func}{x:Nat}(hr:fn.results=#[.cell x 24]){t:Tbl}{v:Sl}(h:ZaN W g t v)(tmps:Array Value)(ht:tmps.getD x undef=.pointer (some ⟨g,0,none⟩)):(results fn tmps).run prog W=.ok (t.val v) W:=by
 have c0:=h.c0;have c1:=h.c1;have c2:=h.c2;have c3:=h.c3;rw [Array.getD_eq_getD_getElem?] at ht;unfold results;rw [hr];simp [go_sem,ht,c0,c1,c2,c3,Tbl.val]
theorem Zi1:madeCells (Value.agg #[.int .i64 0,.int .i64 0,.int .i64 0,.int .i64 0]).cells (12*4)=(Zch (List.replicate 12 En.zero)).toArray:=by kernel_rfl
theorem Zi2 (w:World):(Instr.makeSlice 22 (.int .i64 12) (.int .i64 12)).run prog w=.ok (.slice (some ⟨w.heap.size,0,none⟩) 12 12) (w.alloc (.cells (Zch (List.replicate 12 En.zero)).toArray 127)):=by
 obtain⟨i0,hi,ab,aa,ac⟩:=info_parts ZoU;have h:=run_makeSlice (P:=prog) w 22 127 i0 (.agg #[.int .i64 0,.int .i64 0,.int .i64 0,.int .i64 0]) underlying22 hi ab .i64 .i64 12 12 (by omega) (by omega) (by rw [aa];decide) (by rw [ac];decide) (by omega);rw [aa,show (12:Int).toNat=12 from rfl,Zi1] at h;exact h
theorem ZkQ (w:World):OwnE (w.alloc (.cells (Zch (List.replicate 12 En.zero)).toArray 127)) ⟨some ⟨w.heap.size,0,none⟩,12,12⟩ (List.replicate 12 En.zero):=
 ⟨rfl,.inr ⟨w.heap.size,0,_,rfl,heap_alloc_new w _,(by show 0+12*4≤(Zch (List.replicate 12 En.zero)).toArray.size;decide),Nat.le_refl _,(by show (12:Nat)≤maxLen;unfold maxLen;decide),rfl⟩⟩
section
variable {ops : Array Oper} {rest : List Oper} {o : Oper} {a : Act} {Q : Exit → Act → World → Prop}
theorem Zic (w:World)(ab:o.guard=none)(t:TypeId)(x y:Operand)(ho:o.op=.makeSlice t x y)(u u' v:Value)(hu:a.eval x=u)(hu':a.eval y=u')(w':World)(aa:(Instr.makeSlice t u u').run prog w=.ok v w')(hK:wpList prog ops Q rest (a.put o.dst v) w'):wpList prog ops Q (o :: rest) a w:=by
 refine Zc5 w ab v w' ?_ hK;have e:execOp a.eval o=(do pure (.value (← Instr.makeSlice t (a.eval x) (a.eval y)))):=by
  unfold execOp;rw [ho]
 rw [e,hu,hu'];simp [aa]
end
def ZrE (t:Tbl) (w:World) (mk:Value→Value) (e:Ending) (w':World):Prop:=∃s:Sl,e=.returned (mk (t.val s))∧OwnE w' s t.es∧(∀k,s.blk=some k→w.heap.size≤k)∧Bl w w'
theorem Zfb (w:World):Calls prog 58 #[] w (ZrE Zar w id):=by
 have hz:=ZaN.new w Tbl.zero Sl.nil
 have s1:(w.alloc (.cells #[.int .i64 0,.int .i64 0,.int .i64 0,.slice none 0 0] 24)).heap.size=w.heap.size+1:=by simp
 have hb1:=Zab w (.cells #[.int .i64 0,.int .i64 0,.int .i64 0,.slice none 0 0] 24)
 have hz':ZaN (w.alloc (.cells #[.int .i64 0,.int .i64 0,.int .i64 0,.slice none 0 0] 24)) w.heap.size Tbl.zero Sl.nil:=hz
 have hmk:=Zi2 (w.alloc (.cells #[.int .i64 0,.int .i64 0,.int .i64 0,.slice none 0 0] 24))
 have ho:=ZkQ (w.alloc (.cells #[.int .i64 0,.int .i64 0,.int .i64 0,.slice none 0 0] 24))
 have hb2:=Zab (w.alloc (.cells #[.int .i64 0,.int .i64 0,.int .i64 0,.slice none 0 0] 24)) (.cells (Zch (List.replicate 12 En.zero)).toArray 127)
 rw [s1] at hmk ho
 generalize (w.alloc (.cells #[.int .i64 0,.int .i64 0,.int .i64 0,.slice none 0 0] 24)).alloc (.cells (Zch (List.replicate 12 En.zero)).toArray 127)=W2 at *
 obtain⟨W3,hst,hbk,hfr,hsz⟩:=(hz'.keep hb2).store Zar ⟨some ⟨w.heap.size+1,0,none⟩,12,12⟩
 have HO:Hi (OwnE W3 ⟨some ⟨w.heap.size+1,0,none⟩,12,12⟩ Zar.es):=ho.other hfr (fun k hk=>by have e:some (w.heap.size+1)=some k:=hk;cases e;omega)
 have HN:Hi (∀k,(⟨some ⟨w.heap.size+1,0,none⟩,12,12⟩:Sl).blk=some k→w.heap.size≤k):=fun k hk=>by have e:some (w.heap.size+1)=some k:=hk;cases e;omega
 have HB:Hi (Bl w W3):=(Zac hb1 hb2).trans (hfr.below (Zac hb1 hb2).size (fun k hk=>by omega))
 have HMK:=Zh hmk
 have HST:Hi ((Instr.storeAt 24 (.pointer (some ⟨w.heap.size,0,none⟩)) (.agg #[.int .i64 1,.int .i64 1,.int .i64 0,.slice (some ⟨w.heap.size+1,0,none⟩) 12 12])).run prog W2=.ok () W3):=hst
 have HBK:=Zh hbk
 clear hz hz' s1 hb1 hb2 hmk ho hst hbk hfr hsz
 go_enter func58,ntmps58
 go_wp2_with (first | refine Zic _ rfl 22 (.const (.int .i64 12)) (.const (.int .i64 12)) rfl (.int .i64 12) (.int .i64 12) (.slice (some ⟨w.heap.size+1,0,none⟩) 12 12) rfl rfl W2 HMK.o ?_ | refine Zad _ rfl rfl 24 (.tmp 0) (.tmp 2) rfl (.pointer (some ⟨w.heap.size,0,none⟩)) (.agg #[.int .i64 1,.int .i64 1,.int .i64 0,.slice (some ⟨w.heap.size+1,0,none⟩) 12 12]) rfl rfl W3 HST.o ?_)
 refine bodyPost_ret (ZiW rfl HBK.o _ rfl) rfl ?_
 exact⟨_,rfl,HO.o,HN.o,HB.o⟩
def setBs (w:World) (p:Nat) (z:Bz):World:=((((((w.setCell ⟨p,0,none⟩ (.int .i64 z.t.nx)).setCell ⟨p,1,none⟩ (.int .i64 z.t.no)).setCell ⟨p,2,none⟩ (.int .i64 z.t.cm)).setCell ⟨p,3,none⟩ (.slice z.es.a z.es.len z.es.cap)).setCell ⟨p,4,none⟩ (.slice z.cs.a z.cs.len z.cs.cap)).setCell ⟨p,5,none⟩ (.slice z.ls.a z.ls.len z.ls.cap))
theorem Zdx (w:World)(p:Nat)(z:Bz):Frm (fun k=>k=p) w (setBs w p z):=(((((((Frm.refl (fun k=>k=p) w).setCell (p:=⟨p,0,none⟩) rfl _).setCell (p:=⟨p,1,none⟩) rfl _).setCell (p:=⟨p,2,none⟩) rfl _).setCell (p:=⟨p,3,none⟩) rfl _).setCell (p:=⟨p,4,none⟩) rfl _).setCell (p:=⟨p,5,none⟩) rfl _)
theorem Zdw (h:BsBlk w p y)(z:Bz):BsBlk (setBs w p z) p z:=by
 have s0:=heap_setCell_same w p 0 _ 28 (.int .i64 z.t.nx) h;have s1:=heap_setCell_same _ p 1 _ 28 (.int .i64 z.t.no) s0;have s2:=heap_setCell_same _ p 2 _ 28 (.int .i64 z.t.cm) s1;have s3:=heap_setCell_same _ p 3 _ 28 (.slice z.es.a z.es.len z.es.cap) s2;have s4:=heap_setCell_same _ p 4 _ 28 (.slice z.cs.a z.cs.len z.cs.cap) s3;have s5:=heap_setCell_same _ p 5 _ 28 (.slice z.ls.a z.ls.len z.ls.cap) s4;exact s5
theorem Zo3 (h:BsBlk w p y)(z:Bz):(Instr.storeAt 28 (.pointer (some ⟨p,0,none⟩)) z.val).run prog w=.ok () (setBs w p z):=by
 have c0:=h.c0;have c1:=h.c1;have c2:=h.c2;have c3:=h.c3;have c4:=h.c4;have c5:=h.c5;have f0:=h.fz;simp [go_sem,Instr.storeAt,stored,c0,c1,c2,c3,c4,c5,f0,Bz.val,setBs]
theorem Zr2 (h:BsBlk w p y)(s:Sl)(L:List Lb):∃W,(Instr.storeAt 26 (.pointer (some ⟨p,5,none⟩)) (.slice s.a s.len s.cap)).run prog w=.ok () W∧BsBlk W p ⟨y.t,y.es,y.cs,y.ux,s,L⟩∧Frm (fun k=>k=p) w W:=by
 have c5:=h.c5;have f0:=h.fz;refine⟨w.setCell ⟨p,5,none⟩ (.slice s.a s.len s.cap),by simp [go_sem,Instr.storeAt,stored,c5,f0],?_,(Frm.refl (fun k=>k=p) w).setCell (p:=⟨p,5,none⟩) rfl _⟩;have s5:=heap_setCell_same w p 5 _ 28 (.slice s.a s.len s.cap) h;exact s5
theorem Zgl (z:Bz)(w:World):(Instr.build 28 #[(0,z.t.val z.es),(1,.slice z.cs.a z.cs.len z.cs.cap),(2,.slice z.ls.a z.ls.len z.ls.cap)]).run prog w=.ok z.val w:=by
 obtain⟨⟨nx,no,cm,es⟩,⟨a,b,c⟩,⟨d,e,f⟩,ux,⟨g,h,i⟩,lb⟩:=z;simp [go_sem,Tbl.val,Bz.val]
theorem Es.box {v:Sl}{l:List En}(h:Es w v l)(hg:BsBlk w g z)(hf:Frm (fun k=>k=g) w W):Es W v l:=by
 refine⟨h.len,h.nil,h.le,h.big,fun j hj=>?_⟩;obtain⟨b,off,ha,e⟩:=h.at' j hj;have hb:b≠g:=by
  intro e2;subst e2;have c0:=e.c0;have c1:=e.c1;have c2:=e.c2;have c3:=e.c3;unfold BsBlk at hg;rw [cell_of_row _ _ _ _ _ _ hg] at c0 c1 c2 c3;generalize off+j*4=q at *;rcases q with _ | _ | _ | _ | _ | _ | q <;> simp at c0 c1 c2 c3
 have hs:W.heap[b]? = w.heap[b]?:=hf.block b (World.block_lt_of_cell? w _ e.c0) hb;refine⟨b,off,ha,⟨?_,?_,?_,?_⟩⟩
 · have:=e.c0;simp only [World.cell?] at this ⊢;rw [hs];exact this
 · have:=e.c1;simp only [World.cell?] at this ⊢;rw [hs];exact this
 · have:=e.c2;simp only [World.cell?] at this ⊢;rw [hs];exact this
 · have:=e.c3;simp only [World.cell?] at this ⊢;rw [hs];exact this
theorem Fs.box {c:Nat}{xs:List Nat}(h:Fs w a n c xs)(hg:BsBlk w g z)(hf:Frm (fun k=>k=g) w W):Fs W a n c xs:=by
 refine h.same (fun b off ha hn=>?_);obtain⟨b',off',ha',hc,_,_⟩:=h.at 0 hn;rw [ha'] at ha;cases ha;refine hf.block b (World.block_lt_of_cell? _ _ hc) (fun e=>?_);subst e;unfold BsBlk at hg;rw [cell_of_row _ _ _ _ _ _ hg] at hc;generalize off+0=q at *;rcases q with _ | _ | _ | _ | _ | _ | q <;> simp at hc
theorem Us.box {l:List Ux}(h:Us w a n l)(hg:BsBlk w g z)(hf:Frm (fun k=>k=g) w W):Us W a n l:=by
 refine⟨h.len,fun j hj=>?_,fun x hx=>(h.cols x hx).box hg hf,h.fits⟩;obtain⟨b,off,ha,e⟩:=h.at' j hj;have hb:b≠g:=by
  intro e2;subst e2;have c7:=e.c7;unfold BsBlk at hg;rw [cell_of_row _ _ _ _ _ _ hg] at c7;generalize off+j*12=q at *;rcases q with _ | _ | _ | _ | _ | _ | q <;> simp at c7
 have hs:W.heap[b]? = w.heap[b]?:=hf.block b (World.block_lt_of_cell? w _ e.c0) hb;(have k:∀{q:Nat} {u:Value},w.cell? ⟨b,q,none⟩=some u→W.cell? ⟨b,q,none⟩=some u:=fun {q u} hq=>by simp only [World.cell?] at hq ⊢;rw [hs];exact hq);exact⟨b,off,ha,⟨k e.c0,k e.c1,k e.c2,k e.c3,k e.c4,k e.c5,k e.c6,k e.c7,k e.c8,k e.c9,k e.c10,k e.c11⟩⟩
theorem Own.box {e:TypeId}{vs:List Value}(h:Own e n w s vs)(hg:BsBlk w g z)(he:e≠28)(hf:Frm (fun k=>k=g) w W):Own e n W s vs:=Own.frmT h hg he hf
structure EmB (w0 w:World) (n:Nat) (z:Bz):Prop where
  t:z.t=Zar
  es:OwnE w z.es z.t.es
  ux:z.ux=List.replicate 6 Ux.zero
  cs:Ud w0 w z.cs z.ux
  ls:EmI w0 w z.ls z.lb
  ll:z.ls.len=n
  em:lfs z.lb=ZaH n
theorem EmI.keep (h:EmI w0 w s L)(hb:Bl w w'):EmI w0 w' s L:=
 ⟨Own.frame h.own (fun k hk=>hb.block k (Own.lt h.own hk)),h.new,Zac h.below hb,fun x hx=>by obtain ⟨a,b,c,g,e,f⟩:=h.it x hx;exact ⟨a,b,c,g,e,(hb.block g (Array.getElem?_eq_some_iff.1 f).1).trans f⟩⟩
theorem EmI.base {w1:World}(h:EmI w1 w s L)(hb:Bl w0 w1):EmI w0 w s L:=⟨h.own,fun k hk=>Nat.le_trans hb.size (h.new k hk),Zac hb h.below,h.it⟩
theorem EmI.glN (h:EmI w0 w s L)(hm:s.len≤900)(hg:BsBlk w g z):Gl (fun k=>k≠g) w s L:=by
 have h1:=h.gl hm;have hn:∀k,s.blk=some k→k≠g:=fun k hk e=>by
  obtain⟨c,hc⟩:=Own.kind h.own hk;unfold BsBlk at hg;rw [e,hg] at hc;simp only [Option.some.injEq,Obj.cells.injEq] at hc;exact absurd hc.2.1 (by decide)
 exact h.own.gl hm hn (fun x hx=>by
  obtain⟨a1,a2,a3,g2,a4,a5⟩:=h.it x hx;have aa:g2≠g:=fun e=>by
   unfold BsBlk at hg;rw [e,hg] at a5;simp only [Option.some.injEq,Obj.cells.injEq] at a5;exact absurd a5.2.1 (by decide)
  have h3:=(h1.it x hx).1;refine⟨⟨h3.len,h3.nil,h3.le,h3.big,fun ad ha hl=>?_,h3.cell⟩,?_⟩
  · rw [a4] at ha;cases ha;exact aa
  · rw [a1,a2];exact Gb.none w)
theorem EmI.frmT {cs:Array Value}{t:TypeId}(h:EmI w0 w s L)(hg:w.heap[g]? = some (Obj.cells cs t (0,0)))(h1:101≠t)(h2:3≠t)(hf:Frm (fun k=>k=g) w W)(aa:w0.heap.size≤g):EmI w0 W s L:=by
 refine⟨Own.frmT h.own hg h1 hf,h.new,h.below.trans (hf.below h.below.size (fun k e=>by rw [e];exact aa)),fun x hx=>?_⟩;obtain⟨a1,a2,a3,g2,a4,a5⟩:=h.it x hx;refine⟨a1,a2,a3,g2,a4,(hf.block g2 (Array.getElem?_eq_some_iff.1 a5).1 (fun e=>?_)).trans a5⟩;rw [e,hg] at a5;simp only [Option.some.injEq,Obj.cells.injEq] at a5;exact h2 a5.2.1.symm
theorem Zjw:∀args w,(callFunc 58 args).run prog w=.ok (.enter 58 args) w:=Pl.qi func58
theorem Zgs:∀args w,(callFunc 59 args).run prog w=.ok (.enter 59 args) w:=Pl.qi func59
theorem Zis {ts us ls:Sl}(hk:BsBlk w g y)(ht:OwnE w ts Zar.es)(hu:Ud w0 w us (List.replicate 6 Ux.zero))(hm:EmI w0 w ls L)(ab:L.length=n)(hn:n≤800)(aa:w0.heap.size≤g)(hf:Frm (fun k=>k=g) w W):EmB w0 W n ⟨Zar,ts,us,List.replicate 6 Ux.zero,ls,L⟩:=by
 refine⟨rfl,Own.box ht hk (by decide) hf,rfl,⟨Own.box hu.own hk (by decide) hf,hu.new,hu.below.trans (hf.below hu.below.size (fun k e=>by rw [e];exact aa)),fun x hx=>?_,hu.fits⟩,hm.frmT hk (by decide) (by decide) hf aa,by have h1:L.length=ls.len:=OwnL.len hm.own;show ls.len=n;omega,by rw [hm.lfs,ab]⟩;rw [(List.mem_replicate.1 hx).2];exact Col.zero _ _
theorem ZqC (w0 w:World)(hw:Bl w0 w)(g n:Nat)(hn:n≤800)(al:w0.heap.size≤g)(hK:BsBlk w g ⟨Tbl.zero,Sl.nil,Sl.nil,[],Sl.nil,[]⟩)
    {Q:Exit→Act→World→Prop}(bc:A.tmps.size=8)(bb:A.defers=[])(s0:A.tmps.getD 0 undef=.int .i64 (n:Int))(s2:A.tmps.getD 2 undef=.pointer (some ⟨g,0,none⟩))
    (hend:∀(u:Nat→Value)(z:Bz) w',BsBlk w' g z→EmB w0 w' n z→Bl w0 w'→Q .normal (Pl.pu A u [5,3,4,6,7]) w') :
    Pl.rg prog 1 f27 Q A w:=by
  have ap:Bl w0 w.drew:=hw.drew;have ay:BsBlk w.drew g ⟨Tbl.zero,Sl.nil,Sl.nil,[],Sl.nil,[]⟩:=hK;have hA:=Pl.At.same (v:=.pointer (some ⟨g,0,none⟩)) (d:=2) (Pl.At.same (v:=.int .i64 (n:Int)) (d:=0) (Pl.At.here bc bb) s0) s2;refine Pl.qb (S:=fun w'=>Bl w0 w') hA ap ?_;rw [show (Pl.fd 1 f27).size=6 by kernel_rfl];refine Pl.q0 2 5 (.int .i64 (n:Int)) (Pl.q1) (Pl.q2 (.tmp 0)) ap ?_;refine Pl.qs 0 1 ?_ ?_
  · refine Pl.q_36 0 3 58 [] #[] Zjw (Calls.mono (Zfb w.drew) ?_);rintro e w3 ⟨ts,rfl,av,bd,ak⟩;have ag:Bl w0 w3:=Zac ap ak;have au:=ay.keep ak;refine⟨Zar.val ts,rfl,ag,?_⟩;refine Pl.qs 1 3 ?_ ?_
    · have ad:=Zab w3 (.cells (Zat (List.replicate 6 Ux.zero)).toArray 65);have aq:=Ud.six w0 w3 ag;have ac:Bl w0 (w3.alloc (.cells (Zat (List.replicate 6 Ux.zero)).toArray 65)):=Zac ag ad;have aj:=au.keep ad;have aw:=av.keep ad;refine Pl.qj 1 4 (.slice (some ⟨w3.heap.size,0,none⟩) 6 6) (w3.alloc (.cells (Zat (List.replicate 6 Ux.zero)).toArray 65)) (Pl.mkV 1 25 (.const (.int .i64 6)) (.const (.int .i64 6)) _ _ (by kernel_rfl) (by decide) (by decide) (Zg5 w3)) ac ?_;refine Pl.qe 3 6 59 [(.tmp 5)] #[3] (Pl.q1) Zgs (Calls.mono (ZdB ((w3.alloc (.cells (Zat (List.replicate 6 Ux.zero)).toArray 65))) n hn) ?_);rintro e w6 ⟨ls,L,rfl,aa,ar⟩;have ab:Bl w0 w6:=Zac ac aa.below;have af:=aj.keep aa.below;have am:=aw.keep aa.below;have ax:=aq.keep aa.below;have ao:=aa.base ac;refine⟨.slice ls.a ls.len ls.cap,rfl,ab,?_⟩;refine Pl.q0 4 7 ((Bz.mk Zar ts ⟨some ⟨w3.heap.size,0,none⟩,6,6⟩ (List.replicate 6 Ux.zero) ls L).val) (Pl.q1) (Pl.q_39 28 [(0,.tmp 3),(1,.tmp 4),(2,.tmp 6)] (fun wq=>Zgl (Bz.mk Zar ts ⟨some ⟨w3.heap.size,0,none⟩,6,6⟩ (List.replicate 6 Ux.zero) ls L) wq)) ab ?_;have ai:=Zdx w6 g (Bz.mk Zar ts ⟨some ⟨w3.heap.size,0,none⟩,6,6⟩ (List.replicate 6 Ux.zero) ls L);have an:=Zdw af (Bz.mk Zar ts ⟨some ⟨w3.heap.size,0,none⟩,6,6⟩ (List.replicate 6 Ux.zero) ls L);have ah:Bl w0 (setBs w6 g (Bz.mk Zar ts ⟨some ⟨w3.heap.size,0,none⟩,6,6⟩ (List.replicate 6 Ux.zero) ls L)):=ab.trans (ai.below ab.size (fun k hk=>by rw [hk];exact al));have ae:=Zis af am ax ao ar hn al ai;refine Pl.ql 5 (setBs w6 g (Bz.mk Zar ts ⟨some ⟨w3.heap.size,0,none⟩,6,6⟩ (List.replicate 6 Ux.zero) ls L)) (Pl.q1) (Pl.qm 28 (.tmp 2) (.tmp 7) (Zo3 af (Bz.mk Zar ts ⟨some ⟨w3.heap.size,0,none⟩,6,6⟩ (List.replicate 6 Ux.zero) ls L))) ah ?_;refine Pl.q8 (fun A' hA'=>?_);exact Pl.en hA' hA [5,3,4,6,7] (hend hA'.fn _ _ an ae ah)
    · refine Pl.q_36 3 6 59 [(.tmp 5)] #[3] Zgs (Calls.mono (ZdB w3 n hn) ?_);rintro e w6 ⟨ls,L,rfl,aa,ar⟩;have ab:Bl w0 w6:=Zac ag aa.below;have af:=au.keep aa.below;have am:=av.keep aa.below;have ao:=aa.base ag;refine⟨.slice ls.a ls.len ls.cap,rfl,ab,?_⟩;have ad:=Zab w6 (.cells (Zat (List.replicate 6 Ux.zero)).toArray 65);have aq:=Ud.six w0 w6 ab;have ac:Bl w0 (w6.alloc (.cells (Zat (List.replicate 6 Ux.zero)).toArray 65)):=Zac ab ad;have aj:=af.keep ad;have aw:=am.keep ad;have az:=ao.keep ad;refine Pl.qf 1 4 (.slice (some ⟨w6.heap.size,0,none⟩) 6 6) (w6.alloc (.cells (Zat (List.replicate 6 Ux.zero)).toArray 65)) (Pl.q1) (Pl.mkV 1 25 (.const (.int .i64 6)) (.const (.int .i64 6)) _ _ (by kernel_rfl) (by decide) (by decide) (Zg5 w6)) ac ?_;rw [Pl.qg 6 4];refine Pl.q0 4 7 ((Bz.mk Zar ts ⟨some ⟨w6.heap.size,0,none⟩,6,6⟩ (List.replicate 6 Ux.zero) ls L).val) (Pl.q1) (Pl.q_39 28 [(0,.tmp 3),(1,.tmp 4),(2,.tmp 6)] (fun wq=>Zgl (Bz.mk Zar ts ⟨some ⟨w6.heap.size,0,none⟩,6,6⟩ (List.replicate 6 Ux.zero) ls L) wq)) ac ?_;have ai:=Zdx ((w6.alloc (.cells (Zat (List.replicate 6 Ux.zero)).toArray 65))) g (Bz.mk Zar ts ⟨some ⟨w6.heap.size,0,none⟩,6,6⟩ (List.replicate 6 Ux.zero) ls L);have an:=Zdw aj (Bz.mk Zar ts ⟨some ⟨w6.heap.size,0,none⟩,6,6⟩ (List.replicate 6 Ux.zero) ls L);have ah:Bl w0 (setBs ((w6.alloc (.cells (Zat (List.replicate 6 Ux.zero)).toArray 65))) g (Bz.mk Zar ts ⟨some ⟨w6.heap.size,0,none⟩,6,6⟩ (List.replicate 6 Ux.zero) ls L)):=ac.trans (ai.below ac.size (fun k hk=>by rw [hk];exact al));have ae:=Zis aj aw aq az ar hn al ai;refine Pl.ql 5 (setBs ((w6.alloc (.cells (Zat (List.replicate 6 Ux.zero)).toArray 65))) g (Bz.mk Zar ts ⟨some ⟨w6.heap.size,0,none⟩,6,6⟩ (List.replicate 6 Ux.zero) ls L)) (Pl.q1) (Pl.qm 28 (.tmp 2) (.tmp 7) (Zo3 aj (Bz.mk Zar ts ⟨some ⟨w6.heap.size,0,none⟩,6,6⟩ (List.replicate 6 Ux.zero) ls L))) ah ?_;refine Pl.q8 (fun A' hA'=>?_);exact Pl.en hA' hA [5,3,4,6,7] (hend hA'.fn _ _ an ae ah)
  · have ad:=Zab w.drew (.cells (Zat (List.replicate 6 Ux.zero)).toArray 65);have aq:=Ud.six w0 w.drew ap;have ac:Bl w0 (w.drew.alloc (.cells (Zat (List.replicate 6 Ux.zero)).toArray 65)):=Zac ap ad;have aj:=ay.keep ad;refine Pl.qj 1 4 (.slice (some ⟨w.drew.heap.size,0,none⟩) 6 6) (w.drew.alloc (.cells (Zat (List.replicate 6 Ux.zero)).toArray 65)) (Pl.mkV 1 25 (.const (.int .i64 6)) (.const (.int .i64 6)) _ _ (by kernel_rfl) (by decide) (by decide) (Zg5 w.drew)) ac ?_;refine Pl.qe 0 3 58 [] #[] (Pl.q1) Zjw (Calls.mono (Zfb ((w.drew.alloc (.cells (Zat (List.replicate 6 Ux.zero)).toArray 65)))) ?_);rintro e w3 ⟨ts,rfl,av,bd,ak⟩;have ag:Bl w0 w3:=Zac ac ak;have au:=aj.keep ak;have ba:=aq.keep ak;refine⟨Zar.val ts,rfl,ag,?_⟩;rw [Pl.qg 4 3];refine Pl.qe 3 6 59 [(.tmp 5)] #[3] (Pl.q1) Zgs (Calls.mono (ZdB w3 n hn) ?_);rintro e w6 ⟨ls,L,rfl,aa,ar⟩;have ab:Bl w0 w6:=Zac ag aa.below;have af:=au.keep aa.below;have am:=av.keep aa.below;have ax:=ba.keep aa.below;have ao:=aa.base ag;refine⟨.slice ls.a ls.len ls.cap,rfl,ab,?_⟩;refine Pl.q0 4 7 ((Bz.mk Zar ts ⟨some ⟨w.drew.heap.size,0,none⟩,6,6⟩ (List.replicate 6 Ux.zero) ls L).val) (Pl.q1) (Pl.q_39 28 [(0,.tmp 3),(1,.tmp 4),(2,.tmp 6)] (fun wq=>Zgl (Bz.mk Zar ts ⟨some ⟨w.drew.heap.size,0,none⟩,6,6⟩ (List.replicate 6 Ux.zero) ls L) wq)) ab ?_;have ai:=Zdx w6 g (Bz.mk Zar ts ⟨some ⟨w.drew.heap.size,0,none⟩,6,6⟩ (List.replicate 6 Ux.zero) ls L);have an:=Zdw af (Bz.mk Zar ts ⟨some ⟨w.drew.heap.size,0,none⟩,6,6⟩ (List.replicate 6 Ux.zero) ls L);have ah:Bl w0 (setBs w6 g (Bz.mk Zar ts ⟨some ⟨w.drew.heap.size,0,none⟩,6,6⟩ (List.replicate 6 Ux.zero) ls L)):=ab.trans (ai.below ab.size (fun k hk=>by rw [hk];exact al));have ae:=Zis af am ax ao ar hn al ai;refine Pl.ql 5 (setBs w6 g (Bz.mk Zar ts ⟨some ⟨w.drew.heap.size,0,none⟩,6,6⟩ (List.replicate 6 Ux.zero) ls L)) (Pl.q1) (Pl.qm 28 (.tmp 2) (.tmp 7) (Zo3 af (Bz.mk Zar ts ⟨some ⟨w.drew.heap.size,0,none⟩,6,6⟩ (List.replicate 6 Ux.zero) ls L))) ah ?_;refine Pl.q8 (fun A' hA'=>?_);exact Pl.en hA' hA [5,3,4,6,7] (hend hA'.fn _ _ an ae ah)
theorem Zim {fn:Func}{x:Nat}(hr:fn.results=#[.cell x 28])(h:BsBlk W g z)(tmps:Array Value)(tx:tmps.getD x undef=.pointer (some ⟨g,0,none⟩)) :
    (results fn tmps).run prog W=.ok z.val W:=by
  have c0:=h.c0;have c1:=h.c1;have c2:=h.c2;have c3:=h.c3;have c4:=h.c4;have c5:=h.c5;(have tx2:tmps[x]?.getD undef=.pointer (some ⟨g,0,none⟩):=by simpa using tx);simp [results,hr,tx2,go_sem,c0,c1,c2,c3,c4,c5,Bz.val]
theorem Zkk (w:World)(n:Nat)(hn:n≤800):Calls prog 27 #[.int .i64 (n:Int)] w fun e w'=>(∃z:Bz,e=.returned z.val∧EmB w w' n z)∧Bl w w':=by
 have hA:=Zab w (.cells #[.int .i64 0,.int .i64 0,.int .i64 0,.slice none 0 0,.slice none 0 0,.slice none 0 0] 28);have HK:Hi (BsBlk (w.alloc (.cells #[.int .i64 0,.int .i64 0,.int .i64 0,.slice none 0 0,.slice none 0 0,.slice none 0 0] 28)) w.heap.size ⟨Tbl.zero,Sl.nil,Sl.nil,[],Sl.nil,[]⟩):=ZaU w ⟨Tbl.zero,Sl.nil,Sl.nil,[],Sl.nil,[]⟩;have HA:=Zh hA;clear hA;go_enter func27,ntmps27;go_wp2_with fail;refine Pl.q9 (ops:=Pl.fd 1 f27) ?_;refine ZqC w _ HA.o w.heap.size n hn (Nat.le_refl _) HK.o (by rfl) rfl (by rfl) (by rfl) ?_;intro u z w1 hk he hb;simp only [Pl.pu,List.foldl,Act.put,List.setIfInBounds_toArray,List.set];have ac:=Zh hk;have ab:=Zh he;have aa:=Zh hb;clear hk he hb;go_wp2;refine bodyPost_ret (Zim rfl ac.o _ rfl) rfl ?_;exact⟨⟨z,rfl,ab.o⟩,aa.o⟩
end Go.Proofs.YtiecfcjlhldhdaaGreat
