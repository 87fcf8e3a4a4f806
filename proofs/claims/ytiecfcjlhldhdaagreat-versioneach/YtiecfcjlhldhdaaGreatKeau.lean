/-
  Lemmas.
-/
import Derived.Test.YtiecfcjlhldhdaaGreatKeaf
import Derived.Test.YtiecfcjlhldhdaaGreatKean
namespace Go.Proofs.YtiecfcjlhldhdaaGreat
open Go.RowKit
set_option linter.unusedVariables false
set_option linter.unusedSimpArgs false
set_option maxRecDepth 100000
set_option maxHeartbeats 4000000
variable {t:List Int}{w:World}{A:Act}{v:Sl}{i:Nat}{s:List (List Nat)}
theorem Zpf (w:World)(g b2 o2 len2 cap2 i k:Nat)
    {Q:Exit→Act→World→Prop}(ab:A.tmps.size=78)(aa:A.defers=[])(s2:A.tmps.getD 2 undef=.slice (some ⟨b2,o2,none⟩) len2 cap2)(s3:A.tmps.getD 3 undef=.pointer (some ⟨g,0,none⟩))(s10:A.tmps.getD 10 undef=.int .i64 (i:Int))(s11:A.tmps.getD 11 undef=.bool true)(s12:A.tmps.getD 12 undef=.int .i64 (k:Int))
    (hend:∀(u:Nat→Value) w',Below w.heap.size w w'→Q .normal ((Pl.pu A u [38,39,40,41,42,43,44,45,46,47,48,49,50]).put (some 11) (.bool true)) w') :
    (Code.region 13 (Pl.find 13 ((Tryz.f63.body).getD .skip)) true).wp Tryz.prog Q A w:=by
  have hA:=Pl.At.same (v:=.int .i64 (k:Int)) (d:=12) (Pl.At.same (v:=.bool true) (d:=11) (Pl.At.same (v:=.int .i64 (i:Int)) (d:=10) (Pl.At.same (v:=.pointer (some ⟨g,0,none⟩)) (d:=3) (Pl.At.same (v:=.slice (some ⟨b2,o2,none⟩) len2 cap2) (d:=2) (Pl.At.here ab aa) s2) s3) s10) s11) s12;refine Pl.qa (S:=(fun w'=>Below w.heap.size w w')) hA (Zab w) ?_;rw [show (Pl.find 13 ((Tryz.f63.body).getD .skip)).size=14 by kernel_rfl];refine Pl.q0 0 38 (.bool true) (Pl.q1) (Pl.q2 (.tmp 11)) (Zab w) ?_;refine Pl.q0 1 39 (.bool true) (Pl.q1) (Pl.q2 (.tmp 38)) (Zab w) ?_;refine Pl.q6 2 40 (Pl.q7 1 39 false) (Zab w) ?_;refine Pl.q6 3 41 (Pl.q7 1 39 false) (Zab w) ?_;refine Pl.q6 4 42 (Pl.q7 1 39 false) (Zab w) ?_;refine Pl.q6 5 43 (Pl.q7 1 39 false) (Zab w) ?_;refine Pl.q6 6 44 (Pl.q7 1 39 false) (Zab w) ?_;refine Pl.q6 7 45 (Pl.q7 1 39 false) (Zab w) ?_;refine Pl.q6 8 46 (Pl.q7 1 39 false) (Zab w) ?_;refine Pl.q6 9 47 (Pl.q7 1 39 false) (Zab w) ?_;refine Pl.q6 10 48 (Pl.q7 1 39 false) (Zab w) ?_;refine Pl.q6 11 49 (Pl.q7 1 39 false) (Zab w) ?_;refine Pl.q0 12 50 (.bool true) (Pl.q1) (Pl.qq (.tmp 39) (.const (.bool true)) (.tmp 49)) (Zab w) ?_;refine Pl.q0 13 11 (.bool true) (Pl.q1) (Pl.qe (.tmp 50)) (Zab w) ?_;refine Pl.q8 (fun A' hA'=>?_);rw [Pl.At.ext hA' ((((((((((((((hA.put 38 _).put 39 _).put 40 _).put 41 _).put 42 _).put 43 _).put 44 _).put 45 _).put 46 _).put 47 _).put 48 _).put 49 _).put 50 _).put 11 _)];exact hend hA'.fn _ (Zab w)
theorem Zpg (w:World)(g b o len cap b2 o2 len2 cap2 i k:Nat)(v:Value)(x y:Int)(hi:i<len)(hk:k<len2)(hg:LfBlk w g (.slice (some ⟨b,o,none⟩) len cap) v)(hx:w.cell? ⟨b2,o2+k,none⟩=some (.int .i64 x))(hy:w.cell? ⟨b,o+i,none⟩=some (.int .i64 y))(h1:x=y)
    {Q:Exit→Act→World→Prop}(ab:A.tmps.size=78)(aa:A.defers=[])(s2:A.tmps.getD 2 undef=.slice (some ⟨b2,o2,none⟩) len2 cap2)(s3:A.tmps.getD 3 undef=.pointer (some ⟨g,0,none⟩))(s10:A.tmps.getD 10 undef=.int .i64 (i:Int))(s11:A.tmps.getD 11 undef=.bool false)(s12:A.tmps.getD 12 undef=.int .i64 (k:Int))
    (hend:∀(u:Nat→Value) w',Below w.heap.size w w'→Q .normal ((Pl.pu A u [38,39,40,41,42,43,44,45,46,47,48,49,50]).put (some 11) (.bool true)) w') :
    (Code.region 13 (Pl.find 13 ((Tryz.f63.body).getD .skip)) true).wp Tryz.prog Q A w:=by
  have hA:=Pl.At.same (v:=.int .i64 (k:Int)) (d:=12) (Pl.At.same (v:=.bool false) (d:=11) (Pl.At.same (v:=.int .i64 (i:Int)) (d:=10) (Pl.At.same (v:=.pointer (some ⟨g,0,none⟩)) (d:=3) (Pl.At.same (v:=.slice (some ⟨b2,o2,none⟩) len2 cap2) (d:=2) (Pl.At.here ab aa) s2) s3) s10) s11) s12;refine Pl.qa (S:=(fun w'=>Below w.heap.size w w')) hA (Zab w) ?_;rw [show (Pl.find 13 ((Tryz.f63.body).getD .skip)).size=14 by kernel_rfl];refine Pl.q0 0 38 (.bool false) (Pl.q1) (Pl.q2 (.tmp 11)) (Zab w) ?_;refine Pl.q0 1 39 (.bool false) (Pl.q1) (Pl.q2 (.tmp 38)) (Zab w) ?_;refine Pl.q0 2 40 (.slice (some ⟨b2,o2,none⟩) len2 cap2) (Pl.q3 1 39 false) (Pl.q2 (.tmp 2)) (Zab w) ?_;refine Pl.q0 3 41 (.int .i64 (k:Int)) (Pl.q3 1 39 false) (Pl.q2 (.tmp 12)) (Zab w) ?_;refine Pl.q0 4 42 (.pointer (some ⟨b2,o2+k,none⟩)) (Pl.q3 1 39 false) (Pl.qb 29 (.tmp 40) (.tmp 41) (ixI1 b2 o2 len2 cap2 k hk)) (Zab w) ?_;refine Pl.q0 5 43 (.int .i64 x) (Pl.q3 1 39 false) (Pl.q4 3 (.tmp 42) (fun w' hS=>ldI1 b2 (o2+k) x w' (Zag hx hS))) (Zab w) ?_;refine Pl.q0 6 44 (.pointer (some ⟨g,0,none⟩)) (Pl.q3 1 39 false) (Pl.q5 101 (.tmp 3) 0 (Zgc g)) (Zab w) ?_;refine Pl.q0 7 45 (.slice (some ⟨b,o,none⟩) len cap) (Pl.q3 1 39 false) (Pl.q4 29 (.tmp 44) (fun w' hS=>Zgk g ⟨some ⟨b,o,none⟩,len,cap⟩ v w' (hg.below hS))) (Zab w) ?_;refine Pl.q0 8 46 (.int .i64 (i:Int)) (Pl.q3 1 39 false) (Pl.q2 (.tmp 10)) (Zab w) ?_;refine Pl.q0 9 47 (.pointer (some ⟨b,o+i,none⟩)) (Pl.q3 1 39 false) (Pl.qb 29 (.tmp 45) (.tmp 46) (ixI1 b o len cap i hi)) (Zab w) ?_;refine Pl.q0 10 48 (.int .i64 y) (Pl.q3 1 39 false) (Pl.q4 3 (.tmp 47) (fun w' hS=>ldI1 b (o+i) y w' (Zag hy hS))) (Zab w) ?_;refine Pl.q0 11 49 (.bool true) (Pl.q3 1 39 false) (Pl.qc .eql 3 3 (.tmp 43) (.tmp 48) (.int .i64 x) (.int .i64 y) (eqlT x y _ _ h1)) (Zab w) ?_;refine Pl.q0 12 50 (.bool true) (Pl.q1) (Pl.ql (.tmp 39) (.const (.bool true)) (.tmp 49)) (Zab w) ?_;refine Pl.q0 13 11 (.bool true) (Pl.q1) (Pl.qe (.tmp 50)) (Zab w) ?_;refine Pl.q8 (fun A' hA'=>?_);rw [Pl.At.ext hA' ((((((((((((((hA.put 38 _).put 39 _).put 40 _).put 41 _).put 42 _).put 43 _).put 44 _).put 45 _).put 46 _).put 47 _).put 48 _).put 49 _).put 50 _).put 11 _)];exact hend hA'.fn _ (Zab w)
theorem Zph (w:World)(g b o len cap b2 o2 len2 cap2 i k:Nat)(v:Value)(x y:Int)(hi:i<len)(hk:k<len2)(hg:LfBlk w g (.slice (some ⟨b,o,none⟩) len cap) v)(hx:w.cell? ⟨b2,o2+k,none⟩=some (.int .i64 x))(hy:w.cell? ⟨b,o+i,none⟩=some (.int .i64 y))(h1:¬(x=y))
    {Q:Exit→Act→World→Prop}(ab:A.tmps.size=78)(aa:A.defers=[])(s2:A.tmps.getD 2 undef=.slice (some ⟨b2,o2,none⟩) len2 cap2)(s3:A.tmps.getD 3 undef=.pointer (some ⟨g,0,none⟩))(s10:A.tmps.getD 10 undef=.int .i64 (i:Int))(s11:A.tmps.getD 11 undef=.bool false)(s12:A.tmps.getD 12 undef=.int .i64 (k:Int))
    (hend:∀(u:Nat→Value) w',Below w.heap.size w w'→Q .normal ((Pl.pu A u [38,39,40,41,42,43,44,45,46,47,48,49,50]).put (some 11) (.bool false)) w') :
    (Code.region 13 (Pl.find 13 ((Tryz.f63.body).getD .skip)) true).wp Tryz.prog Q A w:=by
  have hA:=Pl.At.same (v:=.int .i64 (k:Int)) (d:=12) (Pl.At.same (v:=.bool false) (d:=11) (Pl.At.same (v:=.int .i64 (i:Int)) (d:=10) (Pl.At.same (v:=.pointer (some ⟨g,0,none⟩)) (d:=3) (Pl.At.same (v:=.slice (some ⟨b2,o2,none⟩) len2 cap2) (d:=2) (Pl.At.here ab aa) s2) s3) s10) s11) s12;refine Pl.qa (S:=(fun w'=>Below w.heap.size w w')) hA (Zab w) ?_;rw [show (Pl.find 13 ((Tryz.f63.body).getD .skip)).size=14 by kernel_rfl];refine Pl.q0 0 38 (.bool false) (Pl.q1) (Pl.q2 (.tmp 11)) (Zab w) ?_;refine Pl.q0 1 39 (.bool false) (Pl.q1) (Pl.q2 (.tmp 38)) (Zab w) ?_;refine Pl.q0 2 40 (.slice (some ⟨b2,o2,none⟩) len2 cap2) (Pl.q3 1 39 false) (Pl.q2 (.tmp 2)) (Zab w) ?_;refine Pl.q0 3 41 (.int .i64 (k:Int)) (Pl.q3 1 39 false) (Pl.q2 (.tmp 12)) (Zab w) ?_;refine Pl.q0 4 42 (.pointer (some ⟨b2,o2+k,none⟩)) (Pl.q3 1 39 false) (Pl.qb 29 (.tmp 40) (.tmp 41) (ixI1 b2 o2 len2 cap2 k hk)) (Zab w) ?_;refine Pl.q0 5 43 (.int .i64 x) (Pl.q3 1 39 false) (Pl.q4 3 (.tmp 42) (fun w' hS=>ldI1 b2 (o2+k) x w' (Zag hx hS))) (Zab w) ?_;refine Pl.q0 6 44 (.pointer (some ⟨g,0,none⟩)) (Pl.q3 1 39 false) (Pl.q5 101 (.tmp 3) 0 (Zgc g)) (Zab w) ?_;refine Pl.q0 7 45 (.slice (some ⟨b,o,none⟩) len cap) (Pl.q3 1 39 false) (Pl.q4 29 (.tmp 44) (fun w' hS=>Zgk g ⟨some ⟨b,o,none⟩,len,cap⟩ v w' (hg.below hS))) (Zab w) ?_;refine Pl.q0 8 46 (.int .i64 (i:Int)) (Pl.q3 1 39 false) (Pl.q2 (.tmp 10)) (Zab w) ?_;refine Pl.q0 9 47 (.pointer (some ⟨b,o+i,none⟩)) (Pl.q3 1 39 false) (Pl.qb 29 (.tmp 45) (.tmp 46) (ixI1 b o len cap i hi)) (Zab w) ?_;refine Pl.q0 10 48 (.int .i64 y) (Pl.q3 1 39 false) (Pl.q4 3 (.tmp 47) (fun w' hS=>ldI1 b (o+i) y w' (Zag hy hS))) (Zab w) ?_;refine Pl.q0 11 49 (.bool false) (Pl.q3 1 39 false) (Pl.qc .eql 3 3 (.tmp 43) (.tmp 48) (.int .i64 x) (.int .i64 y) (eqlF x y _ _ h1)) (Zab w) ?_;refine Pl.q0 12 50 (.bool false) (Pl.q1) (Pl.ql (.tmp 39) (.const (.bool true)) (.tmp 49)) (Zab w) ?_;refine Pl.q0 13 11 (.bool false) (Pl.q1) (Pl.qe (.tmp 50)) (Zab w) ?_;refine Pl.q8 (fun A' hA'=>?_);rw [Pl.At.ext hA' ((((((((((((((hA.put 38 _).put 39 _).put 40 _).put 41 _).put 42 _).put 43 _).put 44 _).put 45 _).put 46 _).put 47 _).put 48 _).put 49 _).put 50 _).put 11 _)];exact hend hA'.fn _ (Zab w)
theorem Zep (f:Int→Bool){m:Nat}(h:m<t.length):ixI f (t.drop m) m=if f (t.getD m 0)=true then (m:Int) else ixI f (t.drop (m+1)) (m+1):=by
 have e:t.drop m=t.getD m 0 :: t.drop (m+1):=by
  rw [List.drop_eq_getElem_cons h];simp [List.getD,h]
 rw [e,ixI]
theorem ZcS {k:Nat}(h:k<t.length)(y:Int):(t.take (k+1)).contains y=((t.take k).contains y || (t.getD k 0 == y)):=by
 have e:t.take (k+1)=t.take k ++ [t.getD k 0]:=by
  rw [List.take_succ_eq_append_getElem h];simp [List.getD,h]
 rw [e,Bool.eq_iff_iff];simp only [List.contains_iff_mem,List.mem_append,List.mem_singleton,Bool.or_eq_true,beq_iff_eq];exact or_congr Iff.rfl ⟨fun h=>h.symm,fun h=>h.symm⟩
theorem OwnN.off {W:World}{q b o:Nat}(h:OwnN w v t)(f:Frm (fun k=>k=q) w W)(ha:v.a=some ⟨b,o,none⟩)(aa:b≠q):OwnN W v t:=by
 refine Own.frame h (fun k hk=>f.block k (Own.lt h hk) (fun e=>?_));rw [Sl.blk,ha] at hk;have e2:some b=some k:=hk;cases e2;exact aa e
theorem Tb.join {D:Nat→Prop}{wr w2:World}{u:Sl}{l:List Sb}(t1:Tb D w wr u v l)(aa:∀W,Below w.heap.size w W→Gb (Old D w) W v l)(p:Int)(f:Nat)(hf:f<4)(hb:Below wr.heap.size wr w2){b o cc:Nat}(ho:OwnN w2 ⟨some ⟨b,o,none⟩,4,cc⟩ t)(hw:wr.heap.size≤b):∃W3 W4 W5,(Instr.storeAt 29 (.pointer (some ⟨w.heap.size,0,none⟩)) (.slice (some ⟨b,o,none⟩) 4 cc)).run Tryz.prog w2=.ok () W3∧LfBlk W3 w.heap.size (.slice (some ⟨b,o,none⟩) 4 cc) v.val∧(Instr.storeAt 3 (.pointer (some ⟨b,o+f,none⟩)) (.int .i64 p)).run Tryz.prog W3=.ok () W4∧LfBlk W4 w.heap.size (.slice (some ⟨b,o,none⟩) 4 cc) v.val∧(Instr.storeAt 101 (.pointer (some ⟨w.heap.size+1,0,none⟩)) (lfV ⟨some ⟨b,o,none⟩,4,cc⟩ v)).run Tryz.prog W4=.ok () W5∧LfBlk W5 (w.heap.size+1) (.slice (some ⟨b,o,none⟩) 4 cc) v.val∧JnIs D w l ⟨t.set f p,0⟩ (.returned (.tuple #[lfV ⟨some ⟨b,o,none⟩,4,cc⟩ v,.int .i64 0])) W5:=by
 have t2:=t1.below hb;have ae:=t1.sz;obtain⟨W3,ab,k3,f3⟩:=ZqR w2 _ _ _ t2.k1 ⟨some ⟨b,o,none⟩,4,cc⟩;have o3:=ho.off f3 rfl (by omega);have r3:=t2.k2.off f3 (by omega);have e3:Below w.heap.size w W3:=t2.e.trans (f3.below t2.e.size (fun k hk=>by rw [hk];exact Nat.le_refl _));obtain⟨W4,ac,o4,f4⟩:=ZqT W3 b o 4 cc t o3 f hf p;have k4:=k3.off f4 (by omega);have r4:=r3.off f4 (by omega);have e4:Below w.heap.size w W4:=e3.trans (f4.below e3.size (fun k hk=>by rw [hk];omega));obtain⟨W5,ad,k5,f5⟩:=Zg2 W4 _ _ _ r4 ⟨some ⟨b,o,none⟩,4,cc⟩ v;have o5:=o4.off f5 rfl (by omega);have e5:Below w.heap.size w W5:=e4.trans (f5.below e4.size (fun k hk=>by rw [hk];omega));refine⟨W3,W4,W5,ab,k3,ac,k4,ad,k5,e5,_,v,rfl,o5.gi (fun k hk=>?_) (by show 4≤_;omega),aa W5 e5⟩;have e:some b=some k:=hk;cases e;exact .inr (by omega)
theorem ZnY {D:Nat→Prop}(w:World)(u v:Sl)(t:List Int)(l:List Sb)(hi:Gi D w u t)(hg:Gb D w v l)(p:Int)(r:Sl)(live:List Int)(hr:Gi D w r live)(hu:u.len=4)(h1:1≤p)(h2:p≤2147483647)(X:Js)(bu:p∈t→X=⟨t,0⟩)(bt:¬p∈t→freeI t live<0→X=⟨t,8⟩)(bs:¬p∈t→∀f:Nat,freeI t live=(f:Int)→X=⟨t.set f p,0⟩) :
    Calls Tryz.prog 63 #[lfV u v,.int .i64 p,r.val] w fun e w'=>JnIs D w l X e w':=by
  have hT:=Tb.start u hg;have c0:=hT.k1.c0;have c1:=hT.k1.c1;(have cd:t.length=4:=by rw [hi.len];exact hu);have bv:=hr.len;have cc:=hr.big;have HI:=hide (hi.below hT.e (Nat.le_refl _));have HR:=hide (hr.below hT.e (Nat.le_refl _));have HT:=hide hT;have br:Hid (∀W,Below w.heap.size w W→Gi (Old D w) W u t):=fun W hB=>hi.old hB;have bf:Hid (∀W,Below w.heap.size w W→Gb (Old D w) W v l):=fun W hB=>hg.old hB;have bm:=hide bu;have bl:=hide bt;have bg:=hide bs;have ag:Hid (∀(w1:World) (c:Int),Tb D w w1 u v l→X=⟨t,c⟩→∃W,(Instr.storeAt 101 (.pointer (some ⟨w.heap.size+1,0,none⟩)) (lfV u v)).run Tryz.prog w1=.ok () W∧LfBlk W (w.heap.size+1) u.val v.val∧JnIs D w l X (.returned (.tuple #[lfV u v,.int .i64 c])) W):=by
   intro w1 c t1 hX;obtain⟨W,ao,k,f,hB⟩:=t1.lay v;rw [hX];exact⟨W,ao,k,hB,u,v,rfl,hi.old hB,hg.old hB⟩
  clear hi hr hg hT bu bt bs;obtain⟨a,len,cap⟩:=v;obtain⟨ua,ul,uc⟩:=u;obtain⟨ra,rl,rc⟩:=r;replace hu:ul=4:=hu;subst hu;unfold lfV Sl.val at *;simp only at *;(have i1:¬p<1:=by omega);(have i2:¬2147483647<p:=by omega);go_enter Tryz.func63,Tryz.ntmps63;go_wp2_with fail;generalize (w.alloc (.cells #[.slice ua 4 uc,.slice a len cap] 101)).alloc (.cells #[.slice none 0 0,.slice none 0 0] 101)=W at *;have H0:=hide (Below.refl W.heap.size W);obtain⟨ub,uo,bq,_⟩:=HI.out.cell 0 (by show 0<4;omega);replace bq:ua=some ⟨ub,uo,none⟩:=bq;subst bq;have au:Hid (∀i,i<4→W.cell? ⟨ub,uo+i,none⟩=some (.int .i64 (t.getD i 0))):=by
   intro i hi;obtain⟨b',o',ha,hc⟩:=HI.out.cell i hi;simp only [Option.some.injEq,Addr.mk.injEq,and_true] at ha;obtain⟨rfl,rfl⟩:=ha;exact hc
  clear c0 c1;go_loopw [8,9,10] (fun fv dv iv wr=>∃c:Nat,c≤4∧iv=.int .i64 ((c:Int)-1)∧fv=.int .i64 (ixI (fun x=>x == 0) (t.drop c) c)∧dv=.int .i64 (ixI (fun x=>!(live.contains x)) (t.drop c) c)∧Hid (Below W.heap.size W wr)∧Hid (∀j,c≤j→j<4→t.getD j 0≠p)) (fun _ _ iv _=>(intOf iv+1).toNat)
  case atStart =>
   have e:t.drop 4=[]:=List.drop_of_length_le (by omega);exact⟨4,by omega,rfl,by rw [e];rfl,by rw [e];rfl,H0,fun j h h'=>by omega⟩
  case round =>
   obtain⟨c,cb,rfl,rfl,rfl,bh,bj⟩:=hrel;have ac:=hide (HT.out.below bh.out);have c0:=ac.out.k1.c0;have c1:=ac.out.k1.c1;unfold Sl.val at c0 c1;simp only at c0 c1;cases c with
   | zero =>
    have bd:=hide (HI.out.below bh.out (Nat.le_refl _));have d2:=(ac.out.k1.below (Zaa _ (.cells #[] 3))).c0;unfold Sl.val at d2;simp only at d2;have ap:¬p∈t:=by
     intro hm;obtain⟨j,hj,e⟩:=Zq2 hm;exact bj.out j (Nat.zero_le _) (by omega) e
    have bp:=Zjm (t:=t) live;rw [List.drop_zero];have ai:freeI t live=if 0≤ixI (fun x=>x == 0) t 0 then ixI (fun x=>x == 0) t 0 else ixI (fun x=>!(live.contains x)) t 0:=rfl;obtain⟨F0,ba⟩:∃F0,F0=ixI (fun x=>x == 0) t 0:=⟨_,rfl⟩;obtain⟨D0,az⟩:∃D0,D0=ixI (fun x=>!(live.contains x)) t 0:=⟨_,rfl⟩;rw [← ba,← az] at ai ⊢;clear ba az bj;by_cases hf:F0<0
    · rw [if_neg (by omega)] at ai;by_cases hd:D0<0
      · obtain⟨W2,ao,k2,hF⟩:=ag.out _ 8 ac.out (bl.out ap (by omega));have ak:=hide ao;have HK:=hide k2;have HF:=hide hF;clear ao k2 hF ai bp ap;unfold Sl.val at HK;go_wp2_with (refine Zad _ rfl rfl 101 (.tmp 6) (.tmp 66) rfl (.pointer (some ⟨w.heap.size+1,0,none⟩)) (.agg #[.slice (some ⟨ub,uo,none⟩) 4 uc,.slice a len cap]) rfl rfl W2 ak.out ?_);refine bodyPost_ret (Zbd (u:=⟨some ⟨ub,uo,none⟩,4,uc⟩) (v:=⟨a,len,cap⟩) rfl HK.out _ rfl rfl) rfl ?_;exact HF.out
      · obtain⟨f,rfl⟩:=Int.eq_ofNat_of_zero_le (by omega:0≤D0);(have bo:f<4:=by omega);have HX:=hide (bg.out ap f ai);clear ai bp ap bm bl bg ag br HI HR HT au H0;go_wp2_with (at_builtin;refine Zb2 _ rfl (.tmp 67) (.tmp 69) rfl ⟨some ⟨ub,uo,none⟩,4,uc⟩ t rfl rfl bd.out ?_);intro u2 w2 ho ah aa bb;obtain⟨b,o,ha⟩:=ho.pos (by rw [ah];show 0<4;omega);obtain⟨sa,sn,sc⟩:=u2;replace ha:sa=some ⟨b,o,none⟩:=ha;replace ah:sn=4:=ah;subst ha;subst ah;obtain⟨W3,W4,W5,ad,k3,ae,k4,af,k5,hF⟩:=ac.out.join bf.out p f bo aa ho (bb b rfl);have g0:=k3.c0;have g1:=k4.c0;have g2:=k4.c1;have al:=hide ad;have am:=hide ae;have an:=hide af;have bk:=hide k5;have HF:Hid (JnIs D w l X (.returned (.tuple #[lfV ⟨some ⟨b,o,none⟩,4,sc⟩ ⟨a,len,cap⟩,.int .i64 0])) W5):=by
         show JnIs _ _ _ _ _ _;rw [HX.out];exact hF
        clear ho aa bb k3 k4 k5 ad ae af hF ac bf bd HX c0 c1 d2;unfold lfV Sl.val at *;simp only at *;go_wp2_with (first | refine Zad _ rfl rfl 29 (.tmp 71) (.tmp 70) rfl (.pointer (some ⟨w.heap.size,0,none⟩)) (.slice (some ⟨b,o,none⟩) 4 sc) rfl rfl W3 al.out ?_ | refine Zad _ rfl rfl 3 (.tmp 76) (.tmp 75) rfl (.pointer (some ⟨b,o+f,none⟩)) (.int .i64 p) rfl rfl W4 am.out ?_ | refine Zad _ rfl rfl 101 (.tmp 6) (.tmp 77) rfl (.pointer (some ⟨w.heap.size+1,0,none⟩)) (.agg #[.slice (some ⟨b,o,none⟩) 4 sc,.slice a len cap]) rfl rfl W5 an.out ?_);refine bodyPost_ret (Zbd (u:=⟨some ⟨b,o,none⟩,4,sc⟩) (v:=⟨a,len,cap⟩) rfl bk.out _ rfl rfl) rfl ?_;exact HF.out
    · rw [if_pos (by omega)] at ai;obtain⟨f,rfl⟩:=Int.eq_ofNat_of_zero_le (by omega:0≤F0);(have bo:f<4:=by omega);have HX:=hide (bg.out ap f ai);clear ai bp ap bm bl bg ag br HI HR HT au H0;go_wp2_with (at_builtin;refine Zb2 _ rfl (.tmp 67) (.tmp 69) rfl ⟨some ⟨ub,uo,none⟩,4,uc⟩ t rfl rfl bd.out ?_);intro u2 w2 ho ah aa bb;obtain⟨b,o,ha⟩:=ho.pos (by rw [ah];show 0<4;omega);obtain⟨sa,sn,sc⟩:=u2;replace ha:sa=some ⟨b,o,none⟩:=ha;replace ah:sn=4:=ah;subst ha;subst ah;obtain⟨W3,W4,W5,ad,k3,ae,k4,af,k5,hF⟩:=ac.out.join bf.out p f bo aa ho (bb b rfl);have g0:=k3.c0;have g1:=k4.c0;have g2:=k4.c1;have al:=hide ad;have am:=hide ae;have an:=hide af;have bk:=hide k5;have HF:Hid (JnIs D w l X (.returned (.tuple #[lfV ⟨some ⟨b,o,none⟩,4,sc⟩ ⟨a,len,cap⟩,.int .i64 0])) W5):=by
       show JnIs _ _ _ _ _ _;rw [HX.out];exact hF
      clear ho aa bb k3 k4 k5 ad ae af hF ac bf bd HX c0 c1 d2;unfold lfV Sl.val at *;simp only at *;go_wp2_with (first | refine Zad _ rfl rfl 29 (.tmp 71) (.tmp 70) rfl (.pointer (some ⟨w.heap.size,0,none⟩)) (.slice (some ⟨b,o,none⟩) 4 sc) rfl rfl W3 al.out ?_ | refine Zad _ rfl rfl 3 (.tmp 76) (.tmp 75) rfl (.pointer (some ⟨b,o+f,none⟩)) (.int .i64 p) rfl rfl W4 am.out ?_ | refine Zad _ rfl rfl 101 (.tmp 6) (.tmp 77) rfl (.pointer (some ⟨w.heap.size+1,0,none⟩)) (.agg #[.slice (some ⟨b,o,none⟩) 4 sc,.slice a len cap]) rfl rfl W5 an.out ?_);refine bodyPost_ret (Zbd (u:=⟨some ⟨b,o,none⟩,4,sc⟩) (v:=⟨a,len,cap⟩) rfl bk.out _ rfl rfl) rfl ?_;exact HF.out
   | succ m =>
    (have e:(((m+1:Nat):Int)-1)=(m:Int):=by omega);rw [e];have ci:=Zag (au.out m (by omega)) bh.out;obtain⟨y,hy⟩:∃y,y=t.getD m 0:=⟨_,rfl⟩;rw [← hy] at ci;by_cases bx:y=p
    · have hX:X=⟨t,0⟩:=bm.out (by rw [← bx,hy];exact Zdj (by omega));obtain⟨W2,ao,k2,hF⟩:=ag.out _ 0 ac.out hX;have ak:=hide ao;have HK:=hide k2;have HF:=hide hF;clear hX ao k2 hF hy;unfold Sl.val at HK;go_wp2_with (refine Zad _ rfl rfl 101 (.tmp 6) (.tmp 31) rfl (.pointer (some ⟨w.heap.size+1,0,none⟩)) (.agg #[.slice (some ⟨ub,uo,none⟩) 4 uc,.slice a len cap]) rfl rfl W2 ak.out ?_);refine bodyPost_ret (Zbd (u:=⟨some ⟨ub,uo,none⟩,4,uc⟩) (v:=⟨a,len,cap⟩) rfl HK.out _ rfl rfl) rfl ?_;exact HF.out
    · have HY:=hide hy;clear hy;go_wp2_with fail;go_loopw [11,12] (fun lv kv wz=>∃k:Nat,k≤rl∧kv=.int .i64 (k:Int)∧lv=.bool ((live.take k).contains y)∧Hid (Below W.heap.size W wz)) (fun _ kv _=>rl-(intOf kv).toNat)
      case atStart=>exact ⟨0,Nat.zero_le _,rfl,rfl,bh⟩
      case round =>
       rename World=>wo;obtain⟨k,hk,rfl,rfl,ab⟩:=hrel;rcases Nat.lt_or_ge k rl with bi | bz
       · (have i3:(k:Int)<(rl:Int):=by omega);obtain⟨rb,ro,ha,hx⟩:=HR.out.cell k bi;replace ha:ra=some ⟨rb,ro,none⟩:=ha;subst ha;have ax:=hide (HT.out.k1.below ab.out);have av:=hide (Zag hx ab.out);(have aw:Hid (wo.cell? ⟨ub,uo+m,none⟩=some (.int .i64 y)):=by rw [HY.out];exact Zag (au.out m (by omega)) ab.out);have hq:=ZcS (t:=live) (k:=k) (by rw [bv];exact bi) y;clear hx c0 c1 ci ac;obtain⟨q,bc⟩:∃q,q=(live.take k).contains y:=⟨_,rfl⟩;rw [← bc] at hq ⊢;clear bc;cases q with
         | true =>
          (have HQ:Hid ((live.take (k+1)).contains y=true):=by show _=_;rw [hq];rfl);clear hq;go_wp2_with fail;refine Pl.q9 (ops:=Pl.find 13 ((Tryz.f63.body).getD .skip)) ?_;refine Zpf _ w.heap.size rb ro rl rc m k (by rfl) rfl (by rfl) (by rfl) (by rfl) (by rfl) (by rfl) ?_;intro u1 w2 aa;simp only [Pl.pu,List.foldl,Act.put,List.setIfInBounds_toArray,List.set_cons_zero,List.set_cons_succ];have ar:=hide (Zac ab.out aa);clear aa ax av aw;go_wp2_with fail;go_roundw
          case rel=>exact ⟨k+1,by omega,by go_num,by rw [HQ.out],ar⟩
          case measure=>simp only [intOf];omega
         | false =>
          by_cases aq:live.getD k 0=y
          · have HQ:Hid ((live.take (k+1)).contains y=true):=by
             show _=_;rw [hq,aq];simp
            have bn:=hide aq;clear hq aq;go_wp2_with fail;refine Pl.q9 (ops:=Pl.find 13 ((Tryz.f63.body).getD .skip)) ?_;refine Zpg _ w.heap.size ub uo 4 uc rb ro rl rc m k _ (live.getD k 0) y (by omega) bi ax.out av.out aw.out bn.out (by rfl) rfl (by rfl) (by rfl) (by rfl) (by rfl) (by rfl) ?_;intro u1 w2 aa;simp only [Pl.pu,List.foldl,Act.put,List.setIfInBounds_toArray,List.set_cons_zero,List.set_cons_succ];have ar:=hide (Zac ab.out aa);clear aa ax av aw;go_wp2_with fail;go_roundw
            case rel=>exact ⟨k+1,by omega,by go_num,by rw [HQ.out],ar⟩
            case measure=>simp only [intOf];omega
          · have HQ:Hid ((live.take (k+1)).contains y=false):=by
             show _=_;rw [hq];simpa using aq
            have bn:=hide aq;clear hq aq;go_wp2_with fail;refine Pl.q9 (ops:=Pl.find 13 ((Tryz.f63.body).getD .skip)) ?_;refine Zph _ w.heap.size ub uo 4 uc rb ro rl rc m k _ (live.getD k 0) y (by omega) bi ax.out av.out aw.out bn.out (by rfl) rfl (by rfl) (by rfl) (by rfl) (by rfl) (by rfl) ?_;intro u1 w2 aa;simp only [Pl.pu,List.foldl,Act.put,List.setIfInBounds_toArray,List.set_cons_zero,List.set_cons_succ];have ar:=hide (Zac ab.out aa);clear aa ax av aw;go_wp2_with fail;go_roundw
            case rel=>exact ⟨k+1,by omega,by go_num,by rw [HQ.out],ar⟩
            case measure=>simp only [intOf];omega
       · (have i3:¬(k:Int)<(rl:Int):=by omega);have be:Hid (∀j,m≤j→j<4→t.getD j 0≠p):=by
          intro j hj ca;by_cases e:j=m
          · rw [e,← HY.out];exact bx
          · exact bj.out j (by omega) ca
         have z0:=(HT.out.k1.below ab.out).c0;have zy:=Zag (au.out m (by omega)) ab.out;rw [← HY.out] at zy;unfold Sl.val at z0;simp only at z0;have s1:=Zep (fun x=>x == 0) (t:=t) (m:=m) (by omega);have s2:=Zep (fun x=>!(live.contains x)) (t:=t) (m:=m) (by omega);rw [← HY.out] at s1 s2;rw [List.take_of_length_le (by rw [bv];exact bz)];obtain⟨F0,ba⟩:∃F0,F0=ixI (fun x=>x == 0) (t.drop (m+1)) (m+1):=⟨_,rfl⟩;obtain⟨D0,az⟩:∃D0,D0=ixI (fun x=>!(live.contains x)) (t.drop (m+1)) (m+1):=⟨_,rfl⟩;rw [← ba] at s1 ⊢;rw [← az] at s2 ⊢;obtain⟨q,bc⟩:∃q,q=live.contains y:=⟨_,rfl⟩;rw [← bc] at s2 ⊢;clear ba az bc c0 c1 ci ac bj;by_cases bw:y=0
         · (have ay:Hid (ixI (fun x=>x == 0) (t.drop m) m=(m:Int)):=by show _=_;rw [s1,if_pos (by simp [bw])]);clear s1;cases q with
           | true =>
            (have aj:Hid (ixI (fun x=>!(live.contains x)) (t.drop m) m=D0):=by show _=_;rw [s2];rfl);clear s2;go_wp2_with fail;go_roundw
            case rel=>exact ⟨m,by omega,by go_num,by rw [ay.out],by rw [aj.out],ab,be⟩
            case measure=>simp only [intOf];omega
           | false =>
            (have aj:Hid (ixI (fun x=>!(live.contains x)) (t.drop m) m=(m:Int)):=by show _=_;rw [s2];rfl);clear s2;go_wp2_with fail;go_roundw
            case rel=>exact ⟨m,by omega,by go_num,by rw [ay.out],by rw [aj.out],ab,be⟩
            case measure=>simp only [intOf];omega
         · (have ay:Hid (ixI (fun x=>x == 0) (t.drop m) m=F0):=by show _=_;rw [s1,if_neg (by simp [bw])]);clear s1;cases q with
           | true =>
            (have aj:Hid (ixI (fun x=>!(live.contains x)) (t.drop m) m=D0):=by show _=_;rw [s2];rfl);clear s2;go_wp2_with fail;go_roundw
            case rel=>exact ⟨m,by omega,by go_num,by rw [ay.out],by rw [aj.out],ab,be⟩
            case measure=>simp only [intOf];omega
           | false =>
            (have aj:Hid (ixI (fun x=>!(live.contains x)) (t.drop m) m=(m:Int)):=by show _=_;rw [s2];rfl);clear s2;go_wp2_with fail;go_roundw
            case rel=>exact ⟨m,by omega,by go_num,by rw [ay.out],by rw [aj.out],ab,be⟩
            case measure=>simp only [intOf];omega
theorem Zh1 {D:Nat→Prop}(w:World)(u v:Sl)(t:List Int)(l:List Sb)(hi:Gi D w u t)(hg:Gb D w v l)(p:Int)(r:Sl)(live:List Int)(hr:Gi D w r live)(hu:u.len=4) :
    Calls Tryz.prog 63 #[lfV u v,.int .i64 p,r.val] w fun e w'=>JnIs D w l (joinI t p live) e w':=by
  by_cases hp:p<1∨2147483647<p
  · have e:joinI t p live=⟨t,1⟩:=if_pos hp;rw [e];exact Zmy w u v t l hi hg p r hp
  · refine ZnY w u v t l hi hg p r live hr hu (by omega) (by omega) _ (fun hm=>?_) (fun hm hf=>?_) (fun hm f hf=>?_)
    · unfold joinI;rw [if_neg hp,if_pos (by simpa using hm)]
    · unfold joinI;rw [if_neg hp,if_neg (by simpa using hm),if_pos hf]
    · unfold joinI;rw [if_neg hp,if_neg (by simpa using hm),if_neg (by omega),hf];rfl
theorem Zpc {f:Int→Bool}(h:i<t.length)(hf:f (t.getD i 0)=true):ixI f (t.drop i) i=(i:Int):=by rw [Zep f h,if_pos hf]
theorem ZnF {f:Int→Bool}(h:i<t.length)(hf:f (t.getD i 0)=false):ixI f (t.drop i) i=ixI f (t.drop (i+1)) (i+1):=by rw [Zep f h,if_neg (by rw [hf];decide)]
theorem Zpb {f:Int→Bool}(h:t.length≤i):ixI f (t.drop i) i = -1:=by rw [List.drop_eq_nil_of_le h];rfl
theorem ZoY {D:Nat→Prop}(w:World)(v:Sl)(t:List Int)(h:Gi D w v t)(y:Int) :
    Calls Tryz.prog 144 #[v.val,.int .i64 y] w fun e w'=>e=.returned (.int .i64 (ixI (fun x=>y == x) t 0))∧w'=w:=by
  obtain⟨a,len,cap⟩:=v;have HG:=hide h;have hl:t.length=len:=h.len;have HL:=hide hl;have ae:len≤1000000:=h.big;have HI:Hid (ixI (fun x=>y == x) t 0=ixI (fun x=>y == x) (t.drop 0) 0):=rfl;clear h hl;unfold Sl.val;simp only;go_enter Tryz.func144,Tryz.ntmps144;go_wp2_with fail;go_loopw [8] (fun iv wr=>wr=w∧∃i:Nat,i≤len∧iv=.int .i64 (i:Nat)∧Hid (ixI (fun x=>y == x) t 0=ixI (fun x=>y == x) (t.drop i) i)) (fun iv _=>len-(intOf iv).toNat)
  case atStart=>exact ⟨rfl,0,Nat.zero_le _,rfl,HI⟩
  case round =>
   obtain⟨rfl,i,hi,rfl,aa⟩:=hrel;rcases Nat.lt_or_ge i len with ab | af
   · (have i1:(i:Int)<(len:Int):=by omega);obtain⟨bb,oo,ha,c0⟩:=HG.out.cell i ab;replace ha:a=some ⟨bb,oo,none⟩:=ha;subst ha;obtain⟨x,hx⟩:∃x,x=t.getD i 0:=⟨_,rfl⟩;rw [← hx] at c0;have HX:=hide hx;clear hx;by_cases ad:y=x
     · subst ad;have HE:Hid (ixI (fun x=>y == x) t 0=(i:Int)):=aa.out.trans (Zpc (by rw [HL.out];exact ab) (by rw [← HX.out];simp));clear aa HX;go_wp2_with fail;go_ret;exact⟨by rw [HE.out];rfl,rfl⟩
     · (have ac:(y == x)=false:=by simp [ad]);have HE:Hid (ixI (fun x=>y == x) t 0=ixI (fun x=>y == x) (t.drop (i+1)) (i+1)):=aa.out.trans (ZnF (by rw [HL.out];exact ab) (by rw [← HX.out];exact ac));clear aa HX;go_wp2_with fail;go_roundw
       case rel=>exact ⟨trivial,i+1,by omega,by go_num,HE⟩
       case measure=>simp only [intOf];omega
   · have HE:Hid (ixI (fun x=>y == x) t 0 = -1):=aa.out.trans (Zpb (by rw [HL.out];exact af));(have i1:¬(i:Int)<(len:Int):=by omega);clear aa;go_wp2_with fail;go_ret;exact⟨by rw [HE.out];rfl,rfl⟩
theorem Zhd (t:List Int)(y:Int):decide (0≤ixI (fun x=>y == x) t 0)=t.contains y:=by
 rcases ZbB (fun x=>y == x) t 0 with ⟨h1,h2⟩ | ⟨i,hi,h1,h2,_⟩
 · rw [h1];(have:¬y∈t:=fun h=>by have:=h2 y h;simp at this);simp [this]
 · rw [h1];have:t.getD i 0∈t:=Zdj hi;(have e:y=t.getD i 0:=by simpa using h2);rw [← e] at this;simp [this]
theorem ZgJ {D:Nat→Prop}(w:World)(v:Sl)(t:List Int)(h:Gi D w v t)(y:Int) :
    Calls Tryz.prog 111 #[v.val,.int .i64 y] w fun e w'=>e=.returned (.bool (t.contains y))∧w'=w:=by
  have HC:=hide (ZoY w v t h y);have hE:=Zhd t y;obtain⟨z,hz⟩:∃z,z=ixI (fun x=>y == x) t 0:=⟨_,rfl⟩;rw [← hz] at HC hE;rw [← hE];clear hz hE h;obtain⟨a,len,cap⟩:=v;unfold Sl.val at *;simp only at *;go_enter Tryz.func111,Tryz.ntmps111;go_wp2_with fail;refine HC.out.mono ?_;rintro e w1 ⟨rfl,hw⟩;obtain rfl:=hw.symm;go_wp2_with fail;go_ret;exact⟨rfl,rfl⟩
theorem Gi.take {D:Nat→Prop}(h:Gi D w v t){n:Nat}(hn:n≤v.len):Gi D w ⟨v.a,n,v.cap⟩ (t.take n):=by
 have hl:=h.len;have hc:=h.le;have hb:=h.big;refine⟨?_,h.nil,by show n≤v.cap;omega,by show n≤1000000;omega,fun ad ha h0=>h.home ad ha ?_,fun i hi=>?_⟩
 · show _=n;rw [List.length_take];omega
 · have:0<n:=h0;omega
 · replace hi:i<n:=hi;obtain⟨b,off,ha,aa⟩:=h.cell i (by omega);refine⟨b,off,ha,?_⟩;rw [aa];simp [List.getD,hi]
def Zle (t:List Int) (e:Ending):Prop:=∃r:Bool,e=.returned (.bool r)∧(r=true↔ItlOk t)
theorem ZjC (h:¬ItlOk t):Zle t (.returned (.bool false)):=⟨false,rfl,by simp [h]⟩
theorem ZpJ (h:ItlOk t):Zle t (.returned (.bool true)):=⟨true,rfl,by simp [h]⟩
theorem Zhp {D:Nat→Prop}(w:World)(v:Sl)(t:List Int)(h:Gi D w v t) :
    Calls Tryz.prog 165 #[v.val] w fun e w'=>Zle t e∧w'=w:=by
  obtain⟨a,len,cap⟩:=v;have HG:=hide h;have hl:t.length=len:=h.len;have HL:=hide hl;have ae:len≤1000000:=h.big;have af:len≤cap:=h.le;clear h hl;unfold Sl.val;simp only;by_cases h4:len=4
  · subst h4;(have ag:¬cap=0:=by omega);(have ah:¬(0=cap):=by omega);obtain⟨b,o,ha,_⟩:=HG.out.cell 0 (by show 0<4;omega);replace ha:a=some ⟨b,o,none⟩:=ha;subst ha;go_enter Tryz.func165,Tryz.ntmps165;go_wp2_with fail;go_loopw [10] (fun iv wr=>wr=w∧∃i:Nat,i≤4∧iv=.int .i64 (i:Nat)∧Hid (∀j,j<i→0≤t.getD j 0∧t.getD j 0≤2147483647)∧Hid (∀j,j<i→∀k,k<j→t.getD k 0≠0→t.getD k 0≠t.getD j 0)) (fun iv _=>4-(intOf iv).toNat)
    case atStart=>exact ⟨rfl,0,by omega,rfl,fun _ h=>absurd h (Nat.not_lt_zero _),fun _ h=>absurd h (Nat.not_lt_zero _)⟩
    case round =>
     obtain⟨rfl,i,hi,rfl,ab,aa⟩:=hrel;rcases Nat.lt_or_ge i 4 with ad | ai
     · (have i1:(i:Int)<4:=by omega);obtain⟨b',o',ha,c0⟩:=HG.out.cell i ad;simp only [Option.some.injEq,Addr.mk.injEq,and_true] at ha;obtain⟨rfl,rfl⟩:=ha;obtain⟨x,hx⟩:∃x,x=t.getD i 0:=⟨_,rfl⟩;rw [← hx] at c0;have HX:=hide hx;have ac:=hide (ZgJ wr ⟨some ⟨b,o,none⟩,i,cap⟩ (t.take i) (HG.out.take (n:=i) hi) x);unfold Sl.val at ac;clear hx;by_cases aj:x<0
       · (have HN:Hid (¬ItlOk t):=fun k=>by have:=(k.2.1 i ad).1;rw [← HX.out] at this;omega);go_wp2_with fail;go_ret;exact⟨ZjC HN.out,rfl⟩
       · by_cases ak:2147483647<x
         · (have HN:Hid (¬ItlOk t):=fun k=>by have:=(k.2.1 i ad).2;rw [← HX.out] at this;omega);go_wp2_with fail;go_ret;exact⟨ZjC HN.out,rfl⟩
         · by_cases hz:x=0
           · subst hz;have HR:Hid (∀j,j<i+1→0≤t.getD j 0∧t.getD j 0≤2147483647):=by
              intro j hj;by_cases e:j=i
              · rw [e,← HX.out];decide
              · exact ab.out j (by omega)
             have HD:Hid (∀j,j<i+1→∀k,k<j→t.getD k 0≠0→t.getD k 0≠t.getD j 0):=by
              intro j hj k hk h1;by_cases e:j=i
              · rw [e,← HX.out];exact h1
              · exact aa.out j (by omega) k hk h1
             clear ab aa HX;go_wp2_with fail;go_roundw
             case rel=>exact ⟨trivial,i+1,by omega,by go_num,HR,HD⟩
             case measure=>simp only [intOf];omega
           · (have al:(x != 0)=true:=by simp [hz]);cases hct:(t.take i).contains x with
             | true =>
              rw [hct] at ac;have HN:Hid (¬ItlOk t):=fun k=>by
               (have hm:x∈t.take i:=by simpa using hct);obtain⟨j,hj,e⟩:=List.mem_iff_getElem.1 hm;rw [List.length_take,HL.out] at hj;have e2:t.getD j 0=x:=by
                rw [← e];(have:j<t.length:=by rw [HL.out];omega);simp [List.getD,this]
               have:=k.2.2 i ad j (by omega) (by rw [e2];exact hz);rw [e2,← HX.out] at this;exact this rfl
              clear hct HX ab aa;go_wp2_with fail;refine ac.out.mono ?_;rintro e w1 ⟨rfl,hw⟩;obtain rfl:=hw.symm;go_wp2_with fail;go_ret;exact⟨ZjC HN.out,rfl⟩
             | false =>
              rw [hct] at ac;have HR:Hid (∀j,j<i+1→0≤t.getD j 0∧t.getD j 0≤2147483647):=by
               intro j hj;by_cases e:j=i
               · rw [e,← HX.out];omega
               · exact ab.out j (by omega)
              have HD:Hid (∀j,j<i+1→∀k,k<j→t.getD k 0≠0→t.getD k 0≠t.getD j 0):=by
               intro j hj k hk h1;by_cases e:j=i
               · rw [e,← HX.out];intro e2;have hm:x∈t.take i:=by
                  rw [List.mem_take_iff_getElem];refine⟨k,by rw [HL.out];omega,?_⟩;rw [← e2];(have:k<t.length:=by rw [HL.out];omega);simp [List.getD,this]
                 (have:(t.take i).contains x=true:=by simpa using hm);rw [hct] at this;cases this
               · exact aa.out j (by omega) k hk h1
              clear hct HX ab aa;go_wp2_with fail;refine ac.out.mono ?_;rintro e w1 ⟨rfl,hw⟩;obtain rfl:=hw.symm;go_wp2_with fail;go_roundw
              case rel=>exact ⟨trivial,i+1,by omega,by go_num,HR,HD⟩
              case measure=>simp only [intOf];omega
     · (have i1:¬(i:Int)<4:=by omega);have HY:Hid (ItlOk t):=⟨HL.out,fun j hj=>ab.out j (by omega),fun j hj=>aa.out j (by omega)⟩;clear ab aa;go_wp2_with fail;go_ret;exact⟨ZpJ HY.out,rfl⟩
  · have HN:Hid (¬ItlOk t):=fun k=>h4 (by rw [← HL.out];exact k.1);(have i4:((len:Int) != 4)=true:=by simp;omega);(have i5:¬(len:Int)=4:=by omega);go_enter Tryz.func165,Tryz.ntmps165;go_wp2_with fail;go_ret;exact⟨ZjC HN.out,rfl⟩
def Zlb (s:List (List Nat)) (e:Ending):Prop:=∃r:Bool,e=.returned (.bool r)∧(r=true↔Za3 s)
theorem ZmM (h:¬Za3 s):Zlb s (.returned (.bool false)):=⟨false,rfl,by simp [h]⟩
theorem ZmN (h:Za3 s):Zlb s (.returned (.bool true)):=⟨true,rfl,by simp [h]⟩
theorem Zho {D:Nat→Prop}(w:World)(v:Sl)(l:List Sb)(h:Gb D w v l) :
    Calls Tryz.prog 166 #[v.val] w fun e w'=>Zlb (bss l) e∧w'=w:=by
  obtain⟨a,len,cap⟩:=v;have HG:=hide h;(have HL:Hid ((bss l).length=len):=by show _=_;rw [Zaj];exact h.len);have af:len≤1000:=h.big;clear h;unfold Sl.val;simp only;by_cases ai:64<len
  · (have i4:(64:Int)<(len:Int):=by omega);(have HN:Hid (¬Za3 (bss l)):=fun k=>by have:=k.1;rw [HL.out] at this;omega);go_enter Tryz.func166,Tryz.ntmps166;go_wp2_with fail;go_ret;exact⟨ZmM HN.out,rfl⟩
  · (have i4:¬(64:Int)<(len:Int):=by omega);go_enter Tryz.func166,Tryz.ntmps166;go_wp2_with fail;go_loopw [10] (fun iv wr=>wr=w∧∃i:Nat,i≤len∧iv=.int .i64 (i:Nat)∧Hid (∀j,j<i→(sl (bss l) j).length≤255)) (fun iv _=>len-(intOf iv).toNat)
    case atStart=>exact ⟨rfl,0,Nat.zero_le _,rfl,fun _ h=>absurd h (Nat.not_lt_zero _)⟩
    case round =>
     obtain⟨rfl,i,hi,rfl,ac⟩:=hrel;rcases Nat.lt_or_ge i len with ae | aj
     · (have i1:(i:Int)<(len:Int):=by omega);obtain⟨bb,oo,ha,c0⟩:=HG.out.cell i ae;replace ha:a=some ⟨bb,oo,none⟩:=ha;subst ha;obtain⟨_,ab,aa⟩:=HG.out.at ae;obtain⟨⟨sa,sn,sc⟩,ad⟩:∃s,s=(l.getD i Sb.zero).s:=⟨_,rfl⟩;rw [← ad] at c0 ab;unfold Sl.val at c0;simp only at c0 ab;have HS:=hide ab;(have ah:sn≤1000:=by omega);clear ad ab aa;by_cases h5:255<sn
       · (have i5:(255:Int)<(sn:Int):=by omega);(have HN:Hid (¬Za3 (bss l)):=fun k=>by have:=k.2.1 i (by rw [HL.out];exact ae);rw [← HS.out] at this;omega);clear HS ac;go_wp2_with fail;go_ret;exact⟨ZmM HN.out,rfl⟩
       · (have i5:¬(255:Int)<(sn:Int):=by omega);have HR:Hid (∀j,j<i+1→(sl (bss l) j).length≤255):=by
          intro j hj;by_cases e:j=i
          · rw [e,← HS.out];omega
          · exact ac.out j (by omega)
         clear HS ac;go_wp2_with fail;go_roundw
         case rel=>exact ⟨trivial,i+1,by omega,by go_num,HR⟩
         case measure=>simp only [intOf];omega
     · (have i1:¬(i:Int)<(len:Int):=by omega);(have e0:i=len:=by omega);subst e0;rcases Nat.eq_zero_or_pos i with h0 | h0
       · subst h0;have HY:Hid (Za3 (bss l)):=⟨by rw [HL.out];omega,fun j hj=>by rw [HL.out] at hj;omega,fun ag=>absurd (List.eq_nil_of_length_eq_zero HL.out) ag⟩;clear ac;go_wp2_with fail;go_ret;exact⟨ZmN HY.out,rfl⟩
       · obtain⟨k,rfl⟩:∃k,i=k+1:=⟨i-1,by omega⟩;(have i2:¬(((k+1:Nat):Int)=0):=by omega);(have i3:(((k+1:Nat):Int) == 0)=false:=by simp;omega);obtain⟨bb,oo,ha,c0⟩:=HG.out.cell k (Nat.lt_succ_self k);replace ha:a=some ⟨bb,oo,none⟩:=ha;subst ha;obtain⟨_,ab,aa⟩:=HG.out.at (Nat.lt_succ_self k);obtain⟨⟨sa,sn,sc⟩,ad⟩:∃s,s=(l.getD k Sb.zero).s:=⟨_,rfl⟩;rw [← ad] at c0 ab;unfold Sl.val at c0;simp only at c0 ab;have HS:=hide ab;(have ah:sn≤1000:=by omega);clear ad ab aa;(have e1:((k+1:Nat):Int)-1=(k:Int):=by omega);by_cases h5:0<sn
         · (have i5:(0:Int)<(sn:Int):=by omega);have HY:Hid (Za3 (bss l)):=⟨by rw [HL.out];omega,fun j hj=>ac.out j (by rw [HL.out] at hj;exact hj),fun _=>by
            rw [HL.out,Nat.add_sub_cancel];intro e;have:=HS.out;rw [e] at this;simp at this;omega⟩
           clear ac HS;go_wp2_with fail;go_ret;exact⟨ZmN HY.out,rfl⟩
         · (have i5:¬(0:Int)<(sn:Int):=by omega);have HN:Hid (¬Za3 (bss l)):=fun q=>by
            have:=q.2.2 (fun e=>by have:=HL.out;rw [e] at this;simp at this);rw [HL.out,Nat.add_sub_cancel] at this;exact this (List.eq_nil_of_length_eq_zero (by rw [← HS.out];omega))
           clear ac HS;go_wp2_with fail;go_ret;exact⟨ZmM HN.out,rfl⟩
theorem ZnM {D:Nat→Prop}(w:World)(v:Sl)(l:List Sb)(hg:Gb D w v l) :
    Calls Tryz.prog 167 #[v.val] w fun e w'=>e=.returned (.int .i64 ((need (bss l):Nat):Int))∧w'=w:=by
  obtain⟨a,len,cap⟩:=v;have hl:l.length=len:=hg.len;have ah:len≤1000:=hg.big;have HG:=hide hg;(have HL:Hid ((bss l).length=len):=by show _=_;rw [Zaj];exact hl);have HN:Hid (∀n,n≤len→needS ((bss l).take n)≤n*1001):=by
   intro n hn;refine Zgr (bss l) (fun i hi=>?_) n (by rw [Zaj,hl];exact hn);exact(hg.at (by rw [Zaj] at hi;show i<len;omega)).2.2
  clear hg hl;unfold Sl.val;simp only;go_enter Tryz.func167,Tryz.ntmps167;go_wp2_with fail;go_loopw [8,3] (fun iv nv wr=>wr=w∧∃i:Nat,i≤len∧iv=.int .i64 (i:Nat)∧nv=.int .i64 ((18+needS ((bss l).take i):Nat):Int)) (fun iv _ _=>len-(intOf iv).toNat)
  case atStart=>exact ⟨rfl,0,Nat.zero_le _,rfl,rfl⟩
  case round =>
   obtain⟨rfl,i,hi,rfl,rfl⟩:=hrel;rcases Nat.lt_or_ge i len with ad | ai
   · (have i1:(i:Int)<(len:Int):=by omega);obtain⟨bb,oo,ha,c0⟩:=HG.out.cell i ad;replace ha:a=some ⟨bb,oo,none⟩:=ha;subst ha;obtain⟨_,ac,ab⟩:=HG.out.at ad;have aa:=Zbt (s:=bss l) (k:=i) (by rw [HL.out];exact ad);have ae:=HN.out i hi;obtain⟨⟨sa,sn,sc⟩,af⟩:∃s,s=(l.getD i Sb.zero).s:=⟨_,rfl⟩;rw [← af] at c0 ac;unfold Sl.val at c0;simp only at c0 ac;obtain⟨q,hq⟩:∃q,q=needS ((bss l).take i):=⟨_,rfl⟩;(have ag:Hid (needS ((bss l).take (i+1))=q+1+sn):=by show _=_;rw [aa,hq,ac]);rw [← hq] at ae ⊢;(have aj:q≤1001000:=by omega);(have ak:sn≤1000:=by omega);clear aa af hq ac ab ae;go_wp2_with fail;go_roundw
     case rel=>exact ⟨trivial,i+1,by omega,by go_num,by rw [ag.out];go_num⟩
     case measure=>simp only [intOf];omega
   · (have i1:¬(i:Int)<(len:Int):=by omega);have HE:Hid (need (bss l)=18+needS ((bss l).take i)):=by
      show _=_;rw [List.take_of_length_le (by rw [HL.out];exact ai)];rfl
     go_wp2_with fail;go_ret;exact⟨by rw [HE.out];rfl,rfl⟩
theorem ZnK :MayL ⟨t,s⟩↔ItlOk t∧Za3 s∧need s≤508:=⟨fun h=>⟨h.itl,h.slots,h.need⟩,fun h=>⟨h.1,h.2.1,h.2.2⟩⟩
def ZpL (t:List Int) (s:List (List Nat)) (e:Ending):Prop:=(MayL ⟨t,s⟩∧e=.returned (.int .i64 0))∨(¬MayL ⟨t,s⟩∧e=.returned (.int .i64 1))
theorem ZjN {D:Nat→Prop}(w:World)(u v:Sl)(t:List Int)(l:List Sb)(hi:Gi D w u t)(hg:Gb D w v l) :
    Calls Tryz.prog 138 #[lfV u v] w fun e w'=>ZpL t (bss l) e∧Below w.heap.size w w':=by
  have hA:=Zaa w (.cells #[u.val,v.val] 101);have HW:=hide (Zhp _ u t (hi.below hA (Nat.le_refl _)));have HS:=hide (Zho _ v l (hg.below hA (Nat.le_refl _)));have HN:=hide (ZnM _ v l (hg.below hA (Nat.le_refl _)));have HA:=hide hA;have HM:=hide (ZnK (t:=t) (s:=bss l));obtain⟨n,hn⟩:∃n,n=need (bss l):=⟨_,rfl⟩;rw [← hn] at HN HM;clear hn hi hg hA;obtain⟨a,len,cap⟩:=v;obtain⟨ua,ul,uc⟩:=u;unfold lfV Sl.val at *;simp only at *;go_enter Tryz.func138,Tryz.ntmps138;go_wp2_with fail;refine HW.out.mono ?_;rintro e w1 ⟨⟨r1,rfl,aa⟩,hw⟩;obtain rfl:=hw;cases r1 with
  | false =>
   have HX:Hid (¬MayL ⟨t,bss l⟩):=fun h=>absurd (aa.2 (HM.out.1 h).1) Bool.false_ne_true;clear aa;go_wp2_with fail;go_ret;exact⟨.inr ⟨HX.out,rfl⟩,HA.out⟩
  | true =>
   have ac:=hide (aa.1 rfl);clear aa;go_wp2_with fail;refine HS.out.mono ?_;rintro e w1 ⟨⟨r2,rfl,ab⟩,hw⟩;obtain rfl:=hw;cases r2 with
   | false =>
    have HX:Hid (¬MayL ⟨t,bss l⟩):=fun h=>absurd (ab.2 (HM.out.1 h).2.1) Bool.false_ne_true;clear ab;go_wp2_with fail;go_ret;exact⟨.inr ⟨HX.out,rfl⟩,HA.out⟩
   | true =>
    have ad:=hide (ab.1 rfl);clear ab;go_wp2_with fail;refine HN.out.mono ?_;rintro e w1 ⟨rfl,hw⟩;obtain rfl:=hw;by_cases h5:508<n
    · (have i5:(508:Int)<(n:Int):=by omega);go_wp2_with fail;go_ret;exact⟨.inr ⟨fun h=>by have:=(HM.out.1 h).2.2;omega,rfl⟩,HA.out⟩
    · (have i5:¬(508:Int)<(n:Int):=by omega);go_wp2_with fail;go_ret;exact⟨.inl ⟨HM.out.2 ⟨ac.out,ad.out,by omega⟩,rfl⟩,HA.out⟩
section
variable {ops : Array Oper} {rest : List Oper} {o : Oper} {a : Act} {Q : Exit → Act → World → Prop}
end
theorem ZcQ (w:World):(Instr.alloc 101 true (.tuple #[])).run Tryz.prog w=.ok (.pointer (some ⟨w.heap.size,0,none⟩)) (w.alloc (.cells #[.slice none 0 0,.slice none 0 0] 101)):=by
 simp [go_sem,Instr.alloc]
theorem Own.apart {e e2:TypeId}{z z2:Nat}{s s2:Sl}{vs vs2:List Value}(h:Own e z w s vs)(h2:Own e2 z2 w s2 vs2)(he:e≠e2):∀k,s.blk=some k→s2.blk≠some k:=by
 intro k hk ab;obtain⟨c,hc⟩:=h.kind hk;obtain⟨c2,aa⟩:=h2.kind ab;rw [hc] at aa;simp only [Option.some.injEq,Obj.cells.injEq] at aa;exact he aa.2.1
end Go.Proofs.YtiecfcjlhldhdaaGreat
