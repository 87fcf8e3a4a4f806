/-
  Lemmas.
-/
import Derived.Test.YtiecfcjlhldhdaaGreatKebe
import Derived.Test.YtiecfcjlhldhdaaGreatKeab
import Derived.Test.YtiecfcjlhldhdaaGreatKean
import Derived.Test.YtiecfcjlhldhdaaGreatKebd
import Derived.Test.YtiecfcjlhldhdaaGreatKeaw
namespace Go.Proofs.YtiecfcjlhldhdaaGreat
open Go.RowKit
set_option linter.unusedVariables false
set_option linter.unusedSimpArgs false
set_option maxRecDepth 100000
set_option maxHeartbeats 4000000
variable {w w':World}{p o:Nat}
theorem Zn1 (a:Option Addr)(n cap:Nat)(l:List Ux)(w:World)(h:Us w a n l)(au:n≤1000000)(c m:Int) :
    Calls Tryz.prog 70 #[.slice a n cap,.agg #[.int .i64 c,.int .i64 m]] w fun e w'=>∃x:Ux,e=.returned (.tuple #[x.val,.bool (if MayU (uns l)=true then getU (uns l) c m else (zeroU,false)).2])∧x.u=(if MayU (uns l)=true then getU (uns l) c m else (zeroU,false)).1∧(∀w0,Col w0 w' x)∧Below w.heap.size w w':=by
  have HA:=hide (ZaE w (.cells #[.int .i64 c,.int .i64 m] 37) (.cells #[.int .i64 0,.int .i64 0,.int .i64 0,.int .i64 0,.int .i64 0,.int .i64 0,.float .f64 0,.bool false,.slice none 0 0,.int .i64 0,.int .i64 0,.int .i64 0] 65));have bj:=ZbH (w.alloc (.cells #[.int .i64 c,.int .i64 m] 37)) zeroU (.slice none 0 0);rw [show (w.alloc (.cells #[.int .i64 c,.int .i64 m] 37)).heap.size=w.heap.size+1 by simp] at bj;have ay:Hid (UnBlk ((w.alloc (.cells #[.int .i64 c,.int .i64 m] 37)).alloc (.cells #[.int .i64 0,.int .i64 0,.int .i64 0,.int .i64 0,.int .i64 0,.int .i64 0,.float .f64 0,.bool false,.slice none 0 0,.int .i64 0,.int .i64 0,.int .i64 0] 65)) (w.heap.size+1) zeroU (.slice none 0 0)):=bj;have ak:Hid (((w.alloc (.cells #[.int .i64 c,.int .i64 m] 37)).alloc (.cells #[.int .i64 0,.int .i64 0,.int .i64 0,.int .i64 0,.int .i64 0,.int .i64 0,.float .f64 0,.bool false,.slice none 0 0,.int .i64 0,.int .i64 0,.int .i64 0] 65)).heap[w.heap.size]? = some (.cells #[.int .i64 c,.int .i64 m] 37)):=by
   show _=_;have h1:=heap_alloc_new w (.cells #[.int .i64 c,.int .i64 m] 37);have h2:=(Zaa (w.alloc (.cells #[.int .i64 c,.int .i64 m] 37)) (.cells #[.int .i64 0,.int .i64 0,.int .i64 0,.int .i64 0,.int .i64 0,.int .i64 0,.float .f64 0,.bool false,.slice none 0 0,.int .i64 0,.int .i64 0,.int .i64 0] 65)).block w.heap.size (by simp);exact h2.trans h1
  have ap:Hid (∀w',Below w.heap.size w w'→_):=fun w' hb=>Zfx a n cap l w' (h.keep hb (Nat.le_refl _)) au;have aq:Hid (∀w',Below w.heap.size w w'→_):=fun w' hb=>Zkk w' a n cap l (h.keep hb (Nat.le_refl _)) au c;(have bo:Hid ((uns l).length=n):=by show _=_;rw [ZcN,h.len]);have HE:=hide h;clear h bj;cases hm:MayU (uns l) with
  | false =>
   rw [hm] at ap;rw [if_neg (by decide)];simp only;clear hm aq;go_enter Tryz.func70,Tryz.ntmps70;go_wp2_with fail;refine(ap.out _ HA.out).mono ?_;rintro e w1 ⟨rfl,ab⟩;have aj:=hide (Zac HA.out ab);have ae:=hide (ay.out.keep ab);have aw:=hide (ZaZ ae.out zeroU none 0 0);have ad:=(ab.block w.heap.size (Array.getElem?_eq_some_iff.1 ak.out).1).trans ak.out;(have r0:w1.cell? ⟨w.heap.size,0,none⟩=some (.int .i64 c):=by rw [cell_of_row _ _ _ _ _ _ ad];rfl);(have r1:w1.cell? ⟨w.heap.size,1,none⟩=some (.int .i64 m):=by rw [cell_of_row _ _ _ _ _ _ ad];rfl);clear ab ad;simp only [chk];go_wp2_with (refine Zad _ rfl rfl 65 (.tmp 4) (.tmp 17) rfl (.pointer (some ⟨w.heap.size+1,0,none⟩)) (zeroU.val (.slice none 0 0)) rfl rfl _ aw.out ?_);refine Zg3 rfl ae.out zeroU (.slice none 0 0) (.bool false) ⟨_,_,_,rfl⟩ (by rfl) (by rfl) (by rfl) ?_;exact⟨Ux.zero,rfl,rfl,(fun _=>Col.zero _ _),ZaS aj.out (Nat.le_succ _) _ _⟩
  | true =>
   have hP:=(Zdi _).1 hm;rw [hm] at ap;rw [if_pos rfl];clear hm;cases hem:(atU (uns l) c).emp with
   | true =>
    (have hg:getU (uns l) c m=(zeroU,false):=by unfold getU;rw [if_pos (.inl hem)]);rw [hg];simp only;rw [hem] at aq;clear hg hem hP;go_enter Tryz.func70,Tryz.ntmps70;go_wp2_with fail;refine(ap.out _ HA.out).mono ?_;rintro e w1 ⟨rfl,ab⟩;have aj:=hide (Zac HA.out ab);have ae:=hide (ay.out.keep ab);have aw:=hide (ZaZ ae.out zeroU none 0 0);have ad:=(ab.block w.heap.size (Array.getElem?_eq_some_iff.1 ak.out).1).trans ak.out;(have r0:w1.cell? ⟨w.heap.size,0,none⟩=some (.int .i64 c):=by rw [cell_of_row _ _ _ _ _ _ ad];rfl);(have r1:w1.cell? ⟨w.heap.size,1,none⟩=some (.int .i64 m):=by rw [cell_of_row _ _ _ _ _ _ ad];rfl);clear ab ad;simp only [chk];go_wp2_with fail;refine(aq.out _ aj.out).mono ?_;rintro e w2 ⟨rfl,ac⟩;have ao:=hide (Zac aj.out ac);have al:=hide (ae.out.keep ac);have an:=hide (ZaZ al.out zeroU none 0 0);have s0:=(ac.cell (p:=⟨w.heap.size,0,none⟩) (World.block_lt_of_cell? _ _ r0)).trans r0;have s1:=(ac.cell (p:=⟨w.heap.size,1,none⟩) (World.block_lt_of_cell? _ _ r1)).trans r1;clear ac r0 r1;go_wp2_with (refine Zad _ rfl rfl 65 (.tmp 4) (.tmp 17) rfl (.pointer (some ⟨w.heap.size+1,0,none⟩)) (zeroU.val (.slice none 0 0)) rfl rfl _ an.out ?_);refine Zg3 rfl al.out zeroU (.slice none 0 0) (.bool false) ⟨_,_,_,rfl⟩ (by rfl) (by rfl) (by rfl) ?_;exact⟨Ux.zero,rfl,rfl,(fun _=>Col.zero _ _),ZaS ao.out (Nat.le_succ _) _ _⟩
   | false =>
    have hc:=ZiT hem;rw [bo.out] at hc;rw [hem] at aq;have bm:=hide hem;have br:=hide hP.cols;clear hP hem;obtain⟨k,rfl⟩:∃k:Nat,c=(k:Int)+1:=⟨(c-1).toNat,by omega⟩;(have hk:k<n:=by omega);(have bf:atU (uns l) ((k:Int)+1)=(l.getD k Ux.zero).u:=by rw [Zow _ (by rw [bo.out];exact hk),Zb6]);rw [bf] at bm;have bp:getU (uns l) ((k:Int)+1) m=if (l.getD k Ux.zero).u.no≠m then (zeroU,false) else ((l.getD k Ux.zero).u,true):=by
     unfold getU;rw [bf,bm.out];simp
    rw [bp];have am:=hide (HE.out.mem hk);have bk:=hide (HE.out.at' k hk);(have bw:(k:Int)<(n:Int):=by omega);clear bf bp hc;generalize l.getD k Ux.zero=y at *;have bl:Hid (y.n≤1000):=by
     have h1:=br.out y.u (List.mem_map.2 ⟨y,am.out,rfl⟩);have h2:=(HE.out.cols _ am.out).len;show _≤_;omega
    by_cases ar:y.u.no=m
    · rw [if_neg (by simpa using ar)];simp only;go_enter Tryz.func70,Tryz.ntmps70;go_wp2_with fail;refine(ap.out _ HA.out).mono ?_;rintro e w1 ⟨rfl,ab⟩;have aj:=hide (Zac HA.out ab);have ae:=hide (ay.out.keep ab);have aw:=hide (ZaZ ae.out zeroU none 0 0);have ad:=(ab.block w.heap.size (Array.getElem?_eq_some_iff.1 ak.out).1).trans ak.out;(have r0:w1.cell? ⟨w.heap.size,0,none⟩=some (.int .i64 ((k:Int)+1)):=by rw [cell_of_row _ _ _ _ _ _ ad];rfl);(have r1:w1.cell? ⟨w.heap.size,1,none⟩=some (.int .i64 m):=by rw [cell_of_row _ _ _ _ _ _ ad];rfl);clear ab ad;simp only [chk];go_wp2_with fail;refine(aq.out _ aj.out).mono ?_;rintro e w2 ⟨rfl,ac⟩;have ao:=hide (Zac aj.out ac);have al:=hide (ae.out.keep ac);have an:=hide (ZaZ al.out zeroU none 0 0);have s0:=(ac.cell (p:=⟨w.heap.size,0,none⟩) (World.block_lt_of_cell? _ _ r0)).trans r0;have s1:=(ac.cell (p:=⟨w.heap.size,1,none⟩) (World.block_lt_of_cell? _ _ r1)).trans r1;clear ac r0 r1;obtain⟨b1,off,rfl,af⟩:=bk.out;have bb:=hide (Zbs b1 (off+k*12) y w2 (af.keep ao.out (Nat.le_refl _)));obtain⟨W3,ah,aa,ag⟩:=ZiW w2 y;have bc:=hide ah;have ax:=hide (Zac ao.out ag);have az:=hide (al.out.keep ag);have av:=hide (ZeH _ y.u (.slice y.a y.n y.c) ⟨_,_,_,rfl⟩ W3 aa);have y1:=aa.c1;have u0:=(ag.cell (p:=⟨w.heap.size,0,none⟩) (World.block_lt_of_cell? _ _ s0)).trans s0;have u1:=(ag.cell (p:=⟨w.heap.size,1,none⟩) (World.block_lt_of_cell? _ _ s1)).trans s1;have ai:y.u.val (.slice y.a y.n y.c)=y.val:=rfl;rw [ai] at av;clear af ah aa ag ai;(have bi:(y.u.no == m)=true:=by simp [ar]);clear ar;have bu:=hide (ZnS y W3 ((HE.out.cols _ am.out).keep ax.out (Nat.le_refl _)) bl.out);go_wp2_with (first | refine Zah _ rfl 65 (.tmp 22) rfl (.pointer (some ⟨b1,off+k*12,none⟩)) y.val rfl bb.out ?_ | refine Zad _ rfl rfl 65 (.tmp 6) (.tmp 23) rfl (.pointer (some ⟨w2.heap.size,0,none⟩)) y.val rfl rfl W3 bc.out ?_ | refine Zah _ rfl 65 (.tmp 6) rfl (.pointer (some ⟨w2.heap.size,0,none⟩)) y.val rfl av.out ?_);refine bu.out.mono ?_;rintro e w4 ⟨a4,c4,rfl,bq,bh,bg⟩;have ba:=hide (az.out.keep bg);have bd:=hide (ZaZ ba.out y.u a4 y.n c4);have bn:=hide bq;have bt:=hide bh.fit;have bs:=hide bh.len;have bv:=hide (Zac ax.out bg);clear bq bh bg;go_wp2_with (refine Zad _ rfl rfl 65 (.tmp 4) (.tmp 31) rfl (.pointer (some ⟨w.heap.size+1,0,none⟩)) (y.u.val (.slice a4 y.n c4)) rfl rfl _ bd.out ?_);refine Zg3 rfl ba.out y.u (.slice a4 y.n c4) (.bool true) ⟨_,_,_,rfl⟩ (by rfl) (by rfl) (by rfl) ?_;refine⟨⟨y.u,a4,y.n,c4⟩,rfl,rfl,?_,ZaS bv.out (Nat.le_succ _) _ _⟩;exact fun _=>Col.owns (bn.out.stay (Zew ba.out (ZeV _ _ _ _)) (by decide)) ((bn.out.stay (Zew ba.out (ZeV _ _ _ _)) (by decide)).fsAt bt.out (by rw [bs.out];have:=bl.out;omega))
    · rw [if_pos (by simpa using ar)];simp only;go_enter Tryz.func70,Tryz.ntmps70;go_wp2_with fail;refine(ap.out _ HA.out).mono ?_;rintro e w1 ⟨rfl,ab⟩;have aj:=hide (Zac HA.out ab);have ae:=hide (ay.out.keep ab);have aw:=hide (ZaZ ae.out zeroU none 0 0);have ad:=(ab.block w.heap.size (Array.getElem?_eq_some_iff.1 ak.out).1).trans ak.out;(have r0:w1.cell? ⟨w.heap.size,0,none⟩=some (.int .i64 ((k:Int)+1)):=by rw [cell_of_row _ _ _ _ _ _ ad];rfl);(have r1:w1.cell? ⟨w.heap.size,1,none⟩=some (.int .i64 m):=by rw [cell_of_row _ _ _ _ _ _ ad];rfl);clear ab ad;simp only [chk];go_wp2_with fail;refine(aq.out _ aj.out).mono ?_;rintro e w2 ⟨rfl,ac⟩;have ao:=hide (Zac aj.out ac);have al:=hide (ae.out.keep ac);have an:=hide (ZaZ al.out zeroU none 0 0);have s0:=(ac.cell (p:=⟨w.heap.size,0,none⟩) (World.block_lt_of_cell? _ _ r0)).trans r0;have s1:=(ac.cell (p:=⟨w.heap.size,1,none⟩) (World.block_lt_of_cell? _ _ r1)).trans r1;clear ac r0 r1;obtain⟨b1,off,rfl,af⟩:=bk.out;have bb:=hide (Zbs b1 (off+k*12) y w2 (af.keep ao.out (Nat.le_refl _)));obtain⟨W3,ah,aa,ag⟩:=ZiW w2 y;have bc:=hide ah;have ax:=hide (Zac ao.out ag);have az:=hide (al.out.keep ag);have av:=hide (ZeH _ y.u (.slice y.a y.n y.c) ⟨_,_,_,rfl⟩ W3 aa);have y1:=aa.c1;have u0:=(ag.cell (p:=⟨w.heap.size,0,none⟩) (World.block_lt_of_cell? _ _ s0)).trans s0;have u1:=(ag.cell (p:=⟨w.heap.size,1,none⟩) (World.block_lt_of_cell? _ _ s1)).trans s1;have ai:y.u.val (.slice y.a y.n y.c)=y.val:=rfl;rw [ai] at av;clear af ah aa ag ai;have bi:(y.u.no == m)=false:=beq_eq_false_iff_ne.2 ar;have be:=hide (ZaZ az.out zeroU none 0 0);clear ar;go_wp2_with (first | refine Zah _ rfl 65 (.tmp 22) rfl (.pointer (some ⟨b1,off+k*12,none⟩)) y.val rfl bb.out ?_ | refine Zad _ rfl rfl 65 (.tmp 6) (.tmp 23) rfl (.pointer (some ⟨w2.heap.size,0,none⟩)) y.val rfl rfl W3 bc.out ?_ | refine Zad _ rfl rfl 65 (.tmp 4) (.tmp 29) rfl (.pointer (some ⟨w.heap.size+1,0,none⟩)) (zeroU.val (.slice none 0 0)) rfl rfl _ be.out ?_);refine Zg3 rfl az.out zeroU (.slice none 0 0) (.bool false) ⟨_,_,_,rfl⟩ (by rfl) (by rfl) (by rfl) ?_;exact⟨Ux.zero,rfl,rfl,(fun _=>Col.zero _ _),ZaS ax.out (Nat.le_succ _) _ _⟩
theorem fdU1 (p o:Nat)(w:World):(Instr.fieldAt 65 (.pointer (some ⟨p,o,none⟩)) 1).run Tryz.prog w=.ok (.pointer (some ⟨p,o+1,none⟩)) w:=by simp [go_sem,Instr.fieldAt]
theorem Zdg {b:Nat}{v:Int}(h:w.cell? ⟨b,o,none⟩=some (.int .i64 v)):(Instr.loadAt 3 (.pointer (some ⟨b,o,none⟩))).run Tryz.prog w=.ok (.int .i64 v) w:=by simp [go_sem,h]
theorem Zrf (a c:Int)(x y:Operand)(h:a=c)(w:World):(do eqGuard .eql 3 x y (.int .i64 a) (.int .i64 c);binOp .eql 3 (.int .i64 a) (.int .i64 c):Sem Value).run Tryz.prog w=.ok (.bool true) w:=by
 simp [go_sem,eqGuard];first | done | omega
theorem Zre (a c:Int)(x y:Operand)(h:¬(a=c))(w:World):(do eqGuard .eql 3 x y (.int .i64 a) (.int .i64 c);binOp .eql 3 (.int .i64 a) (.int .i64 c):Sem Value).run Tryz.prog w=.ok (.bool false) w:=by
 simp [go_sem,eqGuard];first | done | omega
theorem Zje {x:Ux}{m:Bool}(h:x.u.emp=m)(w:World)(hx:Fs w x.a x.n x.c x.u.row.xs):Calls Tryz.prog 81 #[x.val] w fun e w'=>e=.returned (.bool m)∧Below w.heap.size w w':=by
 have:=Zhz x.u x.a x.n x.c w hx;rw [show x.u.same zeroU=m from h] at this;exact this
theorem Zqu (w0 w:World)(b1 o1 c1 len k j:Nat)(hk:k<len)(hj:j<len)(x y:Ux)(hx:UnAt w0 b1 (o1+j*12) x)(hy:UnAt w0 b1 (o1+k*12) y)(h:x.u.no=y.u.no)(hW:Below w0.heap.size w0 w)
    {Q:Exit→Act→World→Prop}{A:Act}(ac:A.tmps.size=52)(ab:A.defers=[])(s0:A.tmps.getD 0 undef=.slice (some ⟨b1,o1,none⟩) len c1)(s3:A.tmps.getD 3 undef=.int .i64 (k:Int))(s4:A.tmps.getD 4 undef=.int .i64 (j:Int))
    (hend:∀(u:Nat→Value) w',Below w0.heap.size w0 w'→Q .normal ((Pl.pu A u [27,28,29,30,31,32,33,34,35,36]).put (some 37) (.bool true)) w') :
    (Code.region 10 (Pl.find 10 ((Tryz.f38.body).getD .skip)) true).wp Tryz.prog Q A w:=by
  have aa:Below w0.heap.size w0 w.drew:=hW.drew;have hA:=Pl.At.same (v:=.int .i64 (j:Int)) (d:=4) (Pl.At.same (v:=.int .i64 (k:Int)) (d:=3) (Pl.At.same (v:=.slice (some ⟨b1,o1,none⟩) len c1) (d:=0) (Pl.At.here ac ab) s0) s3) s4;refine Pl.qa (S:=fun w'=>Below w0.heap.size w0 w') hA aa ?_;rw [show (Pl.find 10 ((Tryz.f38.body).getD .skip)).size=11 by kernel_rfl];refine Pl.q0 0 27 (.slice (some ⟨b1,o1,none⟩) len c1) (Pl.q1) (Pl.q2 (.tmp 0)) aa ?_;refine Pl.q0 1 28 (.int .i64 (j:Int)) (Pl.q1) (Pl.q2 (.tmp 4)) aa ?_;refine Pl.q0 2 29 (.pointer (some ⟨b1,o1+j*12,none⟩)) (Pl.q1) (Pl.qb 25 (.tmp 27) (.tmp 28) (Zcw b1 o1 len c1 j hj)) aa ?_;refine Pl.q0 3 30 (.pointer (some ⟨b1,o1+j*12+1,none⟩)) (Pl.q1) (Pl.q5 65 (.tmp 29) 1 (fdU1 b1 (o1+j*12))) aa ?_;refine Pl.q0 4 31 (.int .i64 x.u.no) (Pl.q1) (Pl.q4 3 (.tmp 30) (fun w' hS=>Zdg (hx.keep hS (Nat.le_refl _)).c1)) aa ?_;refine Pl.q0 5 32 (.slice (some ⟨b1,o1,none⟩) len c1) (Pl.q1) (Pl.q2 (.tmp 0)) aa ?_;refine Pl.q0 6 33 (.int .i64 (k:Int)) (Pl.q1) (Pl.q2 (.tmp 3)) aa ?_;refine Pl.q0 7 34 (.pointer (some ⟨b1,o1+k*12,none⟩)) (Pl.q1) (Pl.qb 25 (.tmp 32) (.tmp 33) (Zcw b1 o1 len c1 k hk)) aa ?_;refine Pl.q0 8 35 (.pointer (some ⟨b1,o1+k*12+1,none⟩)) (Pl.q1) (Pl.q5 65 (.tmp 34) 1 (fdU1 b1 (o1+k*12))) aa ?_;refine Pl.q0 9 36 (.int .i64 y.u.no) (Pl.q1) (Pl.q4 3 (.tmp 35) (fun w' hS=>Zdg (hy.keep hS (Nat.le_refl _)).c1)) aa ?_;refine Pl.q0 10 37 (.bool true) (Pl.q1) (Pl.qc .eql 3 3 (.tmp 31) (.tmp 36) (.int .i64 x.u.no) (.int .i64 y.u.no) (Zrf _ _ _ _ h)) aa ?_;refine Pl.q8 (fun A' hA'=>?_);rw [Pl.At.ext hA' (((((((((((hA.put 27 _).put 28 _).put 29 _).put 30 _).put 31 _).put 32 _).put 33 _).put 34 _).put 35 _).put 36 _).put 37 _)];exact hend hA'.fn _ aa
theorem Zqt (w0 w:World)(b1 o1 c1 len k j:Nat)(hk:k<len)(hj:j<len)(x y:Ux)(hx:UnAt w0 b1 (o1+j*12) x)(hy:UnAt w0 b1 (o1+k*12) y)(h:¬x.u.no=y.u.no)(hW:Below w0.heap.size w0 w)
    {Q:Exit→Act→World→Prop}{A:Act}(ac:A.tmps.size=52)(ab:A.defers=[])(s0:A.tmps.getD 0 undef=.slice (some ⟨b1,o1,none⟩) len c1)(s3:A.tmps.getD 3 undef=.int .i64 (k:Int))(s4:A.tmps.getD 4 undef=.int .i64 (j:Int))
    (hend:∀(u:Nat→Value) w',Below w0.heap.size w0 w'→Q .normal ((Pl.pu A u [27,28,29,30,31,32,33,34,35,36]).put (some 37) (.bool false)) w') :
    (Code.region 10 (Pl.find 10 ((Tryz.f38.body).getD .skip)) true).wp Tryz.prog Q A w:=by
  have aa:Below w0.heap.size w0 w.drew:=hW.drew;have hA:=Pl.At.same (v:=.int .i64 (j:Int)) (d:=4) (Pl.At.same (v:=.int .i64 (k:Int)) (d:=3) (Pl.At.same (v:=.slice (some ⟨b1,o1,none⟩) len c1) (d:=0) (Pl.At.here ac ab) s0) s3) s4;refine Pl.qa (S:=fun w'=>Below w0.heap.size w0 w') hA aa ?_;rw [show (Pl.find 10 ((Tryz.f38.body).getD .skip)).size=11 by kernel_rfl];refine Pl.q0 0 27 (.slice (some ⟨b1,o1,none⟩) len c1) (Pl.q1) (Pl.q2 (.tmp 0)) aa ?_;refine Pl.q0 1 28 (.int .i64 (j:Int)) (Pl.q1) (Pl.q2 (.tmp 4)) aa ?_;refine Pl.q0 2 29 (.pointer (some ⟨b1,o1+j*12,none⟩)) (Pl.q1) (Pl.qb 25 (.tmp 27) (.tmp 28) (Zcw b1 o1 len c1 j hj)) aa ?_;refine Pl.q0 3 30 (.pointer (some ⟨b1,o1+j*12+1,none⟩)) (Pl.q1) (Pl.q5 65 (.tmp 29) 1 (fdU1 b1 (o1+j*12))) aa ?_;refine Pl.q0 4 31 (.int .i64 x.u.no) (Pl.q1) (Pl.q4 3 (.tmp 30) (fun w' hS=>Zdg (hx.keep hS (Nat.le_refl _)).c1)) aa ?_;refine Pl.q0 5 32 (.slice (some ⟨b1,o1,none⟩) len c1) (Pl.q1) (Pl.q2 (.tmp 0)) aa ?_;refine Pl.q0 6 33 (.int .i64 (k:Int)) (Pl.q1) (Pl.q2 (.tmp 3)) aa ?_;refine Pl.q0 7 34 (.pointer (some ⟨b1,o1+k*12,none⟩)) (Pl.q1) (Pl.qb 25 (.tmp 32) (.tmp 33) (Zcw b1 o1 len c1 k hk)) aa ?_;refine Pl.q0 8 35 (.pointer (some ⟨b1,o1+k*12+1,none⟩)) (Pl.q1) (Pl.q5 65 (.tmp 34) 1 (fdU1 b1 (o1+k*12))) aa ?_;refine Pl.q0 9 36 (.int .i64 y.u.no) (Pl.q1) (Pl.q4 3 (.tmp 35) (fun w' hS=>Zdg (hy.keep hS (Nat.le_refl _)).c1)) aa ?_;refine Pl.q0 10 37 (.bool false) (Pl.q1) (Pl.qc .eql 3 3 (.tmp 31) (.tmp 36) (.int .i64 x.u.no) (.int .i64 y.u.no) (Zre _ _ _ _ h)) aa ?_;refine Pl.q8 (fun A' hA'=>?_);rw [Pl.At.ext hA' (((((((((((hA.put 27 _).put 28 _).put 29 _).put 30 _).put 31 _).put 32 _).put 33 _).put 34 _).put 35 _).put 36 _).put 37 _)];exact hend hA'.fn _ aa
theorem ZnV (a:Option Addr)(n cap:Nat)(l:List Ux)(w:World)(h:Us w a n l)(bs:n≤1000000) :
    Calls Tryz.prog 38 #[.slice a n cap] w fun e w'=>e=.returned (.bool (MayU (uns l)))∧Below w.heap.size w w':=by
  (have ax:Hid ((uns l).length=n):=by show _=_;rw [ZcN,h.len]);have HE:=hide h;have H0:=hide (Below.refl w.heap.size w);clear h;go_enter Tryz.func38,Tryz.ntmps38;go_wp2_with fail;go_loopw [3] (fun iv wr=>∃i:Nat,i≤n∧iv=.int .i64 (i:Nat)∧Hid (SeenU (uns l) i)∧Hid (Below w.heap.size w wr)) (fun iv _=>n-(intOf iv).toNat)
  case atStart=>exact ⟨0,Nat.zero_le _,rfl,(fun j hj=>absurd hj (Nat.not_lt_zero _)),H0⟩
  case round =>
   obtain⟨i,hi,rfl,ak,af⟩:=hrel;rcases Nat.lt_or_ge i n with ag | bu
   · (have i1:(i:Int)<(n:Int):=by omega);have hr:=HE.out.keep af.out (Nat.le_refl _);obtain⟨b1,off,rfl,be⟩:=hr.at' i ag;have ah:=hr.mem ag;have aa:=hr.cols _ ah;have bq:=hide (hr.fits _ ah);have bp:(uns l).getD i zeroU=(l.getD i Ux.zero).u:=Zb6 l i;generalize l.getD i Ux.zero=y at *;have bd:=hide (Zbs b1 (off+i*12) y _ be);have bi:=hide be;have am:=hide aa;have ab:=hide bp;clear be hr bp ah;cases hon:y.u.emp with
     | true =>
      have aw:=hide (Zje hon _ aa);have HN:Hid (SeenU (uns l) (i+1)):=by
       intro j hj;by_cases e:j=i
       · rw [e,ab.out];exact .inl hon
       · exact ak.out j (by omega)
      clear ak ab hon aa;go_wp2_with (refine Zah _ rfl 65 (.tmp 13) rfl (.pointer (some ⟨b1,off+i*12,none⟩)) y.val rfl bd.out ?_);refine aw.out.mono ?_;rintro e w1 ⟨rfl,ae⟩;have al:=hide (Zac af.out ae);clear ae;go_wp2_with fail;go_roundw
      case rel=>exact ⟨i+1,by omega,by go_num,HN,al⟩
      case measure=>simp only [intOf];omega
     | false =>
      have aw:=hide (Zje hon _ aa);have bj:=hide hon;clear hon aa;go_wp2_with (refine Zah _ rfl 65 (.tmp 13) rfl (.pointer (some ⟨b1,off+i*12,none⟩)) y.val rfl bd.out ?_);refine aw.out.mono ?_;rintro e w1 ⟨rfl,ae⟩;have al:=hide (Zac af.out ae);have ad:=hide (Zbs b1 (off+i*12) y w1 (bi.out.keep ae (Nat.le_refl _)));have ai:=hide (Zix y.u y.a y.n y.c w1 (am.out.keep ae (Nat.le_refl _)) bq.out.row);have au:y.u.val (.slice y.a y.n y.c)=y.val:=rfl;rw [au] at ai;clear ae au bd aw bi am;cases hmy:y.u.may with
      | false =>
       rw [hmy] at ai;have HN:Hid (MayU (uns l)=false):=ZhI (i:=i) (by rw [ax.out];exact ag) (by rw [ab.out];exact bj.out) (.inl (by rw [ab.out];exact hmy));clear hmy;go_wp2_with (refine Zah _ rfl 65 (.tmp 18) rfl (.pointer (some ⟨b1,off+i*12,none⟩)) y.val rfl ad.out ?_);refine ai.out.mono ?_;rintro e w2 ⟨rfl,ap⟩;have bb:=hide (Zac al.out ap);clear ap;go_wp2_with fail;go_ret;exact⟨by rw [HN.out];rfl,bb.out⟩
      | true =>
       rw [hmy] at ai;have br:=hide hmy;clear hmy;go_wp2_with (refine Zah _ rfl 65 (.tmp 18) rfl (.pointer (some ⟨b1,off+i*12,none⟩)) y.val rfl ad.out ?_);refine ai.out.mono ?_;rintro e w2 ⟨rfl,ap⟩;have bb:=hide (Zac al.out ap);clear ap ai ad al;go_wp2_with fail;go_loopw [4] (fun jv ws=>∃j:Nat,j≤i∧jv=.int .i64 (j:Nat)∧Hid (∀t,t<j→((uns l).getD t zeroU).no≠y.u.no)∧Hid (Below w.heap.size w ws)) (fun jv _=>i-(intOf jv).toNat)
       case atStart=>exact ⟨0,Nat.zero_le _,rfl,(fun t ht=>absurd ht (Nat.not_lt_zero _)),bb⟩
       case round =>
        obtain⟨j,hj,rfl,az,ay⟩:=hrel;rcases Nat.lt_or_ge j i with bt | bv
        · (have j1:(j:Int)<(i:Int):=by omega);have bf:=HE.out.keep ay.out (Nat.le_refl _);obtain⟨b2,o2,bl,an⟩:=bf.at' j (by omega);obtain⟨b3,o3,ar,ao⟩:=bf.at' i ag;have bo:(uns l).getD j zeroU=(l.getD j Ux.zero).u:=Zb6 l j;have av:(uns l).getD i zeroU=(l.getD i Ux.zero).u:=Zb6 l i;generalize l.getD j Ux.zero=x at *;generalize l.getD i Ux.zero=y3 at *;simp only [Option.some.injEq,Addr.mk.injEq,and_true] at bl ar;obtain⟨rfl,rfl⟩:=bl;obtain⟨rfl,rfl⟩:=ar;have ba:y3.u=y.u:=av.symm.trans ab.out;have bg:=hide an;have bh:=hide ao;have bk:=hide bo;clear an ao bo av bf;go_wp2_with fail;refine Pl.q9 (ops:=Pl.find 10 ((Tryz.f38.body).getD .skip)) ?_;by_cases aj:x.u.no=y3.u.no
          · refine Zqu _ _ b1 off cap n i j ag (by omega) x y3 bg.out bh.out aj (Below.refl _ _) (by rfl) (by rfl) (by rfl) (by rfl) (by rfl) ?_;intro u w4 aq;simp only [Pl.pu,List.foldl,Act.put,List.setIfInBounds_toArray,List.set_cons_zero,List.set_cons_succ];have bc:=hide (Zac ay.out aq);have HN:Hid (MayU (uns l)=false):=ZhI (i:=i) (by rw [ax.out];exact ag) (by rw [ab.out];exact bj.out) (.inr ⟨j,bt,by rw [bk.out,ab.out,aj,ba]⟩);clear aq aj ba;go_wp2_with fail;go_ret;exact⟨by rw [HN.out];rfl,bc.out⟩
          · refine Zqt _ _ b1 off cap n i j ag (by omega) x y3 bg.out bh.out aj (Below.refl _ _) (by rfl) (by rfl) (by rfl) (by rfl) (by rfl) ?_;intro u w4 aq;simp only [Pl.pu,List.foldl,Act.put,List.setIfInBounds_toArray,List.set_cons_zero,List.set_cons_succ];have bc:=hide (Zac ay.out aq);have HN:Hid (∀t,t<j+1→((uns l).getD t zeroU).no≠y.u.no):=by
             intro t ht;by_cases e:t=j
             · rw [e,bk.out,← ba];exact aj
             · exact az.out t (by omega)
            clear aq aj ba az;go_wp2_with fail;go_roundw
            case rel=>exact ⟨j+1,by omega,by go_num,HN,bc⟩
            case measure=>simp only [intOf];omega
        · (have j1:¬(j:Int)<(i:Int):=by omega);have HN:Hid (SeenU (uns l) (i+1)):=by
           intro t ht;by_cases e:t=i
           · rw [e,ab.out];exact .inr ⟨br.out,fun q hq=>az.out q (by omega)⟩
           · exact ak.out t (by omega)
          clear az ak;go_wp2_with fail;go_roundw
          case rel=>exact ⟨i+1,by omega,by go_num,HN,ay⟩
          case measure=>simp only [intOf];omega
   · (have i1:¬(i:Int)<(n:Int):=by omega);(have bm:i=n:=by omega);(have bn:SeenU (uns l) (uns l).length:=by rw [ax.out,← bm];exact ak.out);(have ac:MayU (uns l)=(decide (6≤n) && decide (n≤378) && decide (n % 6=0)):=by rw [Zod bn,ax.out];rfl);(have bw:(n:Int).tmod 6=((n % 6:Nat):Int):=by rw [Int.ofNat_tmod];rfl);clear ak bn bm;by_cases h6:6≤n
     · (have h6':(6:Int)≤(n:Int):=by omega);by_cases h7:n≤378
       · (have h7':(n:Int)≤378:=by omega);by_cases hm:n % 6=0
         · (have hm':((((n % 6:Nat):Int)) == 0)=true:=by simp [hm]);(have HN:Hid (MayU (uns l)=true):=by show _=_;rw [ac];simp [h6,h7,hm]);(have HM:Hid (((n:Int) % 6 == 0)=true):=by show _=_;simp;omega);clear h6 h7 hm ac;go_wp2_with fail;go_ret;refine⟨?_,af.out⟩;rw [HN.out,← HM.out];rfl
         · have hm':((((n % 6:Nat):Int)) == 0)=false:=beq_eq_false_iff_ne.2 (by omega);(have HN:Hid (MayU (uns l)=false):=by show _=_;rw [ac];simp [hm]);have HM:Hid (((n:Int) % 6 == 0)=false):=beq_eq_false_iff_ne.2 (by omega);clear h6 h7 hm ac;go_wp2_with fail;go_ret;refine⟨?_,af.out⟩;rw [HN.out,← HM.out];rfl
       · (have h7':¬(n:Int)≤378:=by omega);(have HN:Hid (MayU (uns l)=false):=by show _=_;rw [ac];simp [h7]);clear h6 h7 ac;go_wp2_with fail;go_ret;exact⟨by rw [HN.out];rfl,af.out⟩
     · (have h6':¬(6:Int)≤(n:Int):=by omega);(have HN:Hid (MayU (uns l)=false):=by show _=_;rw [ac];simp [h6]);clear h6 ac;go_wp2_with fail;go_ret;exact⟨by rw [HN.out];rfl,af.out⟩
structure Bz where
  t:Tbl
  es:Sl
  cs:Sl
  ux:List Ux
  ls:Sl
  lb:List Lb
def Bz.b (z:Bz):Bse:=⟨z.t,uns z.ux,lfs z.lb⟩
def Bz.val (z:Bz):Value:=.agg #[.int .i64 z.t.nx,.int .i64 z.t.no,.int .i64 z.t.cm,.slice z.es.a z.es.len z.es.cap,.slice z.cs.a z.cs.len z.cs.cap,.slice z.ls.a z.ls.len z.ls.cap]
structure Bin (w:World) (z:Bz):Prop where
  es:Es w z.es z.t.es
  cs:Us w z.cs.a z.cs.len z.ux
  cb:z.cs.len≤1000
  ls:Gl (fun _=>True) w z.ls z.lb
theorem Bin.keep {z:Bz}(h:Bin w z)(hb:Below w.heap.size w w'):Bin w' z:=⟨h.es.keep hb (Nat.le_refl _),h.cs.keep hb (Nat.le_refl _),h.cb,h.ls.below hb (Nat.le_refl _)⟩
def BsBlk (w:World) (p:Nat) (z:Bz):Prop:=w.heap[p]? = some (Obj.cells #[.int .i64 z.t.nx,.int .i64 z.t.no,.int .i64 z.t.cm,.slice z.es.a z.es.len z.es.cap,.slice z.cs.a z.cs.len z.cs.cap,.slice z.ls.a z.ls.len z.ls.cap] 28 (0,0))
theorem BsBlk.lt {z:Bz}(h:BsBlk w p z):p<w.heap.size:=(Array.getElem?_eq_some_iff.1 h).1
theorem Zbi (w:World)(z:Bz):BsBlk (w.alloc (.cells #[.int .i64 z.t.nx,.int .i64 z.t.no,.int .i64 z.t.cm,.slice z.es.a z.es.len z.es.cap,.slice z.cs.a z.cs.len z.cs.cap,.slice z.ls.a z.ls.len z.ls.cap] 28)) w.heap.size z:=heap_alloc_new w _
theorem BsBlk.keep {z:Bz}(h:BsBlk w p z)(hb:Below w.heap.size w w'):BsBlk w' p z:=(hb.block p h.lt).trans h
theorem BsBlk.frm {F:Nat→Prop}{z:Bz}(h:BsBlk w p z)(hf:Frm F w w')(hn:¬F p):BsBlk w' p z:=(hf.block p h.lt hn).trans h
theorem BsBlk.c0 {z:Bz}(h:BsBlk w p z):w.cell? ⟨p,0,none⟩=some (.int .i64 z.t.nx):=by unfold BsBlk at h;simp [World.cell?,h]
theorem BsBlk.c1 {z:Bz}(h:BsBlk w p z):w.cell? ⟨p,1,none⟩=some (.int .i64 z.t.no):=by unfold BsBlk at h;simp [World.cell?,h]
theorem BsBlk.c2 {z:Bz}(h:BsBlk w p z):w.cell? ⟨p,2,none⟩=some (.int .i64 z.t.cm):=by unfold BsBlk at h;simp [World.cell?,h]
theorem BsBlk.c3 {z:Bz}(h:BsBlk w p z):w.cell? ⟨p,3,none⟩=some (.slice z.es.a z.es.len z.es.cap):=by unfold BsBlk at h;simp [World.cell?,h]
theorem BsBlk.c4 {z:Bz}(h:BsBlk w p z):w.cell? ⟨p,4,none⟩=some (.slice z.cs.a z.cs.len z.cs.cap):=by unfold BsBlk at h;simp [World.cell?,h]
theorem BsBlk.c5 {z:Bz}(h:BsBlk w p z):w.cell? ⟨p,5,none⟩=some (.slice z.ls.a z.ls.len z.ls.cap):=by unfold BsBlk at h;simp [World.cell?,h]
theorem BsBlk.fz {z:Bz}(h:BsBlk w p z)(o:Nat):w.frozen? ⟨p,o,none⟩=false:=frozen_of_row w p _ _ 28 h
theorem Zgn {z:Bz}(h:BsBlk w p z):(Instr.loadAt 28 (.pointer (some ⟨p,0,none⟩))).run Tryz.prog w=.ok z.val w:=by
 have h0:=h.c0;have h1:=h.c1;have h2:=h.c2;have h3:=h.c3;have h4:=h.c4;have h5:=h.c5;simp [go_sem,h0,h1,h2,h3,h4,h5,Bz.val]
theorem ZnI {z:Bz}(h:BsBlk w p z):(Instr.loadAt 24 (.pointer (some ⟨p,0,none⟩))).run Tryz.prog w=.ok (z.t.val z.es) w:=by
 have h0:=h.c0;have h1:=h.c1;have h2:=h.c2;have h3:=h.c3;simp [go_sem,h0,h1,h2,h3,Tbl.val]
theorem Zrg (p:Nat)(w:World):(Instr.fieldAt 28 (.pointer (some ⟨p,0,none⟩)) 0).run Tryz.prog w=.ok (.pointer (some ⟨p,0,none⟩)) w:=by simp [go_sem,Instr.fieldAt]
theorem ZoM (p:Nat)(w:World):(Instr.fieldAt 28 (.pointer (some ⟨p,0,none⟩)) 1).run Tryz.prog w=.ok (.pointer (some ⟨p,4,none⟩)) w:=by simp [go_sem,Instr.fieldAt]
theorem ZoN (p:Nat)(w:World):(Instr.fieldAt 28 (.pointer (some ⟨p,0,none⟩)) 2).run Tryz.prog w=.ok (.pointer (some ⟨p,5,none⟩)) w:=by simp [go_sem,Instr.fieldAt]
theorem Zqf (p o:Nat)(w:World):(Instr.fieldAt 65 (.pointer (some ⟨p,o,none⟩)) 4).run Tryz.prog w=.ok (.pointer (some ⟨p,o+4,none⟩)) w:=by simp [go_sem,Instr.fieldAt,Addr.add_lit]
theorem ldCs {a:Option Addr}{n c:Nat}(h:w.cell? ⟨p,o,none⟩=some (.slice a n c)):(Instr.loadAt 25 (.pointer (some ⟨p,o,none⟩))).run Tryz.prog w=.ok (.slice a n c) w:=by simp [go_sem,h]
theorem ldLs {a:Option Addr}{n c:Nat}(h:w.cell? ⟨p,o,none⟩=some (.slice a n c)):(Instr.loadAt 26 (.pointer (some ⟨p,o,none⟩))).run Tryz.prog w=.ok (.slice a n c) w:=by simp [go_sem,h]
end Go.Proofs.YtiecfcjlhldhdaaGreat
