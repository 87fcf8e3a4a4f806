/-
  Lemmas.
-/
import Derived.Test.YtiecfcjlhldhdaaGreatKnak
import Derived.Test.YtiecfcjlhldhdaaGreatKnaa
import Derived.Test.YtiecfcjlhldhdaaGreatKnae
import Derived.Test.YtiecfcjlhldhdaaGreatKnah
import Derived.Test.YtiecfcjlhldhdaaGreatKnai
import Derived.Test.YtiecfcjlhldhdaaGreatKnaj
namespace Go.Proofs.YtiecfcjlhldhdaaGreat
open Go.RowKit Go.Proofs.Tryz
set_option linter.unusedVariables false
set_option linter.unusedSimpArgs false
set_option maxRecDepth 100000
set_option maxHeartbeats 4000000
variable {w w0 wr w':World}{p i o n c g:Nat}{q vs:Sl}{x:Rx}{v:Vw}{x0:Rw}{pre:List Int}{a:Option Addr}
theorem fdU1 (p o:Nat)(w:World):(Instr.fieldAt 65 (.pointer (some ⟨p,o,none⟩)) 1).run prog w=.ok (.pointer (some ⟨p,o+1,none⟩)) w:=by simp [go_sem,Instr.fieldAt]
theorem Zdl {b:Nat}{v:Int}(h:w.cell? ⟨b,o,none⟩=some (.int .i64 v)):(Instr.loadAt 3 (.pointer (some ⟨b,o,none⟩))).run prog w=.ok (.int .i64 v) w:=by simp [go_sem,h]
theorem ZrI (a c:Int)(x y:Operand)(h:a=c)(w:World):(do eqGuard .eql 3 x y (.int .i64 a) (.int .i64 c);binOp .eql 3 (.int .i64 a) (.int .i64 c):Sem Value).run prog w=.ok (.bool true) w:=by
 simp [go_sem,eqGuard];first | done | omega
theorem ZrH (a c:Int)(x y:Operand)(h:¬(a=c))(w:World):(do eqGuard .eql 3 x y (.int .i64 a) (.int .i64 c);binOp .eql 3 (.int .i64 a) (.int .i64 c):Sem Value).run prog w=.ok (.bool false) w:=by
 simp [go_sem,eqGuard];first | done | omega
theorem ZcY {x:Ux}{m:Bool}(h:x.u.emp=m)(w:World)(hx:Fs w x.a x.n x.c x.u.row.xs):Calls prog 81 #[x.val] w fun e w'=>e=.returned (.bool m)∧Bl w w':=by
 have:=ZhF x.u x.a x.n x.c w hx;rw [show x.u.same zeroU=m from h] at this;exact this
theorem ZqW (w0 w:World)(b1 o1 c1 len k j:Nat)(hk:k<len)(hj:j<len)(x y:Ux)(hx:UnAt w0 b1 (o1+j*12) x)(hy:UnAt w0 b1 (o1+k*12) y)(h:x.u.no=y.u.no)(hW:Bl w0 w)
    {Q:Exit→Act→World→Prop}{A:Act}(ac:A.tmps.size=52)(ab:A.defers=[])(s0:A.tmps.getD 0 undef=.slice (some ⟨b1,o1,none⟩) len c1)(s3:A.tmps.getD 3 undef=.int .i64 (k:Int))(s4:A.tmps.getD 4 undef=.int .i64 (j:Int))
    (hend:∀(u:Nat→Value) w',Bl w0 w'→Q .normal ((Pl.pu A u [27,28,29,30,31,32,33,34,35,36]).put (some 37) (.bool true)) w') :
    Pl.rg prog 10 f38 Q A w:=by
  have aa:Bl w0 w.drew:=hW.drew;have hA:=Pl.At.same (v:=.int .i64 (j:Int)) (d:=4) (Pl.At.same (v:=.int .i64 (k:Int)) (d:=3) (Pl.At.same (v:=.slice (some ⟨b1,o1,none⟩) len c1) (d:=0) (Pl.At.here ac ab) s0) s3) s4;refine Pl.qb (S:=fun w'=>Bl w0 w') hA aa ?_;rw [show (Pl.fd 10 f38).size=11 by kernel_rfl];refine Pl.q0 0 27 (.slice (some ⟨b1,o1,none⟩) len c1) (Pl.q1) (Pl.q2 (.tmp 0)) aa ?_;refine Pl.q0 1 28 (.int .i64 (j:Int)) (Pl.q1) (Pl.q2 (.tmp 4)) aa ?_;refine Pl.q0 2 29 (.pointer (some ⟨b1,o1+j*12,none⟩)) (Pl.q1) (Pl.qa 25 (.tmp 27) (.tmp 28) (Zcz b1 o1 len c1 j hj)) aa ?_;refine Pl.q0 3 30 (.pointer (some ⟨b1,o1+j*12+1,none⟩)) (Pl.q1) (Pl.q6 65 (.tmp 29) 1 (fdU1 b1 (o1+j*12))) aa ?_;refine Pl.q0 4 31 (.int .i64 x.u.no) (Pl.q1) (Pl.q4 3 (.tmp 30) (fun w' hS=>Zdl (hx.keep hS (Nat.le_refl _)).c1)) aa ?_;refine Pl.q0 5 32 (.slice (some ⟨b1,o1,none⟩) len c1) (Pl.q1) (Pl.q2 (.tmp 0)) aa ?_;refine Pl.q0 6 33 (.int .i64 (k:Int)) (Pl.q1) (Pl.q2 (.tmp 3)) aa ?_;refine Pl.q0 7 34 (.pointer (some ⟨b1,o1+k*12,none⟩)) (Pl.q1) (Pl.qa 25 (.tmp 32) (.tmp 33) (Zcz b1 o1 len c1 k hk)) aa ?_;refine Pl.q0 8 35 (.pointer (some ⟨b1,o1+k*12+1,none⟩)) (Pl.q1) (Pl.q6 65 (.tmp 34) 1 (fdU1 b1 (o1+k*12))) aa ?_;refine Pl.q0 9 36 (.int .i64 y.u.no) (Pl.q1) (Pl.q4 3 (.tmp 35) (fun w' hS=>Zdl (hy.keep hS (Nat.le_refl _)).c1)) aa ?_;refine Pl.q0 10 37 (.bool true) (Pl.q1) (Pl.qc .eql 3 3 (.tmp 31) (.tmp 36) (.int .i64 x.u.no) (.int .i64 y.u.no) (ZrI _ _ _ _ h)) aa ?_;refine Pl.q8 (fun A' hA'=>?_);exact Pl.en hA' hA [27,28,29,30,31,32,33,34,35,36,37] (hend hA'.fn _ aa)
theorem ZqV (w0 w:World)(b1 o1 c1 len k j:Nat)(hk:k<len)(hj:j<len)(x y:Ux)(hx:UnAt w0 b1 (o1+j*12) x)(hy:UnAt w0 b1 (o1+k*12) y)(h:¬x.u.no=y.u.no)(hW:Bl w0 w)
    {Q:Exit→Act→World→Prop}{A:Act}(ac:A.tmps.size=52)(ab:A.defers=[])(s0:A.tmps.getD 0 undef=.slice (some ⟨b1,o1,none⟩) len c1)(s3:A.tmps.getD 3 undef=.int .i64 (k:Int))(s4:A.tmps.getD 4 undef=.int .i64 (j:Int))
    (hend:∀(u:Nat→Value) w',Bl w0 w'→Q .normal ((Pl.pu A u [27,28,29,30,31,32,33,34,35,36]).put (some 37) (.bool false)) w') :
    Pl.rg prog 10 f38 Q A w:=by
  have aa:Bl w0 w.drew:=hW.drew;have hA:=Pl.At.same (v:=.int .i64 (j:Int)) (d:=4) (Pl.At.same (v:=.int .i64 (k:Int)) (d:=3) (Pl.At.same (v:=.slice (some ⟨b1,o1,none⟩) len c1) (d:=0) (Pl.At.here ac ab) s0) s3) s4;refine Pl.qb (S:=fun w'=>Bl w0 w') hA aa ?_;rw [show (Pl.fd 10 f38).size=11 by kernel_rfl];refine Pl.q0 0 27 (.slice (some ⟨b1,o1,none⟩) len c1) (Pl.q1) (Pl.q2 (.tmp 0)) aa ?_;refine Pl.q0 1 28 (.int .i64 (j:Int)) (Pl.q1) (Pl.q2 (.tmp 4)) aa ?_;refine Pl.q0 2 29 (.pointer (some ⟨b1,o1+j*12,none⟩)) (Pl.q1) (Pl.qa 25 (.tmp 27) (.tmp 28) (Zcz b1 o1 len c1 j hj)) aa ?_;refine Pl.q0 3 30 (.pointer (some ⟨b1,o1+j*12+1,none⟩)) (Pl.q1) (Pl.q6 65 (.tmp 29) 1 (fdU1 b1 (o1+j*12))) aa ?_;refine Pl.q0 4 31 (.int .i64 x.u.no) (Pl.q1) (Pl.q4 3 (.tmp 30) (fun w' hS=>Zdl (hx.keep hS (Nat.le_refl _)).c1)) aa ?_;refine Pl.q0 5 32 (.slice (some ⟨b1,o1,none⟩) len c1) (Pl.q1) (Pl.q2 (.tmp 0)) aa ?_;refine Pl.q0 6 33 (.int .i64 (k:Int)) (Pl.q1) (Pl.q2 (.tmp 3)) aa ?_;refine Pl.q0 7 34 (.pointer (some ⟨b1,o1+k*12,none⟩)) (Pl.q1) (Pl.qa 25 (.tmp 32) (.tmp 33) (Zcz b1 o1 len c1 k hk)) aa ?_;refine Pl.q0 8 35 (.pointer (some ⟨b1,o1+k*12+1,none⟩)) (Pl.q1) (Pl.q6 65 (.tmp 34) 1 (fdU1 b1 (o1+k*12))) aa ?_;refine Pl.q0 9 36 (.int .i64 y.u.no) (Pl.q1) (Pl.q4 3 (.tmp 35) (fun w' hS=>Zdl (hy.keep hS (Nat.le_refl _)).c1)) aa ?_;refine Pl.q0 10 37 (.bool false) (Pl.q1) (Pl.qc .eql 3 3 (.tmp 31) (.tmp 36) (.int .i64 x.u.no) (.int .i64 y.u.no) (ZrH _ _ _ _ h)) aa ?_;refine Pl.q8 (fun A' hA'=>?_);exact Pl.en hA' hA [27,28,29,30,31,32,33,34,35,36,37] (hend hA'.fn _ aa)
theorem Zos (a:Option Addr)(n cap:Nat)(l:List Ux)(w:World)(h:Us w a n l)(bs:n≤1000000) :
    Calls prog 38 #[.slice a n cap] w fun e w'=>e=.returned (.bool (MayU (uns l)))∧Bl w w':=by
  (have ax:Hi ((uns l).length=n):=by show _=_;rw [Zcd,h.len]);have HE:=Zh h;have H0:=Zh (Below.refl w.heap.size w);clear h;go_enter func38,ntmps38;go_wp2_with fail;go_loopw [3] (fun iv wr=>∃i:Nat,i≤n∧iv=.int .i64 (i:Nat)∧Hi (SeenU (uns l) i)∧Hi (Bl w wr)) (fun iv _=>n-(intOf iv).toNat)
  case atStart=>exact ⟨0,Nat.zero_le _,rfl,(fun j hj=>absurd hj (Nat.not_lt_zero _)),H0⟩
  case round =>
   obtain⟨i,hi,rfl,ak,af⟩:=hrel;rcases Nat.lt_or_ge i n with ag | bu
   · (have i1:(i:Int)<(n:Int):=by omega);have hr:=HE.o.keep af.o (Nat.le_refl _);obtain⟨b1,off,rfl,be⟩:=hr.at' i ag;have ah:=hr.mem ag;have aa:=hr.cols _ ah;have bq:=Zh (hr.fits _ ah);have bp:(uns l).getD i zeroU=(l.getD i Ux.zero).u:=Zbz l i;generalize l.getD i Ux.zero=y at *;have bd:=Zh (Zbm b1 (off+i*12) y _ be);have bi:=Zh be;have am:=Zh aa;have ab:=Zh bp;clear be hr bp ah;cases hon:y.u.emp with
     | true =>
      have aw:=Zh (ZcY hon _ aa);have HN:Hi (SeenU (uns l) (i+1)):=by
       intro j hj;by_cases e:j=i
       · rw [e,ab.o];exact .inl hon
       · exact ak.o j (by omega)
      clear ak ab hon aa;go_wp2_with (refine Zah _ rfl 65 (.tmp 13) rfl (.pointer (some ⟨b1,off+i*12,none⟩)) y.val rfl bd.o ?_);refine aw.o.mono ?_;rintro e w1 ⟨rfl,ae⟩;have al:=Zh (Zac af.o ae);clear ae;go_wp2;go_roundw;exact ⟨i+1,by omega,by go_num,HN,al⟩;simp only [intOf];omega
     | false =>
      have aw:=Zh (ZcY hon _ aa);have bj:=Zh hon;clear hon aa;go_wp2_with (refine Zah _ rfl 65 (.tmp 13) rfl (.pointer (some ⟨b1,off+i*12,none⟩)) y.val rfl bd.o ?_);refine aw.o.mono ?_;rintro e w1 ⟨rfl,ae⟩;have al:=Zh (Zac af.o ae);have ad:=Zh (Zbm b1 (off+i*12) y w1 (bi.o.keep ae (Nat.le_refl _)));have ai:=Zh (ZiF y.u y.a y.n y.c w1 (am.o.keep ae (Nat.le_refl _)) bq.o.row);have au:y.u.val (.slice y.a y.n y.c)=y.val:=rfl;rw [au] at ai;clear ae au bd aw bi am;cases hmy:y.u.may with
      | false =>
       rw [hmy] at ai;have HN:Hi (MayU (uns l)=false):=Zia (i:=i) (by rw [ax.o];exact ag) (by rw [ab.o];exact bj.o) (.inl (by rw [ab.o];exact hmy));clear hmy;go_wp2_with (refine Zah _ rfl 65 (.tmp 18) rfl (.pointer (some ⟨b1,off+i*12,none⟩)) y.val rfl ad.o ?_);refine ai.o.mono ?_;rintro e w2 ⟨rfl,ap⟩;have bb:=Zh (Zac al.o ap);clear ap;go_wp2;go_ret;exact⟨by rw [HN.o];rfl,bb.o⟩
      | true =>
       rw [hmy] at ai;have br:=Zh hmy;clear hmy;go_wp2_with (refine Zah _ rfl 65 (.tmp 18) rfl (.pointer (some ⟨b1,off+i*12,none⟩)) y.val rfl ad.o ?_);refine ai.o.mono ?_;rintro e w2 ⟨rfl,ap⟩;have bb:=Zh (Zac al.o ap);clear ap ai ad al;go_wp2_with fail;go_loopw [4] (fun jv ws=>∃j:Nat,j≤i∧jv=.int .i64 (j:Nat)∧Hi (∀t,t<j→((uns l).getD t zeroU).no≠y.u.no)∧Hi (Bl w ws)) (fun jv _=>i-(intOf jv).toNat)
       case atStart=>exact ⟨0,Nat.zero_le _,rfl,(fun t ht=>absurd ht (Nat.not_lt_zero _)),bb⟩
       case round =>
        obtain⟨j,hj,rfl,az,ay⟩:=hrel;rcases Nat.lt_or_ge j i with bt | bv
        · (have j1:(j:Int)<(i:Int):=by omega);have bf:=HE.o.keep ay.o (Nat.le_refl _);obtain⟨b2,o2,bl,an⟩:=bf.at' j (by omega);obtain⟨b3,o3,ar,ao⟩:=bf.at' i ag;have bo:(uns l).getD j zeroU=(l.getD j Ux.zero).u:=Zbz l j;have av:(uns l).getD i zeroU=(l.getD i Ux.zero).u:=Zbz l i;generalize l.getD j Ux.zero=x at *;generalize l.getD i Ux.zero=y3 at *;simp only [Option.some.injEq,Addr.mk.injEq,and_true] at bl ar;obtain⟨rfl,rfl⟩:=bl;obtain⟨rfl,rfl⟩:=ar;have ba:y3.u=y.u:=av.symm.trans ab.o;have bg:=Zh an;have bh:=Zh ao;have bk:=Zh bo;clear an ao bo av bf;go_wp2_with fail;refine Pl.q9 (ops:=Pl.fd 10 f38) ?_;by_cases aj:x.u.no=y3.u.no
          · refine ZqW _ _ b1 off cap n i j ag (by omega) x y3 bg.o bh.o aj (Below.refl _ _) (by rfl) (by rfl) (by rfl) (by rfl) (by rfl) ?_;intro u w4 aq;simp only [Pl.pu,List.foldl,Act.put,List.setIfInBounds_toArray,List.set];have bc:=Zh (Zac ay.o aq);have HN:Hi (MayU (uns l)=false):=Zia (i:=i) (by rw [ax.o];exact ag) (by rw [ab.o];exact bj.o) (.inr ⟨j,bt,by rw [bk.o,ab.o,aj,ba]⟩);clear aq aj ba;go_wp2;go_ret;exact⟨by rw [HN.o];rfl,bc.o⟩
          · refine ZqV _ _ b1 off cap n i j ag (by omega) x y3 bg.o bh.o aj (Below.refl _ _) (by rfl) (by rfl) (by rfl) (by rfl) (by rfl) ?_;intro u w4 aq;simp only [Pl.pu,List.foldl,Act.put,List.setIfInBounds_toArray,List.set];have bc:=Zh (Zac ay.o aq);have HN:Hi (∀t,t<j+1→((uns l).getD t zeroU).no≠y.u.no):=by
             intro t ht;by_cases e:t=j
             · rw [e,bk.o,← ba];exact aj
             · exact az.o t (by omega)
            clear aq aj ba az;go_wp2;go_roundw;exact ⟨j+1,by omega,by go_num,HN,bc⟩;simp only [intOf];omega
        · (have j1:¬(j:Int)<(i:Int):=by omega);have HN:Hi (SeenU (uns l) (i+1)):=by
           intro t ht;by_cases e:t=i
           · rw [e,ab.o];exact .inr ⟨br.o,fun q hq=>az.o q (by omega)⟩
           · exact ak.o t (by omega)
          clear az ak;go_wp2;go_roundw;exact ⟨i+1,by omega,by go_num,HN,ay⟩;simp only [intOf];omega
   · (have i1:¬(i:Int)<(n:Int):=by omega);(have bm:i=n:=by omega);(have bn:SeenU (uns l) (uns l).length:=by rw [ax.o,← bm];exact ak.o);(have ac:MayU (uns l)=(decide (6≤n) && decide (n≤378) && decide (n % 6=0)):=by rw [Zo0 bn,ax.o];rfl);(have bw:(n:Int).tmod 6=((n % 6:Nat):Int):=by rw [Int.ofNat_tmod];rfl);clear ak bn bm;by_cases h6:6≤n
     · (have h6':(6:Int)≤(n:Int):=by omega);by_cases h7:n≤378
       · (have h7':(n:Int)≤378:=by omega);by_cases hm:n % 6=0
         · (have hm':((((n % 6:Nat):Int)) == 0)=true:=by simp [hm]);(have HN:Hi (MayU (uns l)=true):=by show _=_;rw [ac];simp [h6,h7,hm]);(have HM:Hi (((n:Int) % 6 == 0)=true):=by show _=_;simp;omega);clear h6 h7 hm ac;go_wp2;go_ret;refine⟨?_,af.o⟩;rw [HN.o,← HM.o];rfl
         · have hm':((((n % 6:Nat):Int)) == 0)=false:=beq_eq_false_iff_ne.2 (by omega);(have HN:Hi (MayU (uns l)=false):=by show _=_;rw [ac];simp [hm]);have HM:Hi (((n:Int) % 6 == 0)=false):=beq_eq_false_iff_ne.2 (by omega);clear h6 h7 hm ac;go_wp2;go_ret;refine⟨?_,af.o⟩;rw [HN.o,← HM.o];rfl
       · (have h7':¬(n:Int)≤378:=by omega);(have HN:Hi (MayU (uns l)=false):=by show _=_;rw [ac];simp [h7]);clear h6 h7 ac;go_wp2;go_ret;exact⟨by rw [HN.o];rfl,af.o⟩
     · (have h6':¬(6:Int)≤(n:Int):=by omega);(have HN:Hi (MayU (uns l)=false):=by show _=_;rw [ac];simp [h6]);clear h6 ac;go_wp2;go_ret;exact⟨by rw [HN.o];rfl,af.o⟩
structure Bz where
  t:Tbl
  es:Sl
  cs:Sl
  ux:List Ux
  ls:Sl
  lb:List Lb
def Bz.b (z:Bz):Bse:=⟨z.t,uns z.ux,lfs z.lb⟩
def Bz.val (z:Bz):Value:=.agg #[.int .i64 z.t.nx,.int .i64 z.t.no,.int .i64 z.t.cm,.slice z.es.a z.es.len z.es.cap,.slice z.cs.a z.cs.len z.cs.cap,.slice z.ls.a z.ls.len z.ls.cap]
structure Bin (w:World) (z:Bz):Prop where
  es:Es w z.es z.t.es
  cs:Us w z.cs.a z.cs.len z.ux
  cb:z.cs.len≤1000
  ls:Gl (fun _=>True) w z.ls z.lb
theorem Bin.keep {z:Bz}(h:Bin w z)(hb:Bl w w'):Bin w' z:=⟨h.es.keep hb (Nat.le_refl _),h.cs.keep hb (Nat.le_refl _),h.cb,h.ls.below hb (Nat.le_refl _)⟩
def BsBlk (w:World) (p:Nat) (z:Bz):Prop:=w.heap[p]? = some (Obj.cells #[.int .i64 z.t.nx,.int .i64 z.t.no,.int .i64 z.t.cm,.slice z.es.a z.es.len z.es.cap,.slice z.cs.a z.cs.len z.cs.cap,.slice z.ls.a z.ls.len z.ls.cap] 28 (0,0))
theorem BsBlk.lt {z:Bz}(h:BsBlk w p z):p<w.heap.size:=(Array.getElem?_eq_some_iff.1 h).1
theorem ZaU (w:World)(z:Bz):BsBlk (w.alloc (.cells #[.int .i64 z.t.nx,.int .i64 z.t.no,.int .i64 z.t.cm,.slice z.es.a z.es.len z.es.cap,.slice z.cs.a z.cs.len z.cs.cap,.slice z.ls.a z.ls.len z.ls.cap] 28)) w.heap.size z:=heap_alloc_new w _
theorem BsBlk.keep {z:Bz}(h:BsBlk w p z)(hb:Bl w w'):BsBlk w' p z:=(hb.block p h.lt).trans h
theorem BsBlk.frm {F:Nat→Prop}{z:Bz}(h:BsBlk w p z)(hf:Frm F w w')(hn:¬F p):BsBlk w' p z:=(hf.block p h.lt hn).trans h
theorem BsBlk.c0 {z:Bz}(h:BsBlk w p z):w.cell? ⟨p,0,none⟩=some (.int .i64 z.t.nx):=by unfold BsBlk at h;simp [World.cell?,h]
theorem BsBlk.c1 {z:Bz}(h:BsBlk w p z):w.cell? ⟨p,1,none⟩=some (.int .i64 z.t.no):=by unfold BsBlk at h;simp [World.cell?,h]
theorem BsBlk.c2 {z:Bz}(h:BsBlk w p z):w.cell? ⟨p,2,none⟩=some (.int .i64 z.t.cm):=by unfold BsBlk at h;simp [World.cell?,h]
theorem BsBlk.c3 {z:Bz}(h:BsBlk w p z):w.cell? ⟨p,3,none⟩=some (.slice z.es.a z.es.len z.es.cap):=by unfold BsBlk at h;simp [World.cell?,h]
theorem BsBlk.c4 {z:Bz}(h:BsBlk w p z):w.cell? ⟨p,4,none⟩=some (.slice z.cs.a z.cs.len z.cs.cap):=by unfold BsBlk at h;simp [World.cell?,h]
theorem BsBlk.c5 {z:Bz}(h:BsBlk w p z):w.cell? ⟨p,5,none⟩=some (.slice z.ls.a z.ls.len z.ls.cap):=by unfold BsBlk at h;simp [World.cell?,h]
theorem BsBlk.fz {z:Bz}(h:BsBlk w p z)(o:Nat):w.frozen? ⟨p,o,none⟩=false:=frozen_of_row w p _ _ 28 h
theorem Zg4 {z:Bz}(h:BsBlk w p z):(Instr.loadAt 28 (.pointer (some ⟨p,0,none⟩))).run prog w=.ok z.val w:=by
 have h0:=h.c0;have h1:=h.c1;have h2:=h.c2;have h3:=h.c3;have h4:=h.c4;have h5:=h.c5;simp [go_sem,h0,h1,h2,h3,h4,h5,Bz.val]
theorem Zof {z:Bz}(h:BsBlk w p z):(Instr.loadAt 24 (.pointer (some ⟨p,0,none⟩))).run prog w=.ok (z.t.val z.es) w:=by
 have h0:=h.c0;have h1:=h.c1;have h2:=h.c2;have h3:=h.c3;simp [go_sem,h0,h1,h2,h3,Tbl.val]
theorem ZrJ (p:Nat)(w:World):(Instr.fieldAt 28 (.pointer (some ⟨p,0,none⟩)) 0).run prog w=.ok (.pointer (some ⟨p,0,none⟩)) w:=by simp [go_sem,Instr.fieldAt]
theorem Zpp (p:Nat)(w:World):(Instr.fieldAt 28 (.pointer (some ⟨p,0,none⟩)) 1).run prog w=.ok (.pointer (some ⟨p,4,none⟩)) w:=by simp [go_sem,Instr.fieldAt]
theorem Zpq (p:Nat)(w:World):(Instr.fieldAt 28 (.pointer (some ⟨p,0,none⟩)) 2).run prog w=.ok (.pointer (some ⟨p,5,none⟩)) w:=by simp [go_sem,Instr.fieldAt]
theorem ZqI (p o:Nat)(w:World):(Instr.fieldAt 65 (.pointer (some ⟨p,o,none⟩)) 4).run prog w=.ok (.pointer (some ⟨p,o+4,none⟩)) w:=by simp [go_sem,Instr.fieldAt,Addr.add_lit]
theorem ldCs (h:w.cell? ⟨p,o,none⟩=some (.slice a n c)):(Instr.loadAt 25 (.pointer (some ⟨p,o,none⟩))).run prog w=.ok (.slice a n c) w:=by simp [go_sem,h]
theorem ldLs (h:w.cell? ⟨p,o,none⟩=some (.slice a n c)):(Instr.loadAt 26 (.pointer (some ⟨p,o,none⟩))).run prog w=.ok (.slice a n c) w:=by simp [go_sem,h]
theorem Us.mz {l:List Ux}(h:Us w a n l){x:Ux}(hx:x∈l∨x=Ux.zero):Fs w x.a x.n x.c x.u.row.xs∧x.u.fits:=by
 rcases hx with hx | rfl
 · exact⟨h.cols x hx,h.fits x hx⟩
 · exact⟨Zc9 _,Zc6⟩
theorem ZpY (a:Option Addr)(n cap:Nat)(l:List Ux)(w:World)(h:Us w a n l)(al:n≤1000000)(c:Int) :
    Calls prog 120 #[.slice a n cap,.int .i64 c] w fun e w'=>∃x:Ux,e=.returned x.val∧x.u=atU (uns l) c∧(x∈l∨x=Ux.zero)∧Bl w w':=by
  (have ah:Hi ((uns l).length=n):=by show _=_;rw [Zcd,h.len]);have HA:=Zh (Zab w (.cells #[.int .i64 0,.int .i64 0,.int .i64 0,.int .i64 0,.int .i64 0,.int .i64 0,.float .f64 0,.bool false,.slice none 0 0,.int .i64 0,.int .i64 0,.int .i64 0] 65));have HZ:Hi (UnBlk (w.alloc (.cells #[.int .i64 0,.int .i64 0,.int .i64 0,.int .i64 0,.int .i64 0,.int .i64 0,.float .f64 0,.bool false,.slice none 0 0,.int .i64 0,.int .i64 0,.int .i64 0] 65)) w.heap.size zeroU (.slice none 0 0)):=Zbn w zeroU _;have HE:=Zh h;clear h;go_enter func120,ntmps120;go_wp2_with fail;go_loopw [5] (fun iv wr=>∃i:Nat,i≤n∧iv=.int .i64 (i:Nat)∧Hi (∀j:Nat,j<i→(j:Int)+1≠c)∧Hi (UnBlk wr w.heap.size zeroU (.slice none 0 0))∧Hi (Bl w wr)) (fun iv _=>n-(intOf iv).toNat)
  case atStart=>exact ⟨0,Nat.zero_le _,rfl,(fun j hj=>absurd hj (Nat.not_lt_zero _)),HZ,HA⟩
  case round =>
   obtain⟨i,hi,rfl,ab,ac,ad⟩:=hrel;rcases Nat.lt_or_ge i n with ag | am
   · (have i1:(i:Int)<(n:Int):=by omega);by_cases hc:(i:Int)+1=c
     · (have hq:((i:Int)+1 == c)=true:=by simp [hc]);(have ae:Hi (atU (uns l) c=(l.getD i Ux.zero).u):=by show _=_;rw [← hc,Zl2 _ (by rw [ah.o];exact ag),Zbz]);have aa:=HE.o.mem ag;have aj:=Zh aa;obtain⟨b1,off,rfl,ai⟩:=HE.o.at' i ag;generalize l.getD i Ux.zero=y at *;have ak:=Zh (Zbm b1 (off+i*12) y _ (ai.keep ad.o (Nat.le_refl _)));have af:=Zh (Za1 ac.o y.u y.a y.n y.c);clear hc aa ai ab;go_wp2_with (first | refine Zah _ rfl 65 (.tmp 18) rfl (.pointer (some ⟨b1,off+i*12,none⟩)) y.val rfl ak.o ?_ | refine Zad _ rfl rfl 65 (.tmp 4) (.tmp 19) rfl (.pointer (some ⟨w.heap.size,0,none⟩)) y.val rfl rfl _ af.o ?_);refine Zja rfl ac.o y.u (.slice y.a y.n y.c) ⟨_,_,_,rfl⟩ (by rfl) (by rfl) ?_;exact⟨y,rfl,ae.o.symm,.inl aj.o,Zas ad.o (Nat.le_refl _) _ _⟩
     · have hq:((i:Int)+1 == c)=false:=beq_eq_false_iff_ne.2 hc;have HN:Hi (∀j:Nat,j<i+1→(j:Int)+1≠c):=fun j hj=>by
        by_cases e:j=i
        · rw [e];exact hc
        · exact ab.o j (by omega)
       clear hc ab;go_wp2;go_roundw;exact ⟨i+1,by omega,by go_num,HN,ac,ad⟩;simp only [intOf];omega
   · (have i1:¬(i:Int)<(n:Int):=by omega);have ae:Hi (atU (uns l) c=zeroU):=ZeC (by
      rw [ah.o];rintro ⟨h1,h2⟩;exact ab.o (c-1).toNat (by omega) (by omega))
     have af:=Zh (Za1 ac.o zeroU none 0 0);clear ab;go_wp2_with (refine Zad _ rfl rfl 65 (.tmp 4) (.tmp 20) rfl (.pointer (some ⟨w.heap.size,0,none⟩)) (zeroU.val (.slice none 0 0)) rfl rfl _ af.o ?_);refine Zja rfl ac.o zeroU (.slice none 0 0) ⟨_,_,_,rfl⟩ (by rfl) (by rfl) ?_;exact⟨Ux.zero,rfl,ae.o.symm,.inr rfl,Zas ad.o (Nat.le_refl _) _ _⟩
theorem Zor (a:Option Addr)(n cap:Nat)(l:List Ux)(w0 w:World)(h0:Us w0 a n l)(bp:Bl w0 w)(bm:n≤1000000)(c m:Int) :
    Calls prog 86 #[.slice a n cap,.agg #[.int .i64 c,.int .i64 m]] w fun e w'=>∃x:Ux,e=.returned (.tuple #[x.val,.bool (getU (uns l) c m).2])∧x.u=(getU (uns l) c m).1∧Col w0 w' x∧Bl w w':=by
  have h:=h0.keep bp (Nat.le_refl _);have bi:=Zh h0;clear h0 bp;have HA:=Zh (ZaA w (.cells #[.int .i64 c,.int .i64 m] 37) (.cells #[.int .i64 0,.int .i64 0,.int .i64 0,.int .i64 0,.int .i64 0,.int .i64 0,.float .f64 0,.bool false,.slice none 0 0,.int .i64 0,.int .i64 0,.int .i64 0] 65));have bn:=Zbn (w.alloc (.cells #[.int .i64 c,.int .i64 m] 37)) zeroU (.slice none 0 0);rw [show (w.alloc (.cells #[.int .i64 c,.int .i64 m] 37)).heap.size=w.heap.size+1 by simp] at bn;have bl:Hi (UnBlk ((w.alloc (.cells #[.int .i64 c,.int .i64 m] 37)).alloc (.cells #[.int .i64 0,.int .i64 0,.int .i64 0,.int .i64 0,.int .i64 0,.int .i64 0,.float .f64 0,.bool false,.slice none 0 0,.int .i64 0,.int .i64 0,.int .i64 0] 65)) (w.heap.size+1) zeroU (.slice none 0 0)):=bn;have au:Hi (((w.alloc (.cells #[.int .i64 c,.int .i64 m] 37)).alloc (.cells #[.int .i64 0,.int .i64 0,.int .i64 0,.int .i64 0,.int .i64 0,.int .i64 0,.float .f64 0,.bool false,.slice none 0 0,.int .i64 0,.int .i64 0,.int .i64 0] 65)).heap[w.heap.size]? = some (.cells #[.int .i64 c,.int .i64 m] 37)):=by
   show _=_;have h1:=heap_alloc_new w (.cells #[.int .i64 c,.int .i64 m] 37);have h2:=(Zab (w.alloc (.cells #[.int .i64 c,.int .i64 m] 37)) (.cells #[.int .i64 0,.int .i64 0,.int .i64 0,.int .i64 0,.int .i64 0,.int .i64 0,.float .f64 0,.bool false,.slice none 0 0,.int .i64 0,.int .i64 0,.int .i64 0] 65)).block w.heap.size (by simp);exact h2.trans h1
  have bj:Hi (∀w',Bl w w'→Calls prog 120 #[.slice a n cap,.int .i64 c] w' fun e w''=>∃x:Ux,e=.returned x.val∧x.u=atU (uns l) c∧(x∈l∨x=Ux.zero)∧Bl w' w''):=fun w' hb=>ZpY a n cap l w' (h.keep hb (Nat.le_refl _)) bm c;have HE:=Zh h;clear h bn;cases hem:(atU (uns l) c).emp with
  | true =>
   (have hg:getU (uns l) c m=(zeroU,false):=by unfold getU;rw [if_pos (.inl hem)]);rw [hg];simp only;have bh:=Zh hem;clear hg hem;go_enter func86,ntmps86;go_wp2_with fail;refine(bj.o _ HA.o).mono ?_;rintro e w2 ⟨x,rfl,ak,aj,ag⟩;have ac:=(HE.o.mz aj).1;have af:Hi (∀b off,x.a=some ⟨b,off,none⟩→0<x.n→b<w0.heap.size):=fun b off ha hn=>by
    obtain⟨b2,off2,be,bf,_,_⟩:=(bi.o.mz aj).1.at 0 hn;rw [be] at ha;cases ha;exact World.block_lt_of_cell? _ _ bf
   have bb:=Zh ak;have ai:Hi (∀b off,x.a=some ⟨b,off,none⟩→0<x.n→b<w.heap.size):=fun b off ha hn=>by
    obtain⟨b',off',ha',hc,_,_⟩:=ac.at 0 hn;rw [ha'] at ha;cases ha;exact World.block_lt_of_cell? _ _ hc
   have aw:=Zh (Zac HA.o ag);have bc:=Zh (bl.o.keep ag);have ap:=(ag.block w.heap.size (Array.getElem?_eq_some_iff.1 au.o).1).trans au.o;(have r1:w2.cell? ⟨w.heap.size,1,none⟩=some (.int .i64 m):=by rw [cell_of_row _ _ _ _ _ _ ap];rfl);obtain⟨W3,ad,aa,ah⟩:=ZdV w2 x;have az:=Zh ad;have am:=Zh (Zac aw.o ah);have bd:=Zh (bc.o.keep ah);have al:=Zh aa;have ar:=Zh (ac.keep am.o (Nat.le_refl _));have an:=Zh (ZbV _ x.u (.slice x.a x.n x.c) ⟨_,_,_,rfl⟩ W3 aa);have ay:=Zh (ZcY (m:=true) (by rw [ak];exact bh.o) W3 ar.o);have u1:=(ah.cell (p:=⟨w.heap.size,1,none⟩) (World.block_lt_of_cell? _ _ r1)).trans r1;have ab:x.u.val (.slice x.a x.n x.c)=x.val:=rfl;rw [ab] at an;clear ak aj ac ag ap r1 ad aa ah ab;go_wp2_with (first | refine Zad _ rfl rfl 65 (.tmp 6) (.tmp 10) rfl (.pointer (some ⟨w2.heap.size,0,none⟩)) x.val rfl rfl W3 az.o ?_ | refine Zah _ rfl 65 (.tmp 6) rfl (.pointer (some ⟨w2.heap.size,0,none⟩)) x.val rfl an.o ?_);refine ay.o.mono ?_;rintro e w4 ⟨rfl,ae⟩;have ao:=Zh (bd.o.keep ae);have ba:=Zh (Za1 ao.o zeroU none 0 0);have ax:=Zh (Zac am.o ae);clear ae;go_wp2_with (refine Zad _ rfl rfl 65 (.tmp 4) (.tmp 20) rfl (.pointer (some ⟨w.heap.size+1,0,none⟩)) (zeroU.val (.slice none 0 0)) rfl rfl _ ba.o ?_);refine ZcQ rfl ao.o zeroU (.slice none 0 0) (.bool false) ⟨_,_,_,rfl⟩ (by rfl) (by rfl) (by rfl) ?_;exact⟨Ux.zero,rfl,rfl,Col.zero _ _,Zas ax.o (Nat.le_succ _) _ _⟩
  | false =>
   have bh:=Zh hem;by_cases av:(atU (uns l) c).no=m
   · (have hg:getU (uns l) c m=(atU (uns l) c,true):=by unfold getU;rw [if_neg (by rw [hem];simp [av])]);rw [hg];simp only;have bk:=Zh av;clear hg hem av;go_enter func86,ntmps86;go_wp2_with fail;refine(bj.o _ HA.o).mono ?_;rintro e w2 ⟨x,rfl,ak,aj,ag⟩;have ac:=(HE.o.mz aj).1;have af:Hi (∀b off,x.a=some ⟨b,off,none⟩→0<x.n→b<w0.heap.size):=fun b off ha hn=>by
      obtain⟨b2,off2,be,bf,_,_⟩:=(bi.o.mz aj).1.at 0 hn;rw [be] at ha;cases ha;exact World.block_lt_of_cell? _ _ bf
     have bb:=Zh ak;have ai:Hi (∀b off,x.a=some ⟨b,off,none⟩→0<x.n→b<w.heap.size):=fun b off ha hn=>by
      obtain⟨b',off',ha',hc,_,_⟩:=ac.at 0 hn;rw [ha'] at ha;cases ha;exact World.block_lt_of_cell? _ _ hc
     have aw:=Zh (Zac HA.o ag);have bc:=Zh (bl.o.keep ag);have ap:=(ag.block w.heap.size (Array.getElem?_eq_some_iff.1 au.o).1).trans au.o;(have r1:w2.cell? ⟨w.heap.size,1,none⟩=some (.int .i64 m):=by rw [cell_of_row _ _ _ _ _ _ ap];rfl);obtain⟨W3,ad,aa,ah⟩:=ZdV w2 x;have az:=Zh ad;have am:=Zh (Zac aw.o ah);have bd:=Zh (bc.o.keep ah);have al:=Zh aa;have ar:=Zh (ac.keep am.o (Nat.le_refl _));have an:=Zh (ZbV _ x.u (.slice x.a x.n x.c) ⟨_,_,_,rfl⟩ W3 aa);have ay:=Zh (ZcY (m:=false) (by rw [ak];exact bh.o) W3 ar.o);have u1:=(ah.cell (p:=⟨w.heap.size,1,none⟩) (World.block_lt_of_cell? _ _ r1)).trans r1;have ab:x.u.val (.slice x.a x.n x.c)=x.val:=rfl;rw [ab] at an;clear ak aj ac ag ap r1 ad aa ah ab;go_wp2_with (first | refine Zad _ rfl rfl 65 (.tmp 6) (.tmp 10) rfl (.pointer (some ⟨w2.heap.size,0,none⟩)) x.val rfl rfl W3 az.o ?_ | refine Zah _ rfl 65 (.tmp 6) rfl (.pointer (some ⟨w2.heap.size,0,none⟩)) x.val rfl an.o ?_);refine ay.o.mono ?_;rintro e w4 ⟨rfl,ae⟩;have ao:=Zh (bd.o.keep ae);have aq:=al.o.keep ae;have y1:=aq.c1;have bo:=Zh (ZbV _ x.u (.slice x.a x.n x.c) ⟨_,_,_,rfl⟩ w4 aq);have bg:x.u.val (.slice x.a x.n x.c)=x.val:=rfl;rw [bg] at bo;have ba:=Zh (Za1 ao.o x.u x.a x.n x.c);have v1:=(ae.cell (p:=⟨w.heap.size,1,none⟩) (World.block_lt_of_cell? _ _ u1)).trans u1;have ax:=Zh (Zac am.o ae);have bq:=Zh ((ar.o.keep ae (Nat.le_refl _)).sameU (W:=setUn w4 (w.heap.size+1) x.u (.slice x.a x.n x.c)) (fun b off ha hn=>Zfj _ _ _ _ _ (fun e=>by have:=ai.o b off ha hn;omega)));(have hq:(x.u.no == m)=true:=by rw [bb.o];simp [bk.o]);clear ae aq bg u1;go_wp2_with (first | refine Zah _ rfl 65 (.tmp 6) rfl (.pointer (some ⟨w2.heap.size,0,none⟩)) x.val rfl bo.o ?_ | refine Zad _ rfl rfl 65 (.tmp 4) (.tmp 21) rfl (.pointer (some ⟨w.heap.size+1,0,none⟩)) x.val rfl rfl _ ba.o ?_);refine ZcQ rfl ao.o x.u (.slice x.a x.n x.c) (.bool true) ⟨_,_,_,rfl⟩ (by rfl) (by rfl) (by rfl) ?_;exact⟨x,rfl,bb.o,⟨bq.o,fun b off ha hn=>.inl (af.o b off ha hn)⟩,Zas ax.o (Nat.le_succ _) _ _⟩
   · (have hg:getU (uns l) c m=(zeroU,false):=by unfold getU;rw [if_pos (.inr av)]);rw [hg];simp only;have bk:=Zh av;clear hg hem av;go_enter func86,ntmps86;go_wp2_with fail;refine(bj.o _ HA.o).mono ?_;rintro e w2 ⟨x,rfl,ak,aj,ag⟩;have ac:=(HE.o.mz aj).1;have af:Hi (∀b off,x.a=some ⟨b,off,none⟩→0<x.n→b<w0.heap.size):=fun b off ha hn=>by
      obtain⟨b2,off2,be,bf,_,_⟩:=(bi.o.mz aj).1.at 0 hn;rw [be] at ha;cases ha;exact World.block_lt_of_cell? _ _ bf
     have bb:=Zh ak;have ai:Hi (∀b off,x.a=some ⟨b,off,none⟩→0<x.n→b<w.heap.size):=fun b off ha hn=>by
      obtain⟨b',off',ha',hc,_,_⟩:=ac.at 0 hn;rw [ha'] at ha;cases ha;exact World.block_lt_of_cell? _ _ hc
     have aw:=Zh (Zac HA.o ag);have bc:=Zh (bl.o.keep ag);have ap:=(ag.block w.heap.size (Array.getElem?_eq_some_iff.1 au.o).1).trans au.o;(have r1:w2.cell? ⟨w.heap.size,1,none⟩=some (.int .i64 m):=by rw [cell_of_row _ _ _ _ _ _ ap];rfl);obtain⟨W3,ad,aa,ah⟩:=ZdV w2 x;have az:=Zh ad;have am:=Zh (Zac aw.o ah);have bd:=Zh (bc.o.keep ah);have al:=Zh aa;have ar:=Zh (ac.keep am.o (Nat.le_refl _));have an:=Zh (ZbV _ x.u (.slice x.a x.n x.c) ⟨_,_,_,rfl⟩ W3 aa);have ay:=Zh (ZcY (m:=false) (by rw [ak];exact bh.o) W3 ar.o);have u1:=(ah.cell (p:=⟨w.heap.size,1,none⟩) (World.block_lt_of_cell? _ _ r1)).trans r1;have ab:x.u.val (.slice x.a x.n x.c)=x.val:=rfl;rw [ab] at an;clear ak aj ac ag ap r1 ad aa ah ab;go_wp2_with (first | refine Zad _ rfl rfl 65 (.tmp 6) (.tmp 10) rfl (.pointer (some ⟨w2.heap.size,0,none⟩)) x.val rfl rfl W3 az.o ?_ | refine Zah _ rfl 65 (.tmp 6) rfl (.pointer (some ⟨w2.heap.size,0,none⟩)) x.val rfl an.o ?_);refine ay.o.mono ?_;rintro e w4 ⟨rfl,ae⟩;have ao:=Zh (bd.o.keep ae);have y1:=(al.o.keep ae).c1;have ba:=Zh (Za1 ao.o zeroU none 0 0);have v1:=(ae.cell (p:=⟨w.heap.size,1,none⟩) (World.block_lt_of_cell? _ _ u1)).trans u1;have ax:=Zh (Zac am.o ae);(have hq:(x.u.no == m)=false:=by rw [bb.o];exact beq_eq_false_iff_ne.2 bk.o);clear ae u1;go_wp2_with (refine Zad _ rfl rfl 65 (.tmp 4) (.tmp 20) rfl (.pointer (some ⟨w.heap.size+1,0,none⟩)) (zeroU.val (.slice none 0 0)) rfl rfl _ ba.o ?_);refine ZcQ rfl ao.o zeroU (.slice none 0 0) (.bool false) ⟨_,_,_,rfl⟩ (by rfl) (by rfl) (by rfl) ?_;exact⟨Ux.zero,rfl,rfl,Col.zero _ _,Zas ax.o (Nat.le_succ _) _ _⟩
theorem ColR.frm {W:World}{F:Nat→Prop}(h:ColR w0 w x)(hf:Frm F w W)(hF:∀k,F k→w0.heap.size≤k∧∃cs t,w.heap[k]? = some (Obj.cells cs t (0,0))∧t≠32):ColR w0 W x:=by
 have hn:∀b off,x.a=some ⟨b,off,none⟩→0<x.n→¬F b:=by
  intro b off ha h0 e;obtain⟨h1,cs,t,h2,h3⟩:=hF b e;rcases h.home b off ha h0 with e2 | ⟨C,fr,e2⟩
  · omega
  · rw [h2] at e2;simp only [Option.some.injEq,Obj.cells.injEq] at e2;exact h3 e2.2.1
 have hs:∀b off,x.a=some ⟨b,off,none⟩→0<x.n→W.heap[b]? = w.heap[b]?:=by
  intro b off ha h0;obtain⟨b',off',ha',hc,_,_⟩:=h.fs.at 0 h0;rw [ha'] at ha;cases ha;exact hf.block _ (World.block_lt_of_cell? _ _ hc) (hn _ _ ha' h0)
 refine⟨h.fs.same hs,fun b off ha h0=>?_⟩;rcases h.home b off ha h0 with e2 | ⟨C,fr,e2⟩
 · exact .inl e2
 · exact .inr ⟨C,fr,by rw [hs b off ha h0];exact e2⟩
theorem ColR.zero (w0 w:World):ColR w0 w Rx.zero:=⟨Zc9 w,fun _ _ _ hn=>absurd hn (Nat.lt_irrefl 0)⟩
theorem Col.colR {x:Ux}(h:Col w0 w x):ColR w0 w ⟨x.u.row,x.a,x.n,x.c⟩:=⟨h.fs,h.home⟩
theorem Own.frmT {e t:TypeId}{z:Nat}{s:Sl}{vs:List Value}{cs:Array Value}(h:Own e z w s vs)(hg:w.heap[g]? = some (Obj.cells cs t (0,0)))(he:e≠t)(hf:Frm (fun k=>k=g) w w'):Own e z w' s vs:=by
 refine Own.frame h (fun k hk=>hf.block k (Own.lt h hk) (fun e2=>?_));obtain⟨c,hc⟩:=Own.kind h hk;rw [e2,hg] at hc;simp only [Option.some.injEq,Obj.cells.injEq] at hc;exact he hc.2.1.symm
theorem Zbb {fn:Func}{x a b:Nat}(hr:fn.results=#[.cell x 39,.tmp a,.tmp b,.tmp c]){W:World}{r:Rw}{ra:Option Addr}{rn rc:Nat}(h:RwBlk W g r (.slice ra rn rc))(tmps:Array Value)(u v t:Value)(tx:tmps.getD x undef=.pointer (some ⟨g,0,none⟩))(ta:tmps.getD a undef=u)(tb:tmps.getD b undef=v)(tc:tmps.getD c undef=t) :
    (results fn tmps).run prog W=.ok (.tuple #[r.val (.slice ra rn rc),u,v,t]) W:=by
  have c0:=h.c0;have c1:=h.c1;have c2:=h.c2;have c3:=h.c3;have c4:=h.c4;have c5:=h.c5;(have tx2:tmps[x]?.getD undef=.pointer (some ⟨g,0,none⟩):=by simpa using tx);(have ta2:tmps[a]?.getD undef=u:=by simpa using ta);(have tb2:tmps[b]?.getD undef=v:=by simpa using tb);(have tc2:tmps[c]?.getD undef=t:=by simpa using tc);simp [results,hr,tx2,ta2,tb2,tc2,go_sem,c0,c1,c2,c3,c4,c5,Rw.val]
def Zeq (w0 w:World) (o:Option Rw × List Int × Int) (e:Ending) (w':World):Prop:=Bl w w'∧∃(y:Rx) (q:Sl),e=.returned (.tuple #[y.val,.bool o.1.isSome,q.val,.int .i64 o.2.2])∧y.r=o.1.getD zeroR∧ColR w0 w' y∧y.r.fits∧Gi (fun k=>w.heap.size≤k) w' q o.2.1
structure SeI (w0 w wr:World) (z:Bz) (v:Vw) (vs:Sl) (x0:Rw) (i:Nat) (q:Sl) (x:Rx) (pre:List Int):Prop where
  bs:BsBlk wr w.heap.size z
  vw:ZaG wr (w.heap.size+1) v vs
  row:RwBlk wr (w.heap.size+1+1) x.r (.slice x.a x.n x.c)
  res:RwBlk wr (w.heap.size+1+1+1) zeroR (.slice none 0 0)
  col:ColR w0 wr x
  fit:x.r.fits
  nq:Nq w wr q pre
  len:pre.length=i
  look:(vnB (uns z.ux) v).look 400 x0=(((vnB (uns z.ux) v).look (400-i) x.r).1,pre ++ ((vnB (uns z.ux) v).look (400-i) x.r).2.1,((vnB (uns z.ux) v).look (400-i) x.r).2.2)
theorem SeI.keep {z:Bz}(h:SeI w0 w wr z v vs x0 i q x pre)(hb:Bl wr w'):SeI w0 w w' z v vs x0 i q x pre:=
 ⟨h.bs.keep hb,h.vw.keep hb,h.row.keep hb,h.res.keep hb,h.col.keep hb,h.fit,h.nq.keep hb,h.len,h.look⟩
theorem SeI.qlen {z:Bz}(h:SeI w0 w wr z v vs x0 i q x pre):q.len=i:=by
 have:=OwnN.len h.nq.own;rw [← this];exact h.len
structure SeJ (w0 w wr:World) (z:Bz) (v:Vw) (vs:Sl) (x0:Rw) (i:Nat) (q:Sl) (x:Rx) (pre:List Int):Prop where
  bs:BsBlk wr w.heap.size z
  vw:ZaG wr (w.heap.size+1) v vs
  row:RwBlk wr (w.heap.size+1+1) x.r (.slice x.a x.n x.c)
  res:RwBlk wr (w.heap.size+1+1+1) zeroR (.slice none 0 0)
  col:ColR w0 wr x
  nq:Nq w wr q (pre ++ [x.r.wr])
  len:pre.length=i
  look:(vnB (uns z.ux) v).look 400 x0=(((vnB (uns z.ux) v).look (400-i) x.r).1,pre ++ ((vnB (uns z.ux) v).look (400-i) x.r).2.1,((vnB (uns z.ux) v).look (400-i) x.r).2.2)
theorem SeJ.keep {z:Bz}(h:SeJ w0 w wr z v vs x0 i q x pre)(hb:Bl wr w'):SeJ w0 w w' z v vs x0 i q x pre:=
 ⟨h.bs.keep hb,h.vw.keep hb,h.row.keep hb,h.res.keep hb,h.col.keep hb,h.nq.keep hb,h.len,h.look⟩
theorem Nq.not {t:List Int}(h:Nq w wr q t){cs:Array Value}{ty:TypeId}(hg:wr.heap[g]? = some (Obj.cells cs ty (0,0)))(ht:ty≠3):¬q.blk=some g:=by
 intro e;obtain⟨c,hc⟩:=Own.kind h.own e;rw [hg] at hc;simp only [Option.some.injEq,Obj.cells.injEq] at hc;exact ht hc.2.1
theorem SeI.app {z:Bz}(h:SeI w0 w wr z v vs x0 i q x pre)(hi:i≤400)(hw:w0.heap.size≤w.heap.size) :
    ∃q' W,(∀ty,(Builtin.append_ #[29,29] ty #[q.val,.slice (some ⟨wr.heap.size,0,none⟩) 1 1]).run prog (wr.alloc (.cells #[.int .i64 x.r.wr] 3))=.ok q'.val W)∧SeJ w0 w W z v vs x0 i q' x pre∧Bl w W:=by
  have hb:=Zab wr (.cells #[.int .i64 x.r.wr] 3);have k:=h.keep hb;have hl:=h.qlen;obtain⟨q',W,ab,ac,aa,ad⟩:=k.nq.app ((ZoT wr x.r.wr).src) (by show q.len+1≤_;omega);have hB:Bl w W:=ac.below;refine⟨q',W,ab,⟨k.bs.frm aa (k.nq.not k.bs (by decide)),k.vw.frm aa (k.nq.not k.vw (by decide)),?_,?_,?_,ac,h.len,h.look⟩,hB⟩
  · exact(aa.block _ (Array.getElem?_eq_some_iff.1 k.row).1 (k.nq.not k.row (by decide))).trans k.row
  · exact(aa.block _ (Array.getElem?_eq_some_iff.1 k.res).1 (k.nq.not k.res (by decide))).trans k.res
  · exact k.col.frm aa (fun g hg=>⟨Nat.le_trans hw (k.nq.home g hg),by obtain ⟨c,hc⟩:=Own.kind k.nq.own hg;exact ⟨c,_,hc,by decide⟩⟩)
theorem SeJ.row_ {z:Bz}(h:SeJ w0 w wr z v vs x0 i q x pre)(hw:w0.heap.size≤w.heap.size)(hi:i<400)(y:Rx)(hc:ColR w0 wr y)(hf:y.r.fits)(hs:seesV v x.r.wr=false)(hn:nxB (uns z.ux) x.r=some (some y.r)) :
    ∃W,(Instr.storeAt 39 (.pointer (some ⟨w.heap.size+1+1,0,none⟩)) (y.r.val (.slice y.a y.n y.c))).run prog wr=.ok () W∧SeI w0 w W z v vs x0 (i+1) q y (pre ++ [x.r.wr])∧Bl w W:=by
  have aa:=ZaE wr (w.heap.size+1+1) y.r (.slice y.a y.n y.c);have ab:w.heap.size+2<wr.heap.size:=(Array.getElem?_eq_some_iff.1 h.row).1;have hB:Bl w (setRw wr (w.heap.size+1+1) y.r (.slice y.a y.n y.c)):=h.nq.below.trans (aa.below h.nq.below.size (fun k hk=>by rw [hk];omega));refine⟨_,Zen wr (w.heap.size+1+1) _ _ h.row y.r y.a y.n y.c,⟨h.bs.frm aa (by omega),h.vw.frm aa (by omega),Za5 h.row _ _,?_,?_,hf,⟨Own.frmT h.nq.own h.row (by decide) aa,h.nq.home,hB⟩,by rw [List.length_append,h.len];rfl,?_⟩,hB⟩
  · exact(aa.block _ (Array.getElem?_eq_some_iff.1 h.res).1 (by omega)).trans h.res
  · exact hc.frm aa (fun k hk=>by rw [hk];exact ⟨by omega,_,_,h.row,by decide⟩)
  · rw [h.look,show 400-i=(400-(i+1))+1 by omega,(vnB (uns z.ux) v).look_next (400-(i+1)) (r:=x.r) (q:=y.r) hs hn];show (_,pre ++ (x.r.wr :: _),_)=(_,(pre ++ [x.r.wr]) ++ _,_);rw [List.append_assoc];rfl
theorem Ze6 {t:List Int}(hq:Nq w wr q t)(aa:RwBlk wr (w.heap.size+1+1+1) zeroR (.slice none 0 0))(hw:w0.heap.size≤w.heap.size)(hl:q.len≤1000000)(y:Rx)(hc:ColR w0 wr y)(hf:y.r.fits){o:Option Rw × List Int × Int}(h1:y.r=o.1.getD zeroR)(h2:o.2.1=t) :
    ∃W,(Instr.storeAt 39 (.pointer (some ⟨w.heap.size+1+1+1,0,none⟩)) (y.r.val (.slice y.a y.n y.c))).run prog wr=.ok () W∧RwBlk W (w.heap.size+1+1+1) y.r (.slice y.a y.n y.c)∧Zeq w0 w o (.returned (.tuple #[y.r.val (.slice y.a y.n y.c),.bool o.1.isSome,q.val,.int .i64 o.2.2])) W:=by
  have ab:=ZaE wr (w.heap.size+1+1+1) y.r (.slice y.a y.n y.c);have hB:Bl w (setRw wr (w.heap.size+1+1+1) y.r (.slice y.a y.n y.c)):=hq.below.trans (ab.below hq.below.size (fun k hk=>by rw [hk];omega));refine⟨_,Zen wr (w.heap.size+1+1+1) _ _ aa y.r y.a y.n y.c,Za5 aa _ _,hB,y,q,rfl,h1,?_,hf,?_⟩
  · exact hc.frm ab (fun k hk=>by rw [hk];exact ⟨by omega,_,_,aa,by decide⟩)
  · rw [h2];exact OwnN.gi (Own.frmT hq.own aa (by decide) ab) hq.home hl
theorem Zhn {l:List Ux}(h:∀x∈l,x.u.fits)(c n:Int):(getU (uns l) c n).1.fits:=by
 have h0:∀u∈uns l,u.fits:=by
  intro u hu;obtain⟨x,hx,rfl⟩:=List.mem_map.1 hu;exact h x hx
 unfold getU;split
 · exact Zc6
 · show (atU (uns l) c).fits;by_cases hc:1≤c∧c≤(uns l).length
   · rw [Zl3 hc];(have hi:(c-1).toNat<(uns l).length:=by omega);rw [unget hi];exact h0 _ (List.getElem_mem hi)
   · rw [ZeC hc];exact Zc6
theorem ZfI (V:Vn Rw)(x:Rw):V.look 400 x=((V.look (400-0) x).1,[] ++ (V.look (400-0) x).2.1,(V.look (400-0) x).2.2):=rfl
theorem Zlk (w0 w:World)(hw:Bl w0 w)(z:Bz)(v:Vw)(s:Sl)(x:Rx)(hx:ColR w0 w x)(hf:x.r.fits) :
    ∃Wa Wb Wc W0,w.alloc (.cells #[.int .i64 z.t.nx,.int .i64 z.t.no,.int .i64 z.t.cm,.slice z.es.a z.es.len z.es.cap,.slice z.cs.a z.cs.len z.cs.cap,.slice z.ls.a z.ls.len z.ls.cap] 28)=Wa∧Wa.alloc (.cells #[.int .i64 v.self,.int .i64 v.next,s.val] 31)=Wb∧Wb.alloc (.cells #[.float .f64 x.r.key,.bool x.r.dead,.slice x.a x.n x.c,.int .i64 x.r.wr,.int .i64 x.r.cell,.int .i64 x.r.no] 39)=Wc∧Wc.alloc (.cells #[.float .f64 0,.bool false,.slice none 0 0,.int .i64 0,.int .i64 0,.int .i64 0] 39)=W0∧Wa.heap.size=w.heap.size+1∧Wb.heap.size=w.heap.size+1+1∧Wc.heap.size=w.heap.size+1+1+1∧W0.heap.size=w.heap.size+1+1+1+1∧SeI w0 w (W0.alloc (.cells #[] 3)) z v s x.r 0 ⟨some ⟨w.heap.size+1+1+1+1,0,none⟩,0,0⟩ x []:=by
  have ad:=Zab w (.cells #[.int .i64 z.t.nx,.int .i64 z.t.no,.int .i64 z.t.cm,.slice z.es.a z.es.len z.es.cap,.slice z.cs.a z.cs.len z.cs.cap,.slice z.ls.a z.ls.len z.ls.cap] 28);have b1:=ZaU w z;obtain⟨Wa,ha⟩:∃W,w.alloc (.cells #[.int .i64 z.t.nx,.int .i64 z.t.no,.int .i64 z.t.cm,.slice z.es.a z.es.len z.es.cap,.slice z.cs.a z.cs.len z.cs.cap,.slice z.ls.a z.ls.len z.ls.cap] 28)=W:=⟨_,rfl⟩;(have sa:Wa.heap.size=w.heap.size+1:=by rw [← ha];exact Zae _ _);rw [ha] at ad b1;have ac:=Zab Wa (.cells #[.int .i64 v.self,.int .i64 v.next,s.val] 31);have b2:=ZbJ Wa v s;obtain⟨Wb,hb⟩:∃W,Wa.alloc (.cells #[.int .i64 v.self,.int .i64 v.next,s.val] 31)=W:=⟨_,rfl⟩;(have sb:Wb.heap.size=w.heap.size+1+1:=by rw [← hb,Zae,sa]);rw [hb] at ac b2;rw [sa] at b2;have ab:=Zab Wb (.cells #[.float .f64 x.r.key,.bool x.r.dead,.slice x.a x.n x.c,.int .i64 x.r.wr,.int .i64 x.r.cell,.int .i64 x.r.no] 39);have b3:=Zai Wb x.r (.slice x.a x.n x.c);obtain⟨Wc,hc⟩:∃W,Wb.alloc (.cells #[.float .f64 x.r.key,.bool x.r.dead,.slice x.a x.n x.c,.int .i64 x.r.wr,.int .i64 x.r.cell,.int .i64 x.r.no] 39)=W:=⟨_,rfl⟩;(have sc:Wc.heap.size=w.heap.size+1+1+1:=by rw [← hc,Zae,sb]);rw [hc] at ab b3;rw [sb] at b3;have aa:=Zab Wc (.cells #[.float .f64 0,.bool false,.slice none 0 0,.int .i64 0,.int .i64 0,.int .i64 0] 39);have b4:RwBlk (Wc.alloc (.cells #[.float .f64 0,.bool false,.slice none 0 0,.int .i64 0,.int .i64 0,.int .i64 0] 39)) Wc.heap.size zeroR (.slice none 0 0):=Zai Wc zeroR (.slice none 0 0);obtain⟨W0,hd⟩:∃W,Wc.alloc (.cells #[.float .f64 0,.bool false,.slice none 0 0,.int .i64 0,.int .i64 0,.int .i64 0] 39)=W:=⟨_,rfl⟩;(have sd:W0.heap.size=w.heap.size+1+1+1+1:=by rw [← hd,Zae,sc]);rw [hd] at aa b4;rw [sc] at b4;have hA:=Zac ad (Zac ac (Zac ab aa));have hN:=Zab W0 (.cells #[] 3);have hq:=Nq.new0 hA;rw [sd] at hq;exact⟨Wa,Wb,Wc,W0,ha,hb,hc,hd,sa,sb,sc,sd,b1.keep (Zac ac (Zac ab (Zac aa hN))),b2.keep (Zac ab (Zac aa hN)),b3.keep (Zac aa hN),b4.keep hN,hx.keep (Zac hA hN),hf,hq,rfl,ZfI _ _⟩
theorem Zlh {D:Nat→Prop}(w0 w:World)(hw:Bl w0 w)(z:Bz)(h:Bin w0 z)(v:Vw)(s:Sl)(hv:Gi D w0 s v.act)(x:Rx)(hx:ColR w0 w x)(hf:x.r.fits) :
    Calls prog 42 #[z.val,vwV v s,x.val] w (Zeq w0 w ((vnB (uns z.ux) v).look 400 x.r)):=by
  obtain⟨Wa,Wb,Wc,W0,ha,hb,hc,hd,sa,sb,sc,sd,bd⟩:=Zlk w0 w hw z v s x hx hf;have av:=Zh bd;have HH:=Zh h;have HV:=Zh hv;have HW:=Zh hw;have an:w0.heap.size≤w.heap.size:=hw.size;have br:=Zh sd;have HA:=Zh ha;have HB:=Zh hb;have HC:=Zh hc;have HD:=Zh hd;obtain⟨x0,bk⟩:∃x0,x0=x.r:=⟨_,rfl⟩;rw [← bk] at av ⊢;have aw:Hi (z.cs.len≤1000):=h.cb;obtain⟨o,ho⟩:∃o,o=(vnB (uns z.ux) v).look 400 x0:=⟨_,rfl⟩;rw [← ho];have HO:=Zh ho;clear bd h hv hw hx hf bk ho ha hb hc hd sa sb sc sd;obtain⟨⟨xk,xd,xs,xw,xc,xn⟩,xa,xl,xcp⟩:=x;obtain⟨vs,vn,vt⟩:=v;obtain⟨sa,sn,sc⟩:=s;unfold vwV Rx.val Rw.val Bz.val;simp only [Sl.val] at *;go_enter func42,ntmps42;go_wp2_with fail;rw [HA.o,HB.o,HC.o,HD.o];clear HA HB HC HD;go_loopw [10,11] (fun sv iv wr=>∃(i:Nat) (q:Sl) (x:Rx) (pre:List Int),i≤400∧sv=q.val∧iv=.int .i64 (i:Nat)∧Hi (SeI w0 w wr z ⟨vs,vn,vt⟩ ⟨sa,sn,sc⟩ x0 i q x pre)) (fun _ iv _=>401-(intOf iv).toNat)
  case atStart=>exact ⟨0,_,_,_,Nat.zero_le _,rfl,rfl,av⟩
  case round =>
   clear av;obtain⟨i,⟨qa,qn,qc⟩,⟨⟨k0,k1,k2,k3,k4,k5⟩,ya,yl,yc⟩,pre,hi,rfl,rfl,ah⟩:=hrel;simp only [Sl.val];(have i1:(i:Int)≤400:=by omega);have g0:=ah.o.vw.c0;have g1:=ah.o.vw.c1;have g2:=ah.o.vw.c2;have r0:=ah.o.row.c0;have r1:=ah.o.row.c1;have r2:=ah.o.row.c2;have r3:=ah.o.row.c3;have r4:=ah.o.row.c4;have r5:=ah.o.row.c5;have z4:=ah.o.bs.c4;simp only [Sl.val] at g0 g1 g2 r0 r1 r2 r3 r4 r5 z4;have ar:=Zh (ZmT wr ⟨sa,sn,sc⟩ ⟨vs,vn,vt⟩ ((HV.o.below (Zac HW.o ah.o.nq.below) (Nat.le_refl _))) k3);unfold vwV at ar;simp only [Sl.val] at ar;go_wp2_with fail;refine ar.o.mono ?_;rintro e w1 ⟨rfl,be⟩;have H1:=Zh (ah.o.keep be);clear be ar ah g0 g1 g2 r0 r1 r2 r3 r4 r5 z4;have r0:=H1.o.row.c0;have r1:=H1.o.row.c1;have r2:=H1.o.row.c2;have r3:=H1.o.row.c3;have r4:=H1.o.row.c4;have r5:=H1.o.row.c5;have z4:=H1.o.bs.c4;simp only [Sl.val] at r0 r1 r2 r3 r4 r5 z4;(have bh:qn≤1000000:=by have h9:qn=i:=H1.o.qlen;omega);obtain⟨m,hm⟩:∃m,m=seesV ⟨vs,vn,vt⟩ k3:=⟨_,rfl⟩;rw [← hm];have HM:=Zh hm;clear hm;cases m with
   | true =>
    have ad:Hi (o=((if k1=true then none else some ⟨k0,k1,k2,k3,k4,k5⟩),pre,0)):=by
     show o=_;rw [HO.o,H1.o.look,(vnB (uns z.ux) ⟨vs,vn,vt⟩).look_seen (400-i) (r:=⟨k0,k1,k2,k3,k4,k5⟩) HM.o.symm,List.append_nil];rfl
    cases k1 with
    | true =>
     obtain⟨W,ag,ac,aa⟩:=Ze6 (o:=o) H1.o.nq H1.o.res an bh Rx.zero (ColR.zero _ _) ZaP (by rw [ad.o];rfl) (by rw [ad.o]);(have e1:o.1.isSome=false:=by rw [ad.o];rfl);(have e2:o.2.2=0:=by rw [ad.o]);rw [e1,e2] at aa;have af:=Zh ag;have ai:=Zh ac;have aj:=Zh aa;clear ag ac aa e1 e2 ad HM;simp only [Rx.zero,zeroR,Rw.val,Sl.val] at af ai aj;go_wp2_with (first | refine Zad _ rfl rfl 39 (.tmp 6) (.tmp 25) rfl (.pointer (some ⟨w.heap.size+1+1+1,0,none⟩)) (.agg #[.float .f64 0,.bool false,.slice none 0 0,.int .i64 0,.int .i64 0,.int .i64 0]) rfl rfl W af.o ?_);refine bodyPost_ret (Zbb rfl ai.o _ _ _ _ rfl rfl rfl rfl) rfl ?_;exact aj.o
    | false =>
     obtain⟨W,ag,ac,aa⟩:=Ze6 (o:=o) H1.o.nq H1.o.res an bh ⟨⟨k0,false,k2,k3,k4,k5⟩,ya,yl,yc⟩ H1.o.col H1.o.fit (by rw [ad.o];rfl) (by rw [ad.o]);(have e1:o.1.isSome=true:=by rw [ad.o];rfl);(have e2:o.2.2=0:=by rw [ad.o]);rw [e1,e2] at aa;have af:=Zh ag;have ai:=Zh ac;have aj:=Zh aa;clear ag ac aa e1 e2 ad HM;simp only [Rw.val,Sl.val] at af ai aj;go_wp2_with (first | refine Zad _ rfl rfl 39 (.tmp 6) (.tmp 27) rfl (.pointer (some ⟨w.heap.size+1+1+1,0,none⟩)) (.agg #[.float .f64 k0,.bool false,.slice ya yl yc,.int .i64 k3,.int .i64 k4,.int .i64 k5]) rfl rfl W af.o ?_);refine bodyPost_ret (Zbb rfl ai.o _ _ _ _ rfl rfl rfl rfl) rfl ?_;exact aj.o
   | false =>
    obtain⟨⟨q2a,q2n,q2c⟩,W2,ap,bj,bc⟩:=H1.o.app hi an;have al:=Zh ap;have H2:=Zh bj;simp only [Sl.val] at al;clear ap bj;have ba:=Zh bc;clear bc;have s4:=H2.o.row.c4;have s5:=H2.o.row.c5;have y4:=H2.o.bs.c4;simp only [Sl.val] at s4 s5 y4;have bb:=Zh (Zor z.cs.a z.cs.len z.cs.cap z.ux w0 W2 HH.o.cs (Zac HW.o ba.o) (by have:=aw.o;omega) k4 k5);go_wp2_with (first | refine Zbu _ rfl 29 (.tmp 29) (.tmp 32) rfl (.slice qa qn qc) (.slice (some ⟨w1.heap.size,0,none⟩) 1 1) rfl rfl _ W2 al.o ?_);refine bb.o.mono ?_;rintro e w3 ⟨xu,rfl,az,ao,bf⟩;obtain⟨W4,aq,ab,ay⟩:=ZdV w3 xu;have H4:=Zh ((H2.o.keep bf).keep ay);have au:=Zh ((ao.keep ay).colR);have ak:=Zh aq;have ax:=Zh az;have u3:=ab.c3;have u6:=ab.c6;have u7:=ab.c7;have u8:=ab.c8;have u9:=ab.c9;have u10:=ab.c10;have u11:=ab.c11;(have bm:Hi (xu.u.row.fits):=by show _;rw [az];exact (Zhn HH.o.cs.fits k4 k5).row);have bg:q2n≤1000000:=by
     have h9:=OwnN.len H4.o.nq.own;have bt:=H4.o.len;rw [List.length_append] at h9;have bn:(pre.length + [k3].length)=q2n:=h9;simp only [List.length_cons,List.length_nil] at bn;omega
    clear bf ay ao aq az ab bb al H2 ba s4 s5 y4 r0 r1 r2 r3 r4 r5 z4 H1;obtain⟨g,hg⟩:∃g,g=(getU (uns z.ux) k4 k5).2:=⟨_,rfl⟩;rw [← hg];have HG:=Zh hg;clear hg;have am:Hi ((vnB (uns z.ux) ⟨vs,vn,vt⟩).see ⟨k0,k1,k2,k3,k4,k5⟩=false):=HM.o.symm;by_cases ae:g=false∨i=400
    · have ad:Hi (o=(none,pre ++ [k3],13)):=by
       show o=_;rw [HO.o,H4.o.look];rcases ae with e | e
       · rw [(vnB (uns z.ux) ⟨vs,vn,vt⟩).look_old (400-i) am.o (show nxB (uns z.ux) ⟨k0,k1,k2,k3,k4,k5⟩=none from ZgB (by show (getU (uns z.ux) k4 k5).2=false;rw [← HG.o,e]))];rfl
       · subst e;rw [show 400-400=0 from rfl,(vnB (uns z.ux) ⟨vs,vn,vt⟩).look_end am.o];rfl
      obtain⟨W,ag,ac,aa⟩:=Ze6 (o:=o) H4.o.nq H4.o.res an bg Rx.zero (ColR.zero _ _) ZaP (by rw [ad.o];rfl) (by rw [ad.o]);(have e1:o.1.isSome=false:=by rw [ad.o];rfl);(have e2:o.2.2=13:=by rw [ad.o]);rw [e1,e2] at aa;have af:=Zh ag;have ai:=Zh ac;have aj:=Zh aa;clear ag ac aa e1 e2 ad HM am;simp only [Rx.zero,zeroR,Rw.val,Sl.val] at af ai aj;(have i4:(i:Int)=400∨g=false:=by rcases ae with e | e;exact .inr e;exact .inl (by omega));clear ae HG;cases g with
      | false =>
       clear i4;go_wp2_with (first | refine Zad _ rfl rfl 65 (.tmp 12) (.tmp 40) rfl (.pointer (some ⟨w3.heap.size,0,none⟩)) xu.val rfl rfl W4 ak.o ?_ | refine Zad _ rfl rfl 39 (.tmp 6) (.tmp 48) rfl (.pointer (some ⟨w.heap.size+1+1+1,0,none⟩)) (.agg #[.float .f64 0,.bool false,.slice none 0 0,.int .i64 0,.int .i64 0,.int .i64 0]) rfl rfl W af.o ?_);refine bodyPost_ret (Zbb rfl ai.o _ _ _ _ rfl rfl rfl rfl) rfl ?_;exact aj.o
      | true =>
       (have i5:((i:Int) == 400)=true:=by rcases i4 with e | e;exact (by rw [e];rfl);cases e);clear i4;go_wp2_with (first | refine Zad _ rfl rfl 65 (.tmp 12) (.tmp 40) rfl (.pointer (some ⟨w3.heap.size,0,none⟩)) xu.val rfl rfl W4 ak.o ?_ | refine Zad _ rfl rfl 39 (.tmp 6) (.tmp 48) rfl (.pointer (some ⟨w.heap.size+1+1+1,0,none⟩)) (.agg #[.float .f64 0,.bool false,.slice none 0 0,.int .i64 0,.int .i64 0,.int .i64 0]) rfl rfl W af.o ?_);refine bodyPost_ret (Zbb rfl ai.o _ _ _ _ rfl rfl rfl rfl) rfl ?_;exact aj.o
    · (have bp:g=true:=by cases g with | true=>rfl | false=>exact absurd (.inl rfl) ae);(have bq:i<400:=by have:i≠400:=fun e=>ae (.inr e);omega);subst bp;have i5:((i:Int) == 400)=false:=beq_eq_false_iff_ne.2 (by omega);clear ae;by_cases hk:xu.u.kind=1
      · have ad:Hi (o=(none,pre ++ [k3],0)):=by
         show o=_;rw [HO.o,H4.o.look,show 400-i=(400-(i+1))+1 by omega,(vnB (uns z.ux) ⟨vs,vn,vt⟩).look_new (400-(i+1)) am.o (show nxB (uns z.ux) ⟨k0,k1,k2,k3,k4,k5⟩=some none from Zi7 HG.o.symm (by show (getU (uns z.ux) k4 k5).1.kind=1;rw [← ax.o,hk]))];rfl
        obtain⟨W,ag,ac,aa⟩:=Ze6 (o:=o) H4.o.nq H4.o.res an bg Rx.zero (ColR.zero _ _) ZaP (by rw [ad.o];rfl) (by rw [ad.o]);(have e1:o.1.isSome=false:=by rw [ad.o];rfl);(have e2:o.2.2=0:=by rw [ad.o]);rw [e1,e2] at aa;have af:=Zh ag;have ai:=Zh ac;have aj:=Zh aa;clear ag ac aa e1 e2 ad HM am HG;simp only [Rx.zero,zeroR,Rw.val,Sl.val] at af ai aj;rw [hk] at u3;go_wp2_with (first | refine Zad _ rfl rfl 65 (.tmp 12) (.tmp 40) rfl (.pointer (some ⟨w3.heap.size,0,none⟩)) xu.val rfl rfl W4 ak.o ?_ | refine Zad _ rfl rfl 39 (.tmp 6) (.tmp 53) rfl (.pointer (some ⟨w.heap.size+1+1+1,0,none⟩)) (.agg #[.float .f64 0,.bool false,.slice none 0 0,.int .i64 0,.int .i64 0,.int .i64 0]) rfl rfl W af.o ?_);refine bodyPost_ret (Zbb rfl ai.o _ _ _ _ rfl rfl rfl rfl) rfl ?_;exact aj.o
      · have bu:(xu.u.kind == 1)=false:=beq_eq_false_iff_ne.2 hk;obtain⟨W,ag,bi,bo⟩:=H4.o.row_ an bq ⟨xu.u.row,xu.a,xu.n,xu.c⟩ au.o bm.o HM.o.symm (by
         have:=ZjC (u:=uns z.ux) (r:=⟨k0,k1,k2,k3,k4,k5⟩) HG.o.symm (by show ¬(getU (uns z.ux) k4 k5).1.kind=1;rw [← ax.o];exact hk);rw [this];show some (some (getU (uns z.ux) k4 k5).1.row)=_;rw [← ax.o])
        have af:=Zh ag;have bl:=Zh bi;clear ag bi bo HM am HG hk;simp only [Rw.val] at af;go_wp2_with (first | refine Zad _ rfl rfl 65 (.tmp 12) (.tmp 40) rfl (.pointer (some ⟨w3.heap.size,0,none⟩)) xu.val rfl rfl W4 ak.o ?_ | refine Zad _ rfl rfl 39 (.tmp 5) (.tmp 56) rfl (.pointer (some ⟨w.heap.size+1+1,0,none⟩)) (.agg #[.float .f64 xu.u.row.key,.bool xu.u.row.dead,.slice xu.a xu.n xu.c,.int .i64 xu.u.row.wr,.int .i64 xu.u.row.cell,.int .i64 xu.u.row.no]) rfl rfl W af.o ?_);go_roundw;exact ⟨i+1,_,_,_,by omega,rfl,by go_num,bl⟩;simp only [intOf];omega
theorem ZfN (w:World)(z:Bz)(v:Vw)(s:Sl) :
    ∃Wa Wb W0,w.alloc (.cells #[.int .i64 z.t.nx,.int .i64 z.t.no,.int .i64 z.t.cm,.slice z.es.a z.es.len z.es.cap,.slice z.cs.a z.cs.len z.cs.cap,.slice z.ls.a z.ls.len z.ls.cap] 28)=Wa∧Wa.alloc (.cells #[.int .i64 v.self,.int .i64 v.next,s.val] 31)=Wb∧Wb.alloc (.cells #[.float .f64 0,.bool false,.slice none 0 0,.int .i64 0,.int .i64 0,.int .i64 0] 39)=W0∧BsBlk W0 w.heap.size z∧ZaG W0 (w.heap.size+1) v s∧RwBlk W0 (w.heap.size+1+1) zeroR (.slice none 0 0)∧Bl w W0∧W0.heap.size=w.heap.size+1+1+1:=by
  have ac:=Zab w (.cells #[.int .i64 z.t.nx,.int .i64 z.t.no,.int .i64 z.t.cm,.slice z.es.a z.es.len z.es.cap,.slice z.cs.a z.cs.len z.cs.cap,.slice z.ls.a z.ls.len z.ls.cap] 28);have b1:=ZaU w z;obtain⟨Wa,ha⟩:∃W,w.alloc (.cells #[.int .i64 z.t.nx,.int .i64 z.t.no,.int .i64 z.t.cm,.slice z.es.a z.es.len z.es.cap,.slice z.cs.a z.cs.len z.cs.cap,.slice z.ls.a z.ls.len z.ls.cap] 28)=W:=⟨_,rfl⟩;(have sa:Wa.heap.size=w.heap.size+1:=by rw [← ha];exact Zae _ _);rw [ha] at ac b1;have ab:=Zab Wa (.cells #[.int .i64 v.self,.int .i64 v.next,s.val] 31);have b2:=ZbJ Wa v s;obtain⟨Wb,hb⟩:∃W,Wa.alloc (.cells #[.int .i64 v.self,.int .i64 v.next,s.val] 31)=W:=⟨_,rfl⟩;(have sb:Wb.heap.size=w.heap.size+1+1:=by rw [← hb,Zae,sa]);rw [hb] at ab b2;rw [sa] at b2;have aa:=Zab Wb (.cells #[.float .f64 0,.bool false,.slice none 0 0,.int .i64 0,.int .i64 0,.int .i64 0] 39);have b4:RwBlk (Wb.alloc (.cells #[.float .f64 0,.bool false,.slice none 0 0,.int .i64 0,.int .i64 0,.int .i64 0] 39)) Wb.heap.size zeroR (.slice none 0 0):=Zai Wb zeroR (.slice none 0 0);obtain⟨W0,hd⟩:∃W,Wb.alloc (.cells #[.float .f64 0,.bool false,.slice none 0 0,.int .i64 0,.int .i64 0,.int .i64 0] 39)=W:=⟨_,rfl⟩;(have sd:W0.heap.size=w.heap.size+1+1+1:=by rw [← hd,Zae,sb]);rw [hd] at aa b4;rw [sb] at b4;exact⟨Wa,Wb,W0,ha,hb,hd,b1.keep (Zac ab aa),b2.keep aa,b4,Zac ac (Zac ab aa),sd⟩
end Go.Proofs.YtiecfcjlhldhdaaGreat
