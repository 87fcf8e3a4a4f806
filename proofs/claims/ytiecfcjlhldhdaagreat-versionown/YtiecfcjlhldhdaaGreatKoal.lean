/-
  Lemmas.
-/
import Derived.Test.YtiecfcjlhldhdaaGreatKoak
import Derived.Test.YtiecfcjlhldhdaaGreatKoaa
import Derived.Test.YtiecfcjlhldhdaaGreatKoae
import Derived.Test.YtiecfcjlhldhdaaGreatKoah
import Derived.Test.YtiecfcjlhldhdaaGreatKoai
import Derived.Test.YtiecfcjlhldhdaaGreatKoaj
namespace Go.Proofs.YtiecfcjlhldhdaaGreat
open Go.RowKit Go.Proofs.Tryz
set_option linter.unusedVariables false
set_option linter.unusedSimpArgs false
set_option maxRecDepth 100000
set_option maxHeartbeats 4000000
variable {w w':World}{p o c g:Nat}{A:Act}
theorem fdU1 (p o:Nat)(w:World):(Instr.fieldAt 65 (.pointer (some ⟨p,o,none⟩)) 1).run prog w=.ok (.pointer (some ⟨p,o+1,none⟩)) w:=by simp [go_sem,Instr.fieldAt]
theorem Zqv (p:Nat)(w:World):(Instr.fieldAt 65 (.pointer (some ⟨p,0,none⟩)) 1).run prog w=.ok (.pointer (some ⟨p,1,none⟩)) w:=by simp [go_sem,Instr.fieldAt]
theorem Zbt {b:Nat}{v:Int}(h:w.cell? ⟨b,o,none⟩=some (.int .i64 v)):(Instr.loadAt 3 (.pointer (some ⟨b,o,none⟩))).run prog w=.ok (.int .i64 v) w:=by simp [go_sem,h]
theorem Zqs (a c:Int)(x y:Operand)(h:a=c)(w:World):(do eqGuard .eql 3 x y (.int .i64 a) (.int .i64 c);binOp .eql 3 (.int .i64 a) (.int .i64 c):Sem Value).run prog w=.ok (.bool true) w:=by
 simp [go_sem,eqGuard];first | done | omega
theorem Zqr (a c:Int)(x y:Operand)(h:¬(a=c))(w:World):(do eqGuard .eql 3 x y (.int .i64 a) (.int .i64 c);binOp .eql 3 (.int .i64 a) (.int .i64 c):Sem Value).run prog w=.ok (.bool false) w:=by
 simp [go_sem,eqGuard];first | done | omega
theorem Zjm:∀args w,(callFunc 98 args).run prog w=.ok (.enter 98 args) w:=Pl.qj func98
theorem Ze0 {x:Ux}{m:Bool}(h:x.u.emp=m)(w:World)(hx:Fs w x.a x.n x.c x.u.row.xs):Calls prog 81 #[x.val] w fun e w'=>e=.returned (.bool m)∧Bl w w':=by
 have:=ZhF x.u x.a x.n x.c w hx;rw [show x.u.same zeroU=m from h] at this;exact this
theorem ZqG (w0 w:World)(b1 o1 c1 len k j:Nat)(hk:k<len)(hj:j<len)(x y:Ux)(hx:UnAt w0 b1 (o1+j*12) x)(hy:UnAt w0 b1 (o1+k*12) y)(h:x.u.no=y.u.no)(hW:Bl w0 w)
    {Q:Exit→Act→World→Prop}(ac:A.tmps.size=52)(ab:A.defers=[])(s0:A.tmps.getD 0 undef=.slice (some ⟨b1,o1,none⟩) len c1)(s3:A.tmps.getD 3 undef=.int .i64 (k:Int))(s4:A.tmps.getD 4 undef=.int .i64 (j:Int))
    (hend:∀(u:Nat→Value) w',Bl w0 w'→Q .normal ((Pl.pu A u [27,28,29,30,31,32,33,34,35,36]).put (some 37) (.bool true)) w') :
    Pl.rg prog 10 f38 Q A w:=by
  have aa:Bl w0 w.drew:=hW.drew;have hA:=Pl.At.same (v:=.int .i64 (j:Int)) (d:=4) (Pl.At.same (v:=.int .i64 (k:Int)) (d:=3) (Pl.At.same (v:=.slice (some ⟨b1,o1,none⟩) len c1) (d:=0) (Pl.At.here ac ab) s0) s3) s4;refine Pl.qb (S:=fun w'=>Bl w0 w') hA aa ?_;rw [show (Pl.fd 10 f38).size=11 by kernel_rfl];refine Pl.q0 0 27 (.slice (some ⟨b1,o1,none⟩) len c1) (Pl.q1) (Pl.q2 (.tmp 0)) aa ?_;refine Pl.q0 1 28 (.int .i64 (j:Int)) (Pl.q1) (Pl.q2 (.tmp 4)) aa ?_;refine Pl.q0 2 29 (.pointer (some ⟨b1,o1+j*12,none⟩)) (Pl.q1) (Pl.qa 25 (.tmp 27) (.tmp 28) (ZaW b1 o1 len c1 j hj)) aa ?_;refine Pl.q0 3 30 (.pointer (some ⟨b1,o1+j*12+1,none⟩)) (Pl.q1) (Pl.q5 65 (.tmp 29) 1 (fdU1 b1 (o1+j*12))) aa ?_;refine Pl.q0 4 31 (.int .i64 x.u.no) (Pl.q1) (Pl.q3 3 (.tmp 30) (fun w' hS=>Zbt (hx.keep hS (Nat.le_refl _)).c1)) aa ?_;refine Pl.q0 5 32 (.slice (some ⟨b1,o1,none⟩) len c1) (Pl.q1) (Pl.q2 (.tmp 0)) aa ?_;refine Pl.q0 6 33 (.int .i64 (k:Int)) (Pl.q1) (Pl.q2 (.tmp 3)) aa ?_;refine Pl.q0 7 34 (.pointer (some ⟨b1,o1+k*12,none⟩)) (Pl.q1) (Pl.qa 25 (.tmp 32) (.tmp 33) (ZaW b1 o1 len c1 k hk)) aa ?_;refine Pl.q0 8 35 (.pointer (some ⟨b1,o1+k*12+1,none⟩)) (Pl.q1) (Pl.q5 65 (.tmp 34) 1 (fdU1 b1 (o1+k*12))) aa ?_;refine Pl.q0 9 36 (.int .i64 y.u.no) (Pl.q1) (Pl.q3 3 (.tmp 35) (fun w' hS=>Zbt (hy.keep hS (Nat.le_refl _)).c1)) aa ?_;refine Pl.q0 10 37 (.bool true) (Pl.q1) (Pl.qc .eql 3 3 (.tmp 31) (.tmp 36) (.int .i64 x.u.no) (.int .i64 y.u.no) (Zqs _ _ _ _ h)) aa ?_;refine Pl.q7 (fun A' hA'=>?_);exact Pl.en hA' hA [27,28,29,30,31,32,33,34,35,36,37] (hend hA'.fn _ aa)
theorem ZqF (w0 w:World)(b1 o1 c1 len k j:Nat)(hk:k<len)(hj:j<len)(x y:Ux)(hx:UnAt w0 b1 (o1+j*12) x)(hy:UnAt w0 b1 (o1+k*12) y)(h:¬x.u.no=y.u.no)(hW:Bl w0 w)
    {Q:Exit→Act→World→Prop}(ac:A.tmps.size=52)(ab:A.defers=[])(s0:A.tmps.getD 0 undef=.slice (some ⟨b1,o1,none⟩) len c1)(s3:A.tmps.getD 3 undef=.int .i64 (k:Int))(s4:A.tmps.getD 4 undef=.int .i64 (j:Int))
    (hend:∀(u:Nat→Value) w',Bl w0 w'→Q .normal ((Pl.pu A u [27,28,29,30,31,32,33,34,35,36]).put (some 37) (.bool false)) w') :
    Pl.rg prog 10 f38 Q A w:=by
  have aa:Bl w0 w.drew:=hW.drew;have hA:=Pl.At.same (v:=.int .i64 (j:Int)) (d:=4) (Pl.At.same (v:=.int .i64 (k:Int)) (d:=3) (Pl.At.same (v:=.slice (some ⟨b1,o1,none⟩) len c1) (d:=0) (Pl.At.here ac ab) s0) s3) s4;refine Pl.qb (S:=fun w'=>Bl w0 w') hA aa ?_;rw [show (Pl.fd 10 f38).size=11 by kernel_rfl];refine Pl.q0 0 27 (.slice (some ⟨b1,o1,none⟩) len c1) (Pl.q1) (Pl.q2 (.tmp 0)) aa ?_;refine Pl.q0 1 28 (.int .i64 (j:Int)) (Pl.q1) (Pl.q2 (.tmp 4)) aa ?_;refine Pl.q0 2 29 (.pointer (some ⟨b1,o1+j*12,none⟩)) (Pl.q1) (Pl.qa 25 (.tmp 27) (.tmp 28) (ZaW b1 o1 len c1 j hj)) aa ?_;refine Pl.q0 3 30 (.pointer (some ⟨b1,o1+j*12+1,none⟩)) (Pl.q1) (Pl.q5 65 (.tmp 29) 1 (fdU1 b1 (o1+j*12))) aa ?_;refine Pl.q0 4 31 (.int .i64 x.u.no) (Pl.q1) (Pl.q3 3 (.tmp 30) (fun w' hS=>Zbt (hx.keep hS (Nat.le_refl _)).c1)) aa ?_;refine Pl.q0 5 32 (.slice (some ⟨b1,o1,none⟩) len c1) (Pl.q1) (Pl.q2 (.tmp 0)) aa ?_;refine Pl.q0 6 33 (.int .i64 (k:Int)) (Pl.q1) (Pl.q2 (.tmp 3)) aa ?_;refine Pl.q0 7 34 (.pointer (some ⟨b1,o1+k*12,none⟩)) (Pl.q1) (Pl.qa 25 (.tmp 32) (.tmp 33) (ZaW b1 o1 len c1 k hk)) aa ?_;refine Pl.q0 8 35 (.pointer (some ⟨b1,o1+k*12+1,none⟩)) (Pl.q1) (Pl.q5 65 (.tmp 34) 1 (fdU1 b1 (o1+k*12))) aa ?_;refine Pl.q0 9 36 (.int .i64 y.u.no) (Pl.q1) (Pl.q3 3 (.tmp 35) (fun w' hS=>Zbt (hy.keep hS (Nat.le_refl _)).c1)) aa ?_;refine Pl.q0 10 37 (.bool false) (Pl.q1) (Pl.qc .eql 3 3 (.tmp 31) (.tmp 36) (.int .i64 x.u.no) (.int .i64 y.u.no) (Zqr _ _ _ _ h)) aa ?_;refine Pl.q7 (fun A' hA'=>?_);exact Pl.en hA' hA [27,28,29,30,31,32,33,34,35,36,37] (hend hA'.fn _ aa)
theorem Zrh (w0 w:World)(b1 o1 c1 len k g:Nat)(hk:k<len)(x y:Ux)(hx:UnAt w0 b1 (o1+k*12) x)(hy:UnBlk w0 g y.u (.slice y.a y.n y.c))(h:x.u.no=y.u.no)(hW:Bl w0 w)
    {Q:Exit→Act→World→Prop}(ac:A.tmps.size=38)(ab:A.defers=[])(s0:A.tmps.getD 0 undef=.slice (some ⟨b1,o1,none⟩) len c1)(s3:A.tmps.getD 3 undef=.pointer (some ⟨g,0,none⟩))(s7:A.tmps.getD 7 undef=.int .i64 (k:Int))
    (hend:∀(u:Nat→Value) w',Bl w0 w'→Q .normal ((Pl.pu A u [19,20,21,22,23,24,25]).put (some 26) (.bool true)) w') :
    Pl.rg prog 6 f53 Q A w:=by
  have aa:Bl w0 w.drew:=hW.drew;have hA:=Pl.At.same (v:=.int .i64 (k:Int)) (d:=7) (Pl.At.same (v:=.pointer (some ⟨g,0,none⟩)) (d:=3) (Pl.At.same (v:=.slice (some ⟨b1,o1,none⟩) len c1) (d:=0) (Pl.At.here ac ab) s0) s3) s7;refine Pl.qb (S:=fun w'=>Bl w0 w') hA aa ?_;rw [show (Pl.fd 6 f53).size=8 by kernel_rfl];refine Pl.q0 0 19 (.slice (some ⟨b1,o1,none⟩) len c1) (Pl.q1) (Pl.q2 (.tmp 0)) aa ?_;refine Pl.q0 1 20 (.int .i64 (k:Int)) (Pl.q1) (Pl.q2 (.tmp 7)) aa ?_;refine Pl.q0 2 21 (.pointer (some ⟨b1,o1+k*12,none⟩)) (Pl.q1) (Pl.qa 25 (.tmp 19) (.tmp 20) (ZaW b1 o1 len c1 k hk)) aa ?_;refine Pl.q0 3 22 (.pointer (some ⟨b1,o1+k*12+1,none⟩)) (Pl.q1) (Pl.q5 65 (.tmp 21) 1 (fdU1 b1 (o1+k*12))) aa ?_;refine Pl.q0 4 23 (.int .i64 x.u.no) (Pl.q1) (Pl.q3 3 (.tmp 22) (fun w' hS=>Zbt (hx.keep hS (Nat.le_refl _)).c1)) aa ?_;refine Pl.q0 5 24 (.pointer (some ⟨g,1,none⟩)) (Pl.q1) (Pl.q5 65 (.tmp 3) 1 (Zqv g)) aa ?_;refine Pl.q0 6 25 (.int .i64 y.u.no) (Pl.q1) (Pl.q3 3 (.tmp 24) (fun w' hS=>Zbt (hy.keep hS).c1)) aa ?_;refine Pl.q0 7 26 (.bool true) (Pl.q1) (Pl.qc .eql 3 3 (.tmp 23) (.tmp 25) (.int .i64 x.u.no) (.int .i64 y.u.no) (Zqs _ _ _ _ h)) aa ?_;refine Pl.q7 (fun A' hA'=>?_);exact Pl.en hA' hA [19,20,21,22,23,24,25,26] (hend hA'.fn _ aa)
theorem ZmC (w0 w:World)(b1 o1 c1 len k g:Nat)(hk:k<len)(x y:Ux)(hx:UnAt w0 b1 (o1+k*12) x)(hy:UnBlk w0 g y.u (.slice y.a y.n y.c))(h:¬x.u.no=y.u.no)(hW:Bl w0 w)
    {Q:Exit→Act→World→Prop}(ac:A.tmps.size=38)(ab:A.defers=[])(s0:A.tmps.getD 0 undef=.slice (some ⟨b1,o1,none⟩) len c1)(s3:A.tmps.getD 3 undef=.pointer (some ⟨g,0,none⟩))(s7:A.tmps.getD 7 undef=.int .i64 (k:Int))
    (hend:∀(u:Nat→Value) w',Bl w0 w'→Q .normal ((Pl.pu A u [19,20,21,22,23,24,25]).put (some 26) (.bool false)) w') :
    Pl.rg prog 6 f53 Q A w:=by
  have aa:Bl w0 w.drew:=hW.drew;have hA:=Pl.At.same (v:=.int .i64 (k:Int)) (d:=7) (Pl.At.same (v:=.pointer (some ⟨g,0,none⟩)) (d:=3) (Pl.At.same (v:=.slice (some ⟨b1,o1,none⟩) len c1) (d:=0) (Pl.At.here ac ab) s0) s3) s7;refine Pl.qb (S:=fun w'=>Bl w0 w') hA aa ?_;rw [show (Pl.fd 6 f53).size=8 by kernel_rfl];refine Pl.q0 0 19 (.slice (some ⟨b1,o1,none⟩) len c1) (Pl.q1) (Pl.q2 (.tmp 0)) aa ?_;refine Pl.q0 1 20 (.int .i64 (k:Int)) (Pl.q1) (Pl.q2 (.tmp 7)) aa ?_;refine Pl.q0 2 21 (.pointer (some ⟨b1,o1+k*12,none⟩)) (Pl.q1) (Pl.qa 25 (.tmp 19) (.tmp 20) (ZaW b1 o1 len c1 k hk)) aa ?_;refine Pl.q0 3 22 (.pointer (some ⟨b1,o1+k*12+1,none⟩)) (Pl.q1) (Pl.q5 65 (.tmp 21) 1 (fdU1 b1 (o1+k*12))) aa ?_;refine Pl.q0 4 23 (.int .i64 x.u.no) (Pl.q1) (Pl.q3 3 (.tmp 22) (fun w' hS=>Zbt (hx.keep hS (Nat.le_refl _)).c1)) aa ?_;refine Pl.q0 5 24 (.pointer (some ⟨g,1,none⟩)) (Pl.q1) (Pl.q5 65 (.tmp 3) 1 (Zqv g)) aa ?_;refine Pl.q0 6 25 (.int .i64 y.u.no) (Pl.q1) (Pl.q3 3 (.tmp 24) (fun w' hS=>Zbt (hy.keep hS).c1)) aa ?_;refine Pl.q0 7 26 (.bool false) (Pl.q1) (Pl.qc .eql 3 3 (.tmp 23) (.tmp 25) (.int .i64 x.u.no) (.int .i64 y.u.no) (Zqr _ _ _ _ h)) aa ?_;refine Pl.q7 (fun A' hA'=>?_);exact Pl.en hA' hA [19,20,21,22,23,24,25,26] (hend hA'.fn _ aa)
theorem Zoi (a:Option Addr)(n cap:Nat)(l:List Ux)(w:World)(h:Us w a n l)(bs:n≤1000000) :
    Calls prog 38 #[.slice a n cap] w fun e w'=>e=.returned (.bool (MayU (uns l)))∧Bl w w':=by
  (have ax:Hi ((uns l).length=n):=by show _=_;rw [Zba,h.len]);have HE:=Zh h;have H0:=Zh (Below.refl w.heap.size w);clear h;go_enter func38,ntmps38;go_wp2_with fail;go_loopw [3] (fun iv wr=>∃i:Nat,i≤n∧iv=.int .i64 (i:Nat)∧Hi (SeenU (uns l) i)∧Hi (Bl w wr)) (fun iv _=>n-(intOf iv).toNat)
  case atStart=>exact ⟨0,Nat.zero_le _,rfl,(fun j hj=>absurd hj (Nat.not_lt_zero _)),H0⟩
  case round =>
   obtain⟨i,hi,rfl,ak,af⟩:=hrel;rcases Nat.lt_or_ge i n with ag | bu
   · (have i1:(i:Int)<(n:Int):=by omega);have hr:=HE.o.keep af.o (Nat.le_refl _);obtain⟨b1,off,rfl,be⟩:=hr.at' i ag;have ah:=hr.mem ag;have aa:=hr.cols _ ah;have bq:=Zh (hr.fits _ ah);have bp:(uns l).getD i zeroU=(l.getD i Ux.zero).u:=ZaQ l i;generalize l.getD i Ux.zero=y at *;have bd:=Zh (ZaE b1 (off+i*12) y _ be);have bi:=Zh be;have am:=Zh aa;have ab:=Zh bp;clear be hr bp ah;cases hon:y.u.emp with
     | true =>
      have aw:=Zh (Ze0 hon _ aa);have HN:Hi (SeenU (uns l) (i+1)):=by
       intro j hj;by_cases e:j=i
       · rw [e,ab.o];exact .inl hon
       · exact ak.o j (by omega)
      clear ak ab hon aa;go_wp2_with (refine Zah _ rfl 65 (.tmp 13) rfl (.pointer (some ⟨b1,off+i*12,none⟩)) y.val rfl bd.o ?_);refine aw.o.mono ?_;rintro e w1 ⟨rfl,ae⟩;have al:=Zh (Zad af.o ae);clear ae;go_wp2;go_roundw;exact ⟨i+1,by omega,by go_num,HN,al⟩;simp only [intOf];omega
     | false =>
      have aw:=Zh (Ze0 hon _ aa);have bj:=Zh hon;clear hon aa;go_wp2_with (refine Zah _ rfl 65 (.tmp 13) rfl (.pointer (some ⟨b1,off+i*12,none⟩)) y.val rfl bd.o ?_);refine aw.o.mono ?_;rintro e w1 ⟨rfl,ae⟩;have al:=Zh (Zad af.o ae);have ad:=Zh (ZaE b1 (off+i*12) y w1 (bi.o.keep ae (Nat.le_refl _)));have ai:=Zh (Zfe y.u y.a y.n y.c w1 (am.o.keep ae (Nat.le_refl _)) bq.o.row);have au:y.u.val (.slice y.a y.n y.c)=y.val:=rfl;rw [au] at ai;clear ae au bd aw bi am;cases hmy:y.u.may with
      | false =>
       rw [hmy] at ai;have HN:Hi (MayU (uns l)=false):=ZhW (i:=i) (by rw [ax.o];exact ag) (by rw [ab.o];exact bj.o) (.inl (by rw [ab.o];exact hmy));clear hmy;go_wp2_with (refine Zah _ rfl 65 (.tmp 18) rfl (.pointer (some ⟨b1,off+i*12,none⟩)) y.val rfl ad.o ?_);refine ai.o.mono ?_;rintro e w2 ⟨rfl,ap⟩;have bb:=Zh (Zad al.o ap);clear ap;go_wp2;go_ret;exact⟨by rw [HN.o];rfl,bb.o⟩
      | true =>
       rw [hmy] at ai;have br:=Zh hmy;clear hmy;go_wp2_with (refine Zah _ rfl 65 (.tmp 18) rfl (.pointer (some ⟨b1,off+i*12,none⟩)) y.val rfl ad.o ?_);refine ai.o.mono ?_;rintro e w2 ⟨rfl,ap⟩;have bb:=Zh (Zad al.o ap);clear ap ai ad al;go_wp2_with fail;go_loopw [4] (fun jv ws=>∃j:Nat,j≤i∧jv=.int .i64 (j:Nat)∧Hi (∀t,t<j→((uns l).getD t zeroU).no≠y.u.no)∧Hi (Bl w ws)) (fun jv _=>i-(intOf jv).toNat)
       case atStart=>exact ⟨0,Nat.zero_le _,rfl,(fun t ht=>absurd ht (Nat.not_lt_zero _)),bb⟩
       case round =>
        obtain⟨j,hj,rfl,az,ay⟩:=hrel;rcases Nat.lt_or_ge j i with bt | bv
        · (have j1:(j:Int)<(i:Int):=by omega);have bf:=HE.o.keep ay.o (Nat.le_refl _);obtain⟨b2,o2,bl,an⟩:=bf.at' j (by omega);obtain⟨b3,o3,ar,ao⟩:=bf.at' i ag;have bo:(uns l).getD j zeroU=(l.getD j Ux.zero).u:=ZaQ l j;have av:(uns l).getD i zeroU=(l.getD i Ux.zero).u:=ZaQ l i;generalize l.getD j Ux.zero=x at *;generalize l.getD i Ux.zero=y3 at *;simp only [Option.some.injEq,Addr.mk.injEq,and_true] at bl ar;obtain⟨rfl,rfl⟩:=bl;obtain⟨rfl,rfl⟩:=ar;have ba:y3.u=y.u:=av.symm.trans ab.o;have bg:=Zh an;have bh:=Zh ao;have bk:=Zh bo;clear an ao bo av bf;go_wp2_with fail;refine Pl.q9 (ops:=Pl.fd 10 f38) ?_;by_cases aj:x.u.no=y3.u.no
          · refine ZqG _ _ b1 off cap n i j ag (by omega) x y3 bg.o bh.o aj (Below.refl _ _) (by rfl) (by rfl) (by rfl) (by rfl) (by rfl) ?_;intro u w4 aq;simp only [Pl.pu,List.foldl,Act.put,List.setIfInBounds_toArray,List.set];have bc:=Zh (Zad ay.o aq);have HN:Hi (MayU (uns l)=false):=ZhW (i:=i) (by rw [ax.o];exact ag) (by rw [ab.o];exact bj.o) (.inr ⟨j,bt,by rw [bk.o,ab.o,aj,ba]⟩);clear aq aj ba;go_wp2;go_ret;exact⟨by rw [HN.o];rfl,bc.o⟩
          · refine ZqF _ _ b1 off cap n i j ag (by omega) x y3 bg.o bh.o aj (Below.refl _ _) (by rfl) (by rfl) (by rfl) (by rfl) (by rfl) ?_;intro u w4 aq;simp only [Pl.pu,List.foldl,Act.put,List.setIfInBounds_toArray,List.set];have bc:=Zh (Zad ay.o aq);have HN:Hi (∀t,t<j+1→((uns l).getD t zeroU).no≠y.u.no):=by
             intro t ht;by_cases e:t=j
             · rw [e,bk.o,← ba];exact aj
             · exact az.o t (by omega)
            clear aq aj ba az;go_wp2;go_roundw;exact ⟨j+1,by omega,by go_num,HN,bc⟩;simp only [intOf];omega
        · (have j1:¬(j:Int)<(i:Int):=by omega);have HN:Hi (SeenU (uns l) (i+1)):=by
           intro t ht;by_cases e:t=i
           · rw [e,ab.o];exact .inr ⟨br.o,fun q hq=>az.o q (by omega)⟩
           · exact ak.o t (by omega)
          clear az ak;go_wp2;go_roundw;exact ⟨i+1,by omega,by go_num,HN,ay⟩;simp only [intOf];omega
   · (have i1:¬(i:Int)<(n:Int):=by omega);(have bm:i=n:=by omega);(have bn:SeenU (uns l) (uns l).length:=by rw [ax.o,← bm];exact ak.o);(have ac:MayU (uns l)=(decide (6≤n) && decide (n≤378) && decide (n % 6=0)):=by rw [Zos bn,ax.o];rfl);(have bw:(n:Int).tmod 6=((n % 6:Nat):Int):=by rw [Int.ofNat_tmod];rfl);clear ak bn bm;by_cases h6:6≤n
     · (have h6':(6:Int)≤(n:Int):=by omega);by_cases h7:n≤378
       · (have h7':(n:Int)≤378:=by omega);by_cases hm:n % 6=0
         · (have hm':((((n % 6:Nat):Int)) == 0)=true:=by simp [hm]);(have HN:Hi (MayU (uns l)=true):=by show _=_;rw [ac];simp [h6,h7,hm]);(have HM:Hi (((n:Int) % 6 == 0)=true):=by show _=_;simp;omega);clear h6 h7 hm ac;go_wp2;go_ret;refine⟨?_,af.o⟩;rw [HN.o,← HM.o];rfl
         · have hm':((((n % 6:Nat):Int)) == 0)=false:=beq_eq_false_iff_ne.2 (by omega);(have HN:Hi (MayU (uns l)=false):=by show _=_;rw [ac];simp [hm]);have HM:Hi (((n:Int) % 6 == 0)=false):=beq_eq_false_iff_ne.2 (by omega);clear h6 h7 hm ac;go_wp2;go_ret;refine⟨?_,af.o⟩;rw [HN.o,← HM.o];rfl
       · (have h7':¬(n:Int)≤378:=by omega);(have HN:Hi (MayU (uns l)=false):=by show _=_;rw [ac];simp [h7]);clear h6 h7 ac;go_wp2;go_ret;exact⟨by rw [HN.o];rfl,af.o⟩
     · (have h6':¬(6:Int)≤(n:Int):=by omega);(have HN:Hi (MayU (uns l)=false):=by show _=_;rw [ac];simp [h6]);clear h6 ac;go_wp2;go_ret;exact⟨by rw [HN.o];rfl,af.o⟩
structure Bz where
  t:Tbl
  es:Sl
  cs:Sl
  ux:List Ux
  ls:Sl
  lb:List Lb
def Bz.b (z:Bz):Bse:=⟨z.t,uns z.ux,lfs z.lb⟩
def Bz.val (z:Bz):Value:=.agg #[.int .i64 z.t.nx,.int .i64 z.t.no,.int .i64 z.t.cm,.slice z.es.a z.es.len z.es.cap,.slice z.cs.a z.cs.len z.cs.cap,.slice z.ls.a z.ls.len z.ls.cap]
structure Bin (w:World) (z:Bz):Prop where
  es:Es w z.es z.t.es
  cs:Us w z.cs.a z.cs.len z.ux
  cb:z.cs.len≤1000
  ls:Gl (fun _=>True) w z.ls z.lb
theorem Bin.keep {z:Bz}(h:Bin w z)(hb:Bl w w'):Bin w' z:=⟨h.es.keep hb (Nat.le_refl _),h.cs.keep hb (Nat.le_refl _),h.cb,h.ls.below hb (Nat.le_refl _)⟩
def BsBlk (w:World) (p:Nat) (z:Bz):Prop:=w.heap[p]? = some (Obj.cells #[.int .i64 z.t.nx,.int .i64 z.t.no,.int .i64 z.t.cm,.slice z.es.a z.es.len z.es.cap,.slice z.cs.a z.cs.len z.cs.cap,.slice z.ls.a z.ls.len z.ls.cap] 28 (0,0))
theorem BsBlk.lt {z:Bz}(h:BsBlk w p z):p<w.heap.size:=(Array.getElem?_eq_some_iff.1 h).1
theorem ZaD (w:World)(z:Bz):BsBlk (w.alloc (.cells #[.int .i64 z.t.nx,.int .i64 z.t.no,.int .i64 z.t.cm,.slice z.es.a z.es.len z.es.cap,.slice z.cs.a z.cs.len z.cs.cap,.slice z.ls.a z.ls.len z.ls.cap] 28)) w.heap.size z:=heap_alloc_new w _
theorem BsBlk.keep {z:Bz}(h:BsBlk w p z)(hb:Bl w w'):BsBlk w' p z:=(hb.block p h.lt).trans h
theorem BsBlk.frm {F:Nat→Prop}{z:Bz}(h:BsBlk w p z)(hf:Frm F w w')(hn:¬F p):BsBlk w' p z:=(hf.block p h.lt hn).trans h
theorem BsBlk.c0 {z:Bz}(h:BsBlk w p z):w.cell? ⟨p,0,none⟩=some (.int .i64 z.t.nx):=by unfold BsBlk at h;simp [World.cell?,h]
theorem BsBlk.c1 {z:Bz}(h:BsBlk w p z):w.cell? ⟨p,1,none⟩=some (.int .i64 z.t.no):=by unfold BsBlk at h;simp [World.cell?,h]
theorem BsBlk.c2 {z:Bz}(h:BsBlk w p z):w.cell? ⟨p,2,none⟩=some (.int .i64 z.t.cm):=by unfold BsBlk at h;simp [World.cell?,h]
theorem BsBlk.c3 {z:Bz}(h:BsBlk w p z):w.cell? ⟨p,3,none⟩=some (.slice z.es.a z.es.len z.es.cap):=by unfold BsBlk at h;simp [World.cell?,h]
theorem BsBlk.c4 {z:Bz}(h:BsBlk w p z):w.cell? ⟨p,4,none⟩=some (.slice z.cs.a z.cs.len z.cs.cap):=by unfold BsBlk at h;simp [World.cell?,h]
theorem BsBlk.c5 {z:Bz}(h:BsBlk w p z):w.cell? ⟨p,5,none⟩=some (.slice z.ls.a z.ls.len z.ls.cap):=by unfold BsBlk at h;simp [World.cell?,h]
theorem BsBlk.fz {z:Bz}(h:BsBlk w p z)(o:Nat):w.frozen? ⟨p,o,none⟩=false:=frozen_of_row w p _ _ 28 h
theorem ZlX {z:Bz}(h:BsBlk w p z):(Instr.loadAt 28 (.pointer (some ⟨p,0,none⟩))).run prog w=.ok z.val w:=by
 have h0:=h.c0;have h1:=h.c1;have h2:=h.c2;have h3:=h.c3;have h4:=h.c4;have h5:=h.c5;simp [go_sem,h0,h1,h2,h3,h4,h5,Bz.val]
theorem ZnS {z:Bz}(h:BsBlk w p z):(Instr.loadAt 24 (.pointer (some ⟨p,0,none⟩))).run prog w=.ok (z.t.val z.es) w:=by
 have h0:=h.c0;have h1:=h.c1;have h2:=h.c2;have h3:=h.c3;simp [go_sem,h0,h1,h2,h3,Tbl.val]
theorem Zr3 (p:Nat)(w:World):(Instr.fieldAt 28 (.pointer (some ⟨p,0,none⟩)) 0).run prog w=.ok (.pointer (some ⟨p,0,none⟩)) w:=by simp [go_sem,Instr.fieldAt]
theorem ZoX (p:Nat)(w:World):(Instr.fieldAt 28 (.pointer (some ⟨p,0,none⟩)) 1).run prog w=.ok (.pointer (some ⟨p,4,none⟩)) w:=by simp [go_sem,Instr.fieldAt]
theorem ZoY (p:Nat)(w:World):(Instr.fieldAt 28 (.pointer (some ⟨p,0,none⟩)) 2).run prog w=.ok (.pointer (some ⟨p,5,none⟩)) w:=by simp [go_sem,Instr.fieldAt]
theorem Zqw (p o:Nat)(w:World):(Instr.fieldAt 65 (.pointer (some ⟨p,o,none⟩)) 4).run prog w=.ok (.pointer (some ⟨p,o+4,none⟩)) w:=by simp [go_sem,Instr.fieldAt,Addr.add_lit]
theorem ldCs {a:Option Addr}{n:Nat}(h:w.cell? ⟨p,o,none⟩=some (.slice a n c)):(Instr.loadAt 25 (.pointer (some ⟨p,o,none⟩))).run prog w=.ok (.slice a n c) w:=by simp [go_sem,h]
theorem ldLs {a:Option Addr}{n:Nat}(h:w.cell? ⟨p,o,none⟩=some (.slice a n c)):(Instr.loadAt 26 (.pointer (some ⟨p,o,none⟩))).run prog w=.ok (.slice a n c) w:=by simp [go_sem,h]
theorem Zfd (a:Option Addr)(n cap:Nat)(l:List Ux)(w:World)(h:Us w a n l)(am:n≤1000000) :
    Calls prog 51 #[.slice a n cap] w fun e w'=>e=.returned (.int .i64 (freeU (uns l)))∧Bl w w':=by
  (have aj:Hi ((uns l).length=n):=by show _=_;rw [Zba,h.len]);have HE:=Zh h;have H0:=Zh (Below.refl w.heap.size w);clear h;go_enter func51,ntmps51;go_wp2_with fail;go_loopw [3] (fun iv wr=>∃i:Nat,i≤n∧iv=.int .i64 (i:Nat)∧Hi (∀j,j<i→Un.emp ((uns l).getD j zeroU)=false)∧Hi (Bl w wr)) (fun iv _=>n-(intOf iv).toNat)
  case atStart=>exact ⟨0,Nat.zero_le _,rfl,(fun j hj=>absurd hj (Nat.not_lt_zero _)),H0⟩
  case round =>
   obtain⟨i,hi,rfl,ab,ae⟩:=hrel;rcases Nat.lt_or_ge i n with ah | an
   · (have i1:(i:Int)<(n:Int):=by omega);have hr:=HE.o.keep ae.o (Nat.le_refl _);obtain⟨b1,off,rfl,ak⟩:=hr.at' i ah;have aa:=hr.cols _ (hr.mem ah);have al:(uns l).getD i zeroU=(l.getD i Ux.zero).u:=ZaQ l i;generalize l.getD i Ux.zero=y at *;have ai:=Zh (ZaE b1 (off+i*12) y _ ak);have ad:=Zh al;clear ak hr al;cases hon:y.u.emp with
     | true =>
      have ag:=Zh (Ze0 hon _ aa);have HF:Hi (freeU (uns l)=(i:Int)+1):=by
       show _=_;unfold freeU;rw [ZlJ (by rw [aj.o];exact ah) (by rw [ad.o];exact hon) ab.o]
      clear ab ad hon aa;go_wp2_with (refine Zah _ rfl 65 (.tmp 12) rfl (.pointer (some ⟨b1,off+i*12,none⟩)) y.val rfl ai.o ?_);refine ag.o.mono ?_;rintro e w1 ⟨rfl,ac⟩;have af:=Zh (Zad ae.o ac);clear ac;go_wp2;go_ret;exact⟨by rw [HF.o];rfl,af.o⟩
     | false =>
      have ag:=Zh (Ze0 hon _ aa);have HN:Hi (∀j,j<i+1→Un.emp ((uns l).getD j zeroU)=false):=by
       intro j hj;by_cases e:j=i
       · rw [e,ad.o];exact hon
       · exact ab.o j (by omega)
      clear ab ad hon aa;go_wp2_with (refine Zah _ rfl 65 (.tmp 12) rfl (.pointer (some ⟨b1,off+i*12,none⟩)) y.val rfl ai.o ?_);refine ag.o.mono ?_;rintro e w1 ⟨rfl,ac⟩;have af:=Zh (Zad ae.o ac);clear ac;go_wp2;go_roundw;exact ⟨i+1,by omega,by go_num,HN,af⟩;simp only [intOf];omega
   · (have i1:¬(i:Int)<(n:Int):=by omega);have HF:Hi (freeU (uns l)=0):=by
      show _=_;unfold freeU;rw [Ziu (fun j hj=>ab.o j (by rw [aj.o] at hj;omega))]
     clear ab;go_wp2;go_ret;exact⟨by rw [HF.o];rfl,ae.o⟩
theorem Zoj (a:Option Addr)(n cap:Nat)(l:List Ux)(w:World)(h:Us w a n l)(ah:n≤1000)(k:Nat)(hk:k<n)(x:Ux)(hx:Fs w x.a x.n x.c x.u.row.xs)(hf:x.u.fits) :
    Calls prog 97 #[.slice a n cap,.int .i64 ((k:Int)+1),x.val] w fun e w'=>∃s:Sl,e=.returned s.val∧RowU w' s ((uns l).set k x.u)∧Bl w w':=by
  have HA:=Zh (Zab w (.cells #[.int .i64 x.u.tx,.int .i64 x.u.no,.int .i64 x.u.prev,.int .i64 x.u.kind,.int .i64 x.u.page,.int .i64 x.u.slot,.float .f64 x.u.row.key,.bool x.u.row.dead,.slice x.a x.n x.c,.int .i64 x.u.row.wr,.int .i64 x.u.row.cell,.int .i64 x.u.row.no] 65));have aj:=Zh (Zbj w x.u (.slice x.a x.n x.c));obtain⟨⟨sa,sl,sc⟩,W,ab,ac,hb,ai⟩:=Ud.copy (cap:=cap) h HA.o (by omega) ah;(have am:sl=n:=by have h1:=ac.len;have h2:=h.len;rw [h2] at h1;exact h1.symm);subst am;obtain⟨g,off,ha,_⟩:=ac.us.at' 0 (by show 0<sl;omega);replace ha:sa=some ⟨g,off,none⟩:=ha;subst ha;rw [show (w.alloc (.cells #[.int .i64 x.u.tx,.int .i64 x.u.no,.int .i64 x.u.prev,.int .i64 x.u.kind,.int .i64 x.u.page,.int .i64 x.u.slot,.float .f64 x.u.row.key,.bool x.u.row.dead,.slice x.a x.n x.c,.int .i64 x.u.row.wr,.int .i64 x.u.row.cell,.int .i64 x.u.row.no] 65)).heap.size=w.heap.size+1 by simp] at ab;have HR:=Zh ab;simp only [Sl.val] at HR;have ae:=aj.o.keep hb;have ak:=Zh (Zcu _ x.u (.slice x.a x.n x.c) ⟨_,_,_,rfl⟩ W ae);obtain⟨W4,aa,af,_⟩:=ac.set (g:=g) (off:=off) rfl k (by rw [ac.len];exact hk) x (Col.old hx ac.below) hf;have al:=Zh aa;have ad:=Zh af;(have an:(k:Int)<(sl:Int):=by omega);have ag:x.u.val (.slice x.a x.n x.c)=x.val:=rfl;rw [ag] at ak;clear h hx hf ab ac hb ai ae aa af ag HA aj;unfold Ux.val Un.val;go_enter func97,ntmps97;go_wp2_with (first | (at_builtin;refine Zgk _ rfl 25 (.tmp 8) (.tmp 9) rfl _ _ rfl rfl (.slice (some ⟨g,off,none⟩) sl sc) W HR.o ?_) | refine Zah _ rfl 65 (.tmp 5) rfl (.pointer (some ⟨w.heap.size,0,none⟩)) x.val rfl ak.o ?_ | refine Zac _ rfl rfl 65 (.tmp 15) (.tmp 14) rfl (.pointer (some ⟨g,off+k*12,none⟩)) x.val rfl rfl W4 al.o ?_);go_ret;exact⟨⟨some ⟨g,off,none⟩,sl,sc⟩,rfl,⟨_,ad.o.us,ZpT l k x⟩,ad.o.below⟩
theorem ColR.frm {w0 W:World}{F:Nat→Prop}{x:Rx}(h:ColR w0 w x)(hf:Frm F w W)(hF:∀k,F k→w0.heap.size≤k∧∃cs t,w.heap[k]? = some (Obj.cells cs t (0,0))∧t≠32):ColR w0 W x:=by
 have hn:∀b off,x.a=some ⟨b,off,none⟩→0<x.n→¬F b:=by
  intro b off ha h0 e;obtain⟨h1,cs,t,h2,h3⟩:=hF b e;rcases h.home b off ha h0 with e2 | ⟨C,fr,e2⟩
  · omega
  · rw [h2] at e2;simp only [Option.some.injEq,Obj.cells.injEq] at e2;exact h3 e2.2.1
 have hs:∀b off,x.a=some ⟨b,off,none⟩→0<x.n→W.heap[b]? = w.heap[b]?:=by
  intro b off ha h0;obtain⟨b',off',ha',hc,_,_⟩:=h.fs.at 0 h0;rw [ha'] at ha;cases ha;exact hf.block _ (World.block_lt_of_cell? _ _ hc) (hn _ _ ha' h0)
 refine⟨h.fs.same hs,fun b off ha h0=>?_⟩;rcases h.home b off ha h0 with e2 | ⟨C,fr,e2⟩
 · exact .inl e2
 · exact .inr ⟨C,fr,by rw [hs b off ha h0];exact e2⟩
theorem ColR.zero (w0 w:World):ColR w0 w Rx.zero:=⟨ZcP w,fun _ _ _ hn=>absurd hn (Nat.lt_irrefl 0)⟩
theorem Col.colR {w0:World}{x:Ux}(h:Col w0 w x):ColR w0 w ⟨x.u.row,x.a,x.n,x.c⟩:=⟨h.fs,h.home⟩
theorem Own.frmT {e t:TypeId}{z:Nat}{s:Sl}{vs:List Value}{cs:Array Value}(h:Own e z w s vs)(hg:w.heap[g]? = some (Obj.cells cs t (0,0)))(he:e≠t)(hf:Frm (fun k=>k=g) w w'):Own e z w' s vs:=by
 refine Own.frame h (fun k hk=>hf.block k (Own.lt h hk) (fun e2=>?_));obtain⟨c,hc⟩:=Own.kind h hk;rw [e2,hg] at hc;simp only [Option.some.injEq,Obj.cells.injEq] at hc;exact he hc.2.1.symm
theorem Zee {fn:Func}{x a b:Nat}(hr:fn.results=#[.cell x 39,.tmp a,.tmp b,.tmp c]){W:World}{r:Rw}{ra:Option Addr}{rn rc:Nat}(h:RwBlk W g r (.slice ra rn rc))(tmps:Array Value)(u v t:Value)(tx:tmps.getD x undef=.pointer (some ⟨g,0,none⟩))(ta:tmps.getD a undef=u)(tb:tmps.getD b undef=v)(tc:tmps.getD c undef=t) :
    (results fn tmps).run prog W=.ok (.tuple #[r.val (.slice ra rn rc),u,v,t]) W:=by
  have c0:=h.c0;have c1:=h.c1;have c2:=h.c2;have c3:=h.c3;have c4:=h.c4;have c5:=h.c5;(have tx2:tmps[x]?.getD undef=.pointer (some ⟨g,0,none⟩):=by simpa using tx);(have ta2:tmps[a]?.getD undef=u:=by simpa using ta);(have tb2:tmps[b]?.getD undef=v:=by simpa using tb);(have tc2:tmps[c]?.getD undef=t:=by simpa using tc);simp [results,hr,tx2,ta2,tb2,tc2,go_sem,c0,c1,c2,c3,c4,c5,Rw.val]
theorem Nq.not {wr:World}{q:Sl}{t:List Int}(h:Nq w wr q t){cs:Array Value}{ty:TypeId}(hg:wr.heap[g]? = some (Obj.cells cs ty (0,0)))(ht:ty≠3):¬q.blk=some g:=by
 intro e;obtain⟨c,hc⟩:=Own.kind h.own e;rw [hg] at hc;simp only [Option.some.injEq,Obj.cells.injEq] at hc;exact ht hc.2.1
theorem Zl8 {l:List Ux}(h:∀x∈l,x.u.fits)(c n:Int):(getU (uns l) c n).1.fits:=by
 have h0:∀u∈uns l,u.fits:=by
  intro u hu;obtain⟨x,hx,rfl⟩:=List.mem_map.1 hu;exact h x hx
 unfold getU;split
 · exact Zei
 · show (atU (uns l) c).fits;by_cases hc:1≤c∧c≤(uns l).length
   · rw [ZgU hc];(have hi:(c-1).toNat<(uns l).length:=by omega);rw [unget hi];exact h0 _ (List.getElem_mem hi)
   · rw [Zgq hc];exact Zei
theorem Zk7 (V:Vn Rw)(x:Rw):V.look 400 x=((V.look (400-0) x).1,[] ++ (V.look (400-0) x).2.1,(V.look (400-0) x).2.2):=rfl
theorem ZfS (w:World)(z:Bz)(v:Vw)(s:Sl) :
    ∃Wa Wb W0,w.alloc (.cells #[.int .i64 z.t.nx,.int .i64 z.t.no,.int .i64 z.t.cm,.slice z.es.a z.es.len z.es.cap,.slice z.cs.a z.cs.len z.cs.cap,.slice z.ls.a z.ls.len z.ls.cap] 28)=Wa∧Wa.alloc (.cells #[.int .i64 v.self,.int .i64 v.next,s.val] 31)=Wb∧Wb.alloc (.cells #[.float .f64 0,.bool false,.slice none 0 0,.int .i64 0,.int .i64 0,.int .i64 0] 39)=W0∧BsBlk W0 w.heap.size z∧VwBlk W0 (w.heap.size+1) v s∧RwBlk W0 (w.heap.size+1+1) zeroR (.slice none 0 0)∧Bl w W0∧W0.heap.size=w.heap.size+1+1+1:=by
  have ac:=Zab w (.cells #[.int .i64 z.t.nx,.int .i64 z.t.no,.int .i64 z.t.cm,.slice z.es.a z.es.len z.es.cap,.slice z.cs.a z.cs.len z.cs.cap,.slice z.ls.a z.ls.len z.ls.cap] 28);have b1:=ZaD w z;obtain⟨Wa,ha⟩:∃W,w.alloc (.cells #[.int .i64 z.t.nx,.int .i64 z.t.no,.int .i64 z.t.cm,.slice z.es.a z.es.len z.es.cap,.slice z.cs.a z.cs.len z.cs.cap,.slice z.ls.a z.ls.len z.ls.cap] 28)=W:=⟨_,rfl⟩;(have sa:Wa.heap.size=w.heap.size+1:=by rw [← ha];exact Zaf _ _);rw [ha] at ac b1;have ab:=Zab Wa (.cells #[.int .i64 v.self,.int .i64 v.next,s.val] 31);have b2:=Zd9 Wa v s;obtain⟨Wb,hb⟩:∃W,Wa.alloc (.cells #[.int .i64 v.self,.int .i64 v.next,s.val] 31)=W:=⟨_,rfl⟩;(have sb:Wb.heap.size=w.heap.size+1+1:=by rw [← hb,Zaf,sa]);rw [hb] at ab b2;rw [sa] at b2;have aa:=Zab Wb (.cells #[.float .f64 0,.bool false,.slice none 0 0,.int .i64 0,.int .i64 0,.int .i64 0] 39);have b4:RwBlk (Wb.alloc (.cells #[.float .f64 0,.bool false,.slice none 0 0,.int .i64 0,.int .i64 0,.int .i64 0] 39)) Wb.heap.size zeroR (.slice none 0 0):=Zai Wb zeroR (.slice none 0 0);obtain⟨W0,hd⟩:∃W,Wb.alloc (.cells #[.float .f64 0,.bool false,.slice none 0 0,.int .i64 0,.int .i64 0,.int .i64 0] 39)=W:=⟨_,rfl⟩;(have sd:W0.heap.size=w.heap.size+1+1+1:=by rw [← hd,Zaf,sb]);rw [hd] at aa b4;rw [sb] at b4;exact⟨Wa,Wb,W0,ha,hb,hd,b1.keep (Zad ab aa),b2.keep aa,b4,Zad ac (Zad ab aa),sd⟩
end Go.Proofs.YtiecfcjlhldhdaaGreat
