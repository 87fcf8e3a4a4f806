/-
  Lemmas.
-/
import Derived.Test.YtdojdcncncgncaaGreatKtbe
import Derived.Deep.CutBlock
import Derived.Sort.WalkA
import Derived.Sort.LotD3
import Derived.Test.YtdojdcncncgncaaGreatKtaj
namespace Go.Proofs.YtdojdcncncgncaaGreat
open Go.RowKit
set_option linter.unusedVariables false
set_option maxRecDepth 100000
set_option maxHeartbeats 4000000
variable {w0 W:World}{blk off m hi first root:Nat}{d:Array Int}{xs:List Nat}
theorem ZoT (h:nul xs=true):xs=List.replicate xs.length 0:=by
 rw [List.eq_replicate_iff];refine⟨rfl,fun x hx=>?_⟩;unfold nul at h;have:=List.all_eq_true.1 h x hx;simpa using this
theorem ZjM (n:Nat):nul (List.replicate n 0)=true:=by
 unfold nul;rw [List.all_eq_true];intro x hx;rw [(List.mem_replicate.1 hx).2];rfl
theorem Zn4 (hn:nul (xs.drop (20+8*xs.getD 19 0))=false):decH xs=none:=by
 cases hd:decH xs with
 | none=>rfl
 | some r =>
  obtain⟨h1,h2,h3,h4⟩:=ZbI hd;have hm:=Zet h3;have aa:=ZkO hm;rw [h4] at aa;have hl:=ZbF r;have:xs.drop (20+8*xs.getD 19 0)=List.replicate (52-r.bytes.length) 0:=by
   rw [aa,← h4,← hl];unfold hpB;rw [List.drop_left]
  rw [this,ZjM] at hn;cases hn
theorem Zo2 (hx:Bytes xs)(h1:xs.length=52)(h4:xs.getD 19 0≤4)(hn:nul (xs.drop (20+8*xs.getD 19 0))=true){r:Rw}(h:decB (xs.take (20+8*xs.getD 19 0))=some r):decH xs=some r:=by
 refine ZiB h1 h4 h ?_;have hc:=ZgN (fun x hh=>hx x (List.mem_of_mem_take hh)) h;have hz:=ZoT hn;unfold hpB;rw [hc,List.length_take,Nat.min_eq_left (by omega)];rw [List.length_drop,h1] at hz;rw [← hz,List.take_append_drop]
theorem ZlA (a:Option Addr)(len cap:Nat)(xs:List Nat)(w:World)(h:Came w a len cap xs)(hl:len≠52) :
    Calls Tryz.prog 110 #[.slice a len cap] w (Zbd xs w):=by
  have aa:∀(w:World) (a:Addr) (m:Mode) (x:Nat),(store a (.float .f64 x) m).run Tryz.prog w=stored Tryz.prog w a (.float .f64 x) m:=fun w a m x=>run_store Tryz.prog w a _ m rfl;have HZ:=hide (Zak w zeroR (.slice none 0 0));have HW:=hide (Zaa w (.cells #[.float .f64 0,.bool false,.slice none 0 0,.int .i64 0,.int .i64 0,.int .i64 0] 33));have HN:=hide (ZgK (xs:=xs) (by rw [h.bs.1];exact hl));(have i1:¬(len:Int)=52:=by omega);have i2:((len:Int) == 52)=false:=beq_eq_false_iff_ne.2 i1;clear h;go_enter Tryz.func110,Tryz.ntmps110;go_wp2_with fail;refine bodyPost_ret (ZaI rfl HZ.out _ _ rfl rfl ⟨_,_,_,rfl⟩) rfl ?_;exact Zbd.no HN.out HW.out
theorem Zkb (a:Option Addr)(cap:Nat)(xs:List Nat)(w:World)(h:Came w a 52 cap xs)(h4:4<xs.getD 19 0) :
    Calls Tryz.prog 110 #[.slice a 52 cap] w (Zbd xs w):=by
  have aa:∀(w:World) (a:Addr) (m:Mode) (x:Nat),(store a (.float .f64 x) m).run Tryz.prog w=stored Tryz.prog w a (.float .f64 x) m:=fun w a m x=>run_store Tryz.prog w a _ m rfl;have HZ:=hide (Zak w zeroR (.slice none 0 0));have HW:=hide (Zaa w (.cells #[.float .f64 0,.bool false,.slice none 0 0,.int .i64 0,.int .i64 0,.int .i64 0] 33));have HN:=hide (ZgL (xs:=xs) h4);have hb:xs.getD 19 0<256:=by
   have hl:=h.bs.1;have:=h.bs.2.1 (xs.getD 19 0) (by simp [List.getD,show 19<xs.length by omega]);omega
  obtain⟨b,off,rfl,c19⟩:=(h.bs.keep HW.out (Nat.le_refl _)).2.2 19 (by omega);generalize xs.getD 19 0=n at *;(have i2:(52:Int)<20+8*(n:Int):=by omega);(have ab:IntKind.i64.wrap (8*(n:Int))=8*(n:Int):=by rw [IntKind.wrap_i64];omega);(have ac:IntKind.i64.wrap (20+8*(n:Int))=20+8*(n:Int):=by rw [IntKind.wrap_i64];omega);(have ad:IntKind.i64.wrap (n:Int)=(n:Int):=by rw [IntKind.wrap_i64];omega);clear h;go_enter Tryz.func110,Tryz.ntmps110;go_wp2_with fail;refine bodyPost_ret (ZaI rfl HZ.out _ _ rfl rfl ⟨_,_,_,rfl⟩) rfl ?_;exact Zbd.no HN.out HW.out
theorem Zkc (a:Option Addr)(cap:Nat)(xs:List Nat)(w:World)(h:Came w a 52 cap xs)(h4:xs.getD 19 0≤4) :
    Calls Tryz.prog 110 #[.slice a 52 cap] w (Zbd xs w):=by
  have bk:∀(w:World) (a:Addr) (m:Mode) (x:Nat),(store a (.float .f64 x) m).run Tryz.prog w=stored Tryz.prog w a (.float .f64 x) m:=fun w a m x=>run_store Tryz.prog w a _ m rfl;have HZ:=hide (Zak w zeroR (.slice none 0 0));have HW:=hide (Zaa w (.cells #[.float .f64 0,.bool false,.slice none 0 0,.int .i64 0,.int .i64 0,.int .i64 0] 33));have bg:Hid (xs.length=52):=h.bs.1;have bf:=hide h.bs.2.1;have HC:=hide h;have am:=hide (Zk6 (xs:=xs));have ao:=hide (Zn4 (xs:=xs));have ag:Hid (nul (xs.drop (20+8*xs.getD 19 0))=true→∀r,decB (xs.take (20+8*xs.getD 19 0))=some r→decH xs=some r):=fun hn r hr=>Zo2 bf.out bg.out h4 hn hr;have au:=h.bs.keep HW.out (Nat.le_refl _);have ad:=au.from (cap:=cap) (k:=20+8*xs.getD 19 0) (by omega) h.le;have af:=hide (Zjs _ _ _ (cap-(20+8*xs.getD 19 0)) _ ad (by omega));obtain⟨b,off,rfl,c19⟩:=au.2.2 19 (by omega);have HT:=hide ((HC.out.keep HW.out (Nat.le_refl _)).top (k:=20+8*xs.getD 19 0) (by omega));clear au ad;generalize xs.getD 19 0=n at *;(have i2:¬(52:Int)<20+8*(n:Int):=by omega);(have av:fromA (some ⟨b,off,none⟩) cap 0=some ⟨b,off,none⟩:=by unfold fromA;have:=HC.out.le;rw [if_neg (by omega)];rfl);rw [av] at HT;have HD:=hide (Zjv (some ⟨b,off,none⟩) (20+8*n) cap (xs.take (20+8*n)) _ HT.out (by omega));have bh:52≤cap:=HC.out.le;have bl:∀w:World,(Instr.sliceAt 56 (.slice (some ⟨b,off,none⟩) 52 cap) none (some (.int .i64 (20+8*(n:Int)))) none).run Tryz.prog w=.ok (.slice (some ⟨b,off,none⟩) (20+8*n) cap) w:=by
   intro w;have:=ZfT (some ⟨b,off,none⟩) 52 cap (20+8*n) (by omega) w;rw [av,show ((20+8*n:Nat):Int)=20+8*(n:Int) by omega] at this;exact this
  obtain⟨fa,ax⟩:∃fa,fa=fromA (some ⟨b,off,none⟩) cap (20+8*n):=⟨_,rfl⟩;obtain⟨fl,ay⟩:∃fl,fl=52-(20+8*n):=⟨_,rfl⟩;obtain⟨fc,aw⟩:∃fc,fc=cap-(20+8*n):=⟨_,rfl⟩;have bi:∀w:World,(Instr.sliceAt 56 (.slice (some ⟨b,off,none⟩) 52 cap) (some (.int .i64 (20+8*(n:Int)))) none none).run Tryz.prog w=.ok (.slice fa fl fc) w:=by
   intro w;have:=ZcS (some ⟨b,off,none⟩) 52 cap (20+8*n) (by omega) w;rw [← ax,← ay,← aw,show ((20+8*n:Nat):Int)=20+8*(n:Int) by omega] at this;exact this
  rw [← ax,← ay,← aw] at af;(have bm:IntKind.i64.wrap (8*(n:Int))=8*(n:Int):=by rw [IntKind.wrap_i64];omega);(have bn:IntKind.i64.wrap (20+8*(n:Int))=20+8*(n:Int):=by rw [IntKind.wrap_i64];omega);(have bo:IntKind.i64.wrap (n:Int)=(n:Int):=by rw [IntKind.wrap_i64];omega);clear h av HT ax ay aw;cases hnu:nul (xs.drop (20+8*n)) with
  | false =>
   rw [hnu] at af;have HN:=hide (ao.out hnu);clear hnu ao ag am HD;go_enter Tryz.func110,Tryz.ntmps110;go_wp2_with fail;refine af.out.mono ?_;rintro e w1 ⟨rfl,hw⟩;obtain rfl:=hw.symm;go_wp2_with fail;refine bodyPost_ret (ZaI rfl HZ.out _ _ rfl rfl ⟨_,_,_,rfl⟩) rfl ?_;exact Zbd.no HN.out HW.out
  | true =>
   rw [hnu] at af;have ac:=hide (ag.out hnu);clear hnu ao ag;go_enter Tryz.func110,Tryz.ntmps110;go_wp2_with fail;refine af.out.mono ?_;rintro e w1 ⟨rfl,hw⟩;obtain rfl:=hw.symm;go_wp2_with fail;refine HD.out.mono ?_;intro e w1 hr;have bb:=hide (Zad HW.out hr.1);have bc:=hide (HZ.out.keep hr.1);cases hd:decB (xs.take (20+8*n)) with
   | none =>
    have HN:=hide (am.out hd);have az:=hr.2.1 hd;subst az;have al:=hide (Zaa w1 (.cells #[.float .f64 zeroR.key,.bool zeroR.dead,.slice none 0 0,.int .i64 zeroR.wr,.int .i64 zeroR.cell,.int .i64 zeroR.no] 33));clear hr hd am ac HD c19 af;unfold Zcr;have ae:Hid (Below w.heap.size w (w1.alloc (.cells #[.float .f64 zeroR.key,.bool zeroR.dead,.slice none 0 0,.int .i64 zeroR.wr,.int .i64 zeroR.cell,.int .i64 zeroR.no] 33))):=Zad bb.out al.out;have aa:=hide (bc.out.keep al.out);unfold zeroR at ae aa al;simp only at ae aa al;have ab:=hide (Zak w1 zeroR (.slice none 0 0));unfold zeroR at ab;simp only at ab;generalize ai:w1.alloc (.cells #[.float .f64 0,.bool false,.slice none 0 0,.int .i64 0,.int .i64 0,.int .i64 0] 33)=WX at ae aa ab;have aq:=hide ai;clear ai;have z0:=aa.out.c0;have z1:=aa.out.c1;have z2:=aa.out.c2;have z3:=aa.out.c3;have z4:=aa.out.c4;have z5:=aa.out.c5;have f0:=aa.out.fz;have x0:=ab.out.c0;have x1:=ab.out.c1;have x2:=ab.out.c2;have x3:=ab.out.c3;have x4:=ab.out.c4;have x5:=ab.out.c5;simp only at z0 z1 z3 z4 z5 x0 x1 x3 x4 x5;go_upto_region 7 with fail;rw [aq.out];go_wp2_with fail;show bodyPost Tryz.prog Tryz.f110 _ Exit.ret _ (setRw WX w.heap.size zeroR (.slice none 0 0));refine Zch rfl aa.out zeroR (.slice none 0 0) (.bool false) ⟨_,_,_,rfl⟩ (by rfl) (by rfl) (by rfl) ?_;exact Zbd.no HN.out (Zao ae.out (Nat.le_refl _) _ _)
   | some r =>
    obtain⟨be,ra,rl,rc,az,bd,ak⟩:=hr.2.2 r hd;subst az;have HY:=hide (ac.out r hd);have ah:=hide be;have an:=Zaa w1 (.cells #[.float .f64 r.key,.bool r.dead,.slice ra rl rc,.int .i64 r.wr,.int .i64 r.cell,.int .i64 r.no] 33);have ae:=hide (Zad bb.out an);have aa:=hide (bc.out.keep an);have ab:=hide (Zak w1 r (.slice ra rl rc));have ap:=hide ((ak.lower (b':=w.heap.size) HW.out.size).keep an (Nat.le_refl _));have aj:=Zet hd;have bj:=(Rw.may_parts aj).2.1;have ba:rl=r.xs.length:=(bd.len).symm;(have ar:Hid (r.xs.length≤100):=by show _≤_;omega);unfold Rw.val;generalize ai:w1.alloc (.cells #[.float .f64 r.key,.bool r.dead,.slice ra rl rc,.int .i64 r.wr,.int .i64 r.cell,.int .i64 r.no] 33)=WX at ae aa ab ap;have aq:=hide ai;clear ai hr hd am ac HD c19 af be bd ak an aj bj ba;have z0:=aa.out.c0;have z1:=aa.out.c1;have z2:=aa.out.c2;have z3:=aa.out.c3;have z4:=aa.out.c4;have z5:=aa.out.c5;have f0:=aa.out.fz;simp only [zeroR] at z0 z1 z3 z4 z5;have x0:=ab.out.c0;have x1:=ab.out.c1;have x2:=ab.out.c2;have x3:=ab.out.c3;have x4:=ab.out.c4;have x5:=ab.out.c5;go_upto_region 7 with fail;rw [aq.out];go_wp2_with fail;show bodyPost Tryz.prog Tryz.f110 _ Exit.ret _ (setRw WX w.heap.size r (.slice ra rl rc));refine Zch rfl aa.out r (.slice ra rl rc) (.bool true) ⟨_,_,_,rfl⟩ (by rfl) (by rfl) (by rfl) ?_;refine⟨Zao ae.out (Nat.le_refl _) _ _,(fun h=>by rw [HY.out] at h;cases h),fun q h=>?_⟩;rw [HY.out] at h;simp only [Option.some.injEq] at h;subst h;exact⟨ah.out,ra,rl,rc,rfl,(ap.out.setRw aa.out _ _).fsAt ah.out.xs (by have:=ar.out;omega),ap.out.setRw aa.out _ _⟩
theorem Zl9 (a:Option Addr)(len cap:Nat)(xs:List Nat)(w:World)(h:Came w a len cap xs) :
    Calls Tryz.prog 110 #[.slice a len cap] w (Zbd xs w):=by
  by_cases hl:len=52
  · subst hl;rcases Nat.lt_or_ge 4 (xs.getD 19 0) with h4 | h4
    · exact Zkb a cap xs w h h4
    · exact Zkc a cap xs w h h4
  · exact ZlA a len cap xs w h hl
open Go.RowKit Go.Sort
def uE (x:Int):Value:=.int .u64 x
structure Sq (w0:World) (blk off m:Nat) (W:World) (d:Array Int):Prop where
  size:d.size=m
  holds:Holds uE W blk off d
  frm:Frm (fun k=>k=blk) w0 W
theorem Sq.cell (h:Sq w0 blk off m W d)(t:Nat)(ht:t<m):W.cell? ⟨blk,off+t,none⟩=some (.int .u64 d[t]!):=(h.holds t (by rw [h.size];exact ht)).1
theorem Sq.fz (h:Sq w0 blk off m W d)(t:Nat)(ht:t<m):W.frozen? ⟨blk,off+t,none⟩=false:=(h.holds t (by rw [h.size];exact ht)).2
theorem Sq.drewN (h:Sq w0 blk off m W d)(q:Nat):Sq w0 blk off m (W.drewN q) d:=
 ⟨h.size,h.holds,⟨h.frm.os,h.frm.tape,h.frm.output,h.frm.size,h.frm.block⟩⟩
theorem Sq.drew1 (h:Sq w0 blk off m W d):Sq w0 blk off m W.drew d:=h.drewN 1
theorem Sq.lt (h:Sq w0 blk off m W d)(hm:0<m):blk<W.heap.size:=World.block_lt_of_cell? W _ (h.cell 0 hm)
theorem Sq.below {W':World}(h:Sq w0 blk off m W d)(hb:Below W.heap.size W W'):Sq w0 blk off m W' d:=by
 refine⟨h.size,fun t ht=>?_,h.frm.trans (G:=fun _=>False) (Frm.ofBelow hb) (fun _ _ h=>h.elim)⟩;have hl:blk<W.heap.size:=World.block_lt_of_cell? W _ (h.holds t ht).1;refine⟨(hb.cell (p:=⟨blk,off+t,none⟩) hl).trans (h.holds t ht).1,?_⟩;rw [← (h.holds t ht).2];simp only [World.frozen?,hb.block blk hl]
theorem Sq.swap (h:Sq w0 blk off m W d)(q i j:Nat)(hi:i<m)(hj:j<m):Sq w0 blk off m (((W.drewN q).setCell ⟨blk,off+i,none⟩ (.int .u64 d[j]!)).setCell ⟨blk,off+j,none⟩ (.int .u64 d[i]!)) (swp d i j):=by
 have hd:=h.drewN q;generalize W.drewN q=V at hd;have hs:=hd.size;have e:(V.setCell ⟨blk,off+i,none⟩ (.int .u64 d[j]!)).setCell ⟨blk,off+j,none⟩ (.int .u64 d[i]!)=putRow uE V blk off (swp d i j):=by
  have:=putRow_swp uE V blk off d i j (by omega) (by omega);rw [putRow_self uE V blk off d hd.holds] at this;exact this
 refine⟨by rw [size_swp];exact hs,?_,(hd.frm.setCell rfl _).setCell rfl _⟩;rw [e];exact holds_putRow uE V blk off d _ hd.holds (by rw [size_swp])
theorem Zah (x y:Int)(w:World):Calls Tryz.prog 168 #[.int .u64 x,.int .u64 y] w fun e w'=>e=.returned (.bool (ltInt x y))∧w'=w:=by
 have hN:∀(z:Int) (w:World),Calls Tryz.prog 182 #[.int .u64 z] w fun e w'=>e=.returned (.bool false)∧w'=w:=by
  intro z w;go_enter Tryz.func182,Tryz.ntmps182;go_wp2_with fail;go_ret;exact⟨by simp,rfl⟩
 go_enter Tryz.func168,Tryz.ntmps168;go_wp2_with (go_at_call 182;refine (hN _ _).mono ?_;rintro e w' ⟨rfl,rfl⟩);go_ret;exact⟨rfl,rfl⟩
theorem ZkX (w0 W:World)(blk off m cap a b:Nat)(d:Array Int)(h:Sq w0 blk off m W d)(ag:a≤b)(hb:b≤m)(hm:m<1000000) :
    Calls Tryz.prog 162 #[.slice (some ⟨blk,off,none⟩) m cap,.int .i64 (a:Nat),.int .i64 (b:Nat)] W fun e W'=>e=.returned (.tuple #[])∧Sq w0 blk off m W' (insertionSort ltInt d a b):=by
  have HS:=hide h;clear h;go_enter Tryz.func162,Tryz.ntmps162;go_wp2_with fail;go_loopw [6] (fun vi wr=>∃(i:Nat) (dk:Array Int),vi=.int .i64 (i:Nat)∧a<i∧i≤b+1∧Hid (Sq w0 blk off m wr dk)∧Hid (insOuter ltInt a b i dk=insOuter ltInt a b (a+1) d)) (fun vi _=>b+1-(intOf vi).toNat)
  case atStart=>exact ⟨a+1,d,by go_num,by omega,by omega,HS,rfl⟩
  case round =>
   obtain⟨i,dk,rfl,ah,am,ad,hO⟩:=hrel;rcases Nat.lt_or_ge i b with af | al
   · (have j1:(i:Int)<(b:Int):=by omega);go_wp2_with fail;go_loopw [7] (fun vj wr2=>∃(j:Nat) (dj:Array Int),vj=.int .i64 (j:Nat)∧a≤j∧j≤i∧Hid (Sq w0 blk off m wr2 dj)∧Hid (insInner ltInt a j dj=insInner ltInt a i dk)) (fun vj _=>(intOf vj).toNat)
     case atStart=>exact ⟨i,dk,rfl,by omega,Nat.le_refl _,ad,rfl⟩
     case round =>
      rename World=>wr2;obtain⟨j,dj,rfl,ai,an,aa,hI⟩:=hrel;have OUT:(j≤a∨ltInt dj[j]! dj[j-1]! = false)→Hid (insOuter ltInt a b (i+1) dj=insOuter ltInt a b (a+1) d):=fun hs=>by
       show _=_;rw [← hO.out,insOuter_go _ _ _ _ _ af,← hI.out,insInner_stop _ _ _ _ hs]
      by_cases ae:a<j
      · obtain⟨G,hG⟩:∃G:Nat→Int,∀t,G t=dj[t]!:=⟨fun t=>dj[t]!,fun _=>rfl⟩;(have aj:∀t,t<m→wr2.cell? ⟨blk,off+t,none⟩=some (.int .u64 (G t)):=fun t ht=>by rw [hG];exact aa.out.cell t ht);have ak:∀t,t<m→wr2.frozen? ⟨blk,off+t,none⟩=false:=aa.out.fz;have HG:Hid (∀t,G t=dj[t]!):=hG;(have j2:(a:Int)<(j:Int):=by omega);have ab:=hide OUT;clear hG OUT;cases hl:ltInt (G j) (G (j-1)) with
        | true =>
         have HL:Hid (insInner ltInt a (j-1) (swp dj j (j-1))=insInner ltInt a i dk):=by
          show _=_;rw [← hI.out,insInner_go ltInt a j dj ae (by rw [← HG.out,← HG.out];exact hl)]
         have HW:∀q,Hid (Sq w0 blk off m (((wr2.drewN q).setCell ⟨blk,off+j,none⟩ (.int .u64 (G (j-1)))).setCell ⟨blk,off+(j-1),none⟩ (.int .u64 (G j))) (swp dj j (j-1))):=fun q=>by
          rw [HG.out,HG.out];exact aa.out.swap q j (j-1) (by omega) (by omega)
         clear hI aa ab;go_wp2_with fail;go_quiet (first | (go_at_call 168;refine Calls.quiet_of_same (Zah _ _ _)));go_wp2_with fail;go_region;(all_goals go_wp2_with fail);go_roundw
         case rel=>exact ⟨j-1,swp dj j (j-1),by congr 1;omega,by omega,by omega,HW (nq+1),HL⟩
         case measure=>simp only [intOf];omega
        | false =>
         have ac:Hid (insOuter ltInt a b (i+1) dj=insOuter ltInt a b (a+1) d):=ab.out (.inr (by rw [← HG.out,← HG.out];exact hl));have HW:∀q,Hid (Sq w0 blk off m (wr2.drewN q) dj):=fun q=>aa.out.drewN q;clear hI aa ab;go_wp2_with fail;go_quiet (first | (go_at_call 168;refine Calls.quiet_of_same (Zah _ _ _)));go_wp2_with fail;go_roundw
         case rel=>exact ⟨i+1,dj,by go_num,by omega,by omega,HW nq,ac⟩
         case measure=>simp only [intOf];omega
      · (have j2:¬(a:Int)<(j:Int):=by omega);have ac:=OUT (.inl (by omega));have HW:∀q,Hid (Sq w0 blk off m (wr2.drewN q) dj):=fun q=>aa.out.drewN q;clear OUT hI aa;go_wp2_with fail;go_quiet (first | (go_at_call 168;refine Calls.quiet_of_same (Zah _ _ _)));go_wp2_with fail;go_roundw
        case rel=>exact ⟨i+1,dj,by go_num,by omega,by omega,HW nq,ac⟩
        case measure=>simp only [intOf];omega
   · (have j1:¬(i:Int)<(b:Int):=by omega);have HE:Hid (dk=insertionSort ltInt d a b):=by
      show _=_;unfold insertionSort;rw [← hO.out,insOuter_stop _ _ _ _ _ (by omega)]
     go_wp2_with fail;go_end0;exact⟨rfl,by rw [← HE.out];exact ad.out⟩
open Go.RowKit Go.Sort
section
variable {α : Type} [Inhabited α] (lt : α → α → Bool)
theorem ZlK {d:Array α}(h:hi≤2*root+1):siftDown lt hi first root d=d:=by
 rw [siftDown,dif_pos h]
theorem Zkg {d:Array α}(h1:¬hi≤2*root+1)(h2:2*root+2<hi)(hl:lt d[first+2*root+1]! d[first+2*root+2]! = true) :
    siftDown lt hi first root d=if lt d[first+root]! d[first+2*root+2]! = true then siftDown lt hi first (2*root+2) (swp d (first+root) (first+2*root+2)) else d:=by
  have hl':lt d[first+(2*root+1)]! d[first+(2*root+1)+1]! = true:=hl;rw [siftDown,dif_neg h1,if_pos (by rw [hl'];simpa using h2)];have e:first+(2*root+2)=first+2*root+2:=rfl;rw [e];cases h3:lt d[first+root]! d[first+2*root+2]! <;> simp [h2]
theorem Zh6 {d:Array α}(h1:¬hi≤2*root+1)(h2:¬2*root+2<hi∨lt d[first+2*root+1]! d[first+2*root+2]! = false) :
    siftDown lt hi first root d=if lt d[first+root]! d[first+2*root+1]! = true then siftDown lt hi first (2*root+1) (swp d (first+root) (first+2*root+1)) else d:=by
  have hc:¬((decide (2*root+1+1<hi) && lt d[first+(2*root+1)]! d[first+(2*root+1)+1]!)=true):=by
   have e:first+(2*root+1)+1=first+2*root+2:=rfl;have e':first+(2*root+1)=first+2*root+1:=rfl;rcases h2 with h | h
   · rw [decide_eq_false (by omega)];simp
   · rw [e,e',h];simp
  rw [siftDown,dif_neg h1,if_neg hc];have e':first+(2*root+1)=first+2*root+1:=rfl;rw [e'];cases h3:lt d[first+root]! d[first+2*root+1]! <;> simp
end
theorem ZfS (w0 W:World)(blk off m cap lo hi first:Nat)(d:Array Int)(h:Sq w0 blk off m W d)(hf:first+hi≤m)(hm:m<1000000)(ak:lo<1000000) :
    Calls Tryz.prog 179 #[.slice (some ⟨blk,off,none⟩) m cap,.int .i64 (lo:Nat),.int .i64 (hi:Nat),.int .i64 (first:Nat)] W fun e W'=>e=.returned (.tuple #[])∧Sq w0 blk off m W' (siftDown ltInt hi first lo d):=by
  have HS:=hide h;clear h;go_enter Tryz.func179,Tryz.ntmps179;go_wp2_with fail;go_loopw [8] (fun vi wr=>∃(r:Nat) (dk:Array Int),vi=.int .i64 (r:Nat)∧r<1000000∧Hid (Sq w0 blk off m wr dk)∧Hid (siftDown ltInt hi first r dk=siftDown ltInt hi first lo d)) (fun vi _=>hi-(intOf vi).toNat)
  case atStart=>exact ⟨lo,d,rfl,ak,HS,rfl⟩
  case round =>
   obtain⟨r,dk,rfl,hr,ai,hO⟩:=hrel;by_cases ag:hi≤2*r+1
   · have HE:Hid (dk=siftDown ltInt hi first lo d):=by
      show _=_;rw [← hO.out,ZlK _ ag]
     go_wp2_with fail;go_end0;exact⟨rfl,by rw [← HE.out];exact ai.out⟩
   · obtain⟨G,hG⟩:∃G:Nat→Int,∀t,G t=dk[t]!:=⟨fun t=>dk[t]!,fun _=>rfl⟩;(have ae:∀t,t<m→wr.cell? ⟨blk,off+t,none⟩=some (.int .u64 (G t)):=fun t ht=>by rw [hG];exact ai.out.cell t ht);have af:∀t,t<m→wr.frozen? ⟨blk,off+t,none⟩=false:=ai.out.fz;have HG:Hid (∀t,G t=dk[t]!):=hG;have ad:=ai;clear hG;(have i1:first+r<m:=by omega);(have i2:first+2*r+1<m:=by omega);(have n2:¬((hi:Int)≤2*(r:Int)+1):=by omega);by_cases h2:2*r+2<hi
     · (have i3:first+2*r+2<m:=by omega);(have j2:(2*(r:Int)+1+1)<(hi:Int):=by omega);cases hl:ltInt (G (first+2*r+1)) (G (first+2*r+2)) with
       | true =>
        have hx:=Zkg ltInt (d:=dk) (first:=first) ag h2 (by rw [← HG.out,← HG.out];exact hl);rw [hO.out,← HG.out,← HG.out] at hx;cases hk:ltInt (G (first+r)) (G (first+2*r+2)) with
        | true =>
         rw [hk,if_pos rfl] at hx;have HX:=hide hx;clear hx hO ai;go_wp2_with fail;go_quiet (first | (go_at_call 168;refine Calls.quiet_of_same (Zah _ _ _)));go_wp2_with fail;have ac:Sq w0 blk off m (wr.drewN nq) dk:=ad.out.drewN nq;have aa:∀t,t<m→(wr.drewN nq).cell? ⟨blk,off+t,none⟩=some (.int .u64 (G t)):=ae;have ab:∀t,t<m→(wr.drewN nq).frozen? ⟨blk,off+t,none⟩=false:=af;clear ad ae af;generalize wr.drewN nq=wr2 at ac aa ab ⊢;clear nq;have ad:=hide ac;have ae:=aa;have af:=ab;clear ac aa ab;go_quiet (first | (go_at_call 168;refine Calls.quiet_of_same (Zah _ _ _)));go_wp2_with fail;have aj:Hid (∀q,Sq w0 blk off m (((wr2.drewN q).setCell ⟨blk,off+(first+r),none⟩ (.int .u64 (G (first+2*r+2)))).setCell ⟨blk,off+(first+2*r+2),none⟩ (.int .u64 (G (first+r)))) (swp dk (first+r) (first+2*r+2))):=fun q=>by
          rw [HG.out,HG.out];exact ad.out.swap q _ _ i1 (by omega)
         clear ad HG;go_region;(all_goals go_wp2_with fail);go_roundw
         case rel=>exact ⟨2*r+2,_,by go_num,by omega,aj.out _,hide HX.out.symm⟩
         case measure=>simp only [intOf];omega
        | false =>
         rw [hk,if_neg (by decide)] at hx;have HX:=hide hx;clear hx hO ai HG;go_wp2_with fail;go_quiet (first | (go_at_call 168;refine Calls.quiet_of_same (Zah _ _ _)));go_wp2_with fail;have ac:Sq w0 blk off m (wr.drewN nq) dk:=ad.out.drewN nq;have aa:∀t,t<m→(wr.drewN nq).cell? ⟨blk,off+t,none⟩=some (.int .u64 (G t)):=ae;have ab:∀t,t<m→(wr.drewN nq).frozen? ⟨blk,off+t,none⟩=false:=af;clear ad ae af;generalize wr.drewN nq=wr2 at ac aa ab ⊢;clear nq;have ad:=hide ac;have ae:=aa;have af:=ab;clear ac aa ab;go_quiet (first | (go_at_call 168;refine Calls.quiet_of_same (Zah _ _ _)));go_wp2_with fail;have ah:Hid (∀q,Sq w0 blk off m (wr2.drewN q) dk):=ad.out.drewN;(try simp only [Exit.inBlock,Exit.then]);refine bodyPost_ret (results_none rfl _ _ _) rfl ?_;exact⟨rfl,by rw [HX.out];exact ah.out _⟩
       | false =>
        have hx:=Zh6 ltInt (d:=dk) (first:=first) ag (.inr (by rw [← HG.out,← HG.out];exact hl));rw [hO.out,← HG.out,← HG.out] at hx;cases hk:ltInt (G (first+r)) (G (first+2*r+1)) with
        | true =>
         rw [hk,if_pos rfl] at hx;have HX:=hide hx;clear hx hO ai;go_wp2_with fail;go_quiet (first | (go_at_call 168;refine Calls.quiet_of_same (Zah _ _ _)));go_wp2_with fail;have ac:Sq w0 blk off m (wr.drewN nq) dk:=ad.out.drewN nq;have aa:∀t,t<m→(wr.drewN nq).cell? ⟨blk,off+t,none⟩=some (.int .u64 (G t)):=ae;have ab:∀t,t<m→(wr.drewN nq).frozen? ⟨blk,off+t,none⟩=false:=af;clear ad ae af;generalize wr.drewN nq=wr2 at ac aa ab ⊢;clear nq;have ad:=hide ac;have ae:=aa;have af:=ab;clear ac aa ab;go_quiet (first | (go_at_call 168;refine Calls.quiet_of_same (Zah _ _ _)));go_wp2_with fail;have aj:Hid (∀q,Sq w0 blk off m (((wr2.drewN q).setCell ⟨blk,off+(first+r),none⟩ (.int .u64 (G (first+2*r+1)))).setCell ⟨blk,off+(first+2*r+1),none⟩ (.int .u64 (G (first+r)))) (swp dk (first+r) (first+2*r+1))):=fun q=>by
          rw [HG.out,HG.out];exact ad.out.swap q _ _ i1 (by omega)
         clear ad HG;go_region;(all_goals go_wp2_with fail);go_roundw
         case rel=>exact ⟨2*r+1,_,by go_num,by omega,aj.out _,hide HX.out.symm⟩
         case measure=>simp only [intOf];omega
        | false =>
         rw [hk,if_neg (by decide)] at hx;have HX:=hide hx;clear hx hO ai HG;go_wp2_with fail;go_quiet (first | (go_at_call 168;refine Calls.quiet_of_same (Zah _ _ _)));go_wp2_with fail;have ac:Sq w0 blk off m (wr.drewN nq) dk:=ad.out.drewN nq;have aa:∀t,t<m→(wr.drewN nq).cell? ⟨blk,off+t,none⟩=some (.int .u64 (G t)):=ae;have ab:∀t,t<m→(wr.drewN nq).frozen? ⟨blk,off+t,none⟩=false:=af;clear ad ae af;generalize wr.drewN nq=wr2 at ac aa ab ⊢;clear nq;have ad:=hide ac;have ae:=aa;have af:=ab;clear ac aa ab;go_quiet (first | (go_at_call 168;refine Calls.quiet_of_same (Zah _ _ _)));go_wp2_with fail;have ah:Hid (∀q,Sq w0 blk off m (wr2.drewN q) dk):=ad.out.drewN;(try simp only [Exit.inBlock,Exit.then]);refine bodyPost_ret (results_none rfl _ _ _) rfl ?_;exact⟨rfl,by rw [HX.out];exact ah.out _⟩
     · have j2:decide ((2*(r:Int)+1+1)<(hi:Int))=false:=decide_eq_false (by omega);have hx:=Zh6 ltInt (d:=dk) (first:=first) ag (.inl h2);rw [hO.out,← HG.out,← HG.out] at hx;cases hk:ltInt (G (first+r)) (G (first+2*r+1)) with
       | true =>
        rw [hk,if_pos rfl] at hx;have HX:=hide hx;clear hx hO ai;go_wp2_with fail;go_quiet (first | (go_at_call 168;refine Calls.quiet_of_same (Zah _ _ _)));go_wp2_with fail;have ac:Sq w0 blk off m (wr.drewN nq) dk:=ad.out.drewN nq;have aa:∀t,t<m→(wr.drewN nq).cell? ⟨blk,off+t,none⟩=some (.int .u64 (G t)):=ae;have ab:∀t,t<m→(wr.drewN nq).frozen? ⟨blk,off+t,none⟩=false:=af;clear ad ae af;generalize wr.drewN nq=wr2 at ac aa ab ⊢;clear nq;have ad:=hide ac;have ae:=aa;have af:=ab;clear ac aa ab;go_quiet (first | (go_at_call 168;refine Calls.quiet_of_same (Zah _ _ _)));go_wp2_with fail;have aj:Hid (∀q,Sq w0 blk off m (((wr2.drewN q).setCell ⟨blk,off+(first+r),none⟩ (.int .u64 (G (first+2*r+1)))).setCell ⟨blk,off+(first+2*r+1),none⟩ (.int .u64 (G (first+r)))) (swp dk (first+r) (first+2*r+1))):=fun q=>by
         rw [HG.out,HG.out];exact ad.out.swap q _ _ i1 (by omega)
        clear ad HG;go_region;(all_goals go_wp2_with fail);go_roundw
        case rel=>exact ⟨2*r+1,_,by go_num,by omega,aj.out _,hide HX.out.symm⟩
        case measure=>simp only [intOf];omega
       | false =>
        rw [hk,if_neg (by decide)] at hx;have HX:=hide hx;clear hx hO ai HG;go_wp2_with fail;go_quiet (first | (go_at_call 168;refine Calls.quiet_of_same (Zah _ _ _)));go_wp2_with fail;have ac:Sq w0 blk off m (wr.drewN nq) dk:=ad.out.drewN nq;have aa:∀t,t<m→(wr.drewN nq).cell? ⟨blk,off+t,none⟩=some (.int .u64 (G t)):=ae;have ab:∀t,t<m→(wr.drewN nq).frozen? ⟨blk,off+t,none⟩=false:=af;clear ad ae af;generalize wr.drewN nq=wr2 at ac aa ab ⊢;clear nq;have ad:=hide ac;have ae:=aa;have af:=ab;clear ac aa ab;go_quiet (first | (go_at_call 168;refine Calls.quiet_of_same (Zah _ _ _)));go_wp2_with fail;have ah:Hid (∀q,Sq w0 blk off m (wr2.drewN q) dk):=ad.out.drewN;(try simp only [Exit.inBlock,Exit.then]);refine bodyPost_ret (results_none rfl _ _ _) rfl ?_;exact⟨rfl,by rw [HX.out];exact ah.out _⟩
theorem Zj7 (w0 W:World)(blk off m cap a b:Nat)(d:Array Int)(h:Sq w0 blk off m W d)(aj:a<b)(hb:b≤m)(hm:m<1000000) :
    Calls Tryz.prog 163 #[.slice (some ⟨blk,off,none⟩) m cap,.int .i64 (a:Nat),.int .i64 (b:Nat)] W fun e W'=>e=.returned (.tuple #[])∧Sq w0 blk off m W' (heapSort ltInt d a b):=by
  have HS:=hide h;clear h;obtain⟨n,hn⟩:∃n:Nat,b=a+n:=⟨b-a,by omega⟩;(have ao:1≤n:=by omega);(have ap:a+n≤m:=by omega);have ab:Hid (∀(V:World) (dk:Array Int) (lo hi:Nat),Sq w0 blk off m V dk→hi≤n→lo<1000000→_):=fun V dk lo hi hq hh hl=>ZfS w0 V blk off m cap lo hi a dk hq (by omega) hm hl;have ad:Hid (heapSort ltInt d a b=heapPop ltInt a n (heapBuild ltInt n a ((n-1) / 2+1) d)):=by
   show _=_;unfold heapSort;rw [hn,show a+n-a=n by omega]
  (have q1:((b:Int)-(a:Int))=(n:Int):=by omega);obtain⟨p,hp⟩:∃p:Nat,p=(n-1) / 2:=⟨_,rfl⟩;(have aq:p<1000000:=by omega);have HP:=hide hp;rw [← hp] at ad;clear hn hp;go_enter Tryz.func163,Tryz.ntmps163;go_wp2_with fail;go_loopw [9] (fun vi wr=>∃(k:Nat) (z:Int) (dk:Array Int),vi=.int .i64 z∧Hid (z=(k:Int)-1)∧k≤p+1∧Hid (Sq w0 blk off m wr dk)∧Hid (heapBuild ltInt n a k dk=heapBuild ltInt n a (p+1) d)) (fun vi _=>(intOf vi+1).toNat)
  case atStart=>exact ⟨p+1,_,d,rfl,(show Hid _ from by show _=_;have:=HP.out;omega),Nat.le_refl _,HS,rfl⟩
  case round =>
   obtain⟨k,z,dk,rfl,hz,hk,ai,hO⟩:=hrel;cases k with
   | succ k =>
    (obtain rfl:z=(k:Int):=by have:=hz.out;omega);have aa:=hide (ab.out wr dk k n ai.out (Nat.le_refl _) (by omega));have HO:Hid (heapBuild ltInt n a k (siftDown ltInt n a k dk)=heapBuild ltInt n a (p+1) d):=hO;clear hz hO ai;go_wp2_with fail;refine aa.out.mono ?_;rintro e w2 ⟨rfl,ac⟩;have ag:=hide ac;clear ac aa;go_wp2_with fail;go_roundw
    case rel=>exact ⟨k,(k:Int)-1,_,rfl,(show Hid _ from rfl),by omega,ag,HO⟩
    case measure=>simp only [intOf];omega
   | zero =>
    (obtain rfl:z = -1:=by have:=hz.out;omega);have HB:Hid (dk=heapBuild ltInt n a (p+1) d):=hO;clear hz hO ab HP;have ab:Hid (∀(V:World) (dk:Array Int) (lo hi:Nat),Sq w0 blk off m V dk→hi≤n→lo<1000000→_):=fun V dk lo hi hq hh hl=>ZfS w0 V blk off m cap lo hi a dk hq (by omega) hm hl;rw [← HB.out] at ad;have al:=ai.out.size;go_wp2_with fail;rename World=>w1;go_loopw [10] (fun vi wr=>∃(k:Nat) (z:Int) (dj:Array Int),vi=.int .i64 z∧Hid (z=(k:Int)-1)∧k≤n∧Hid (Sq w0 blk off m wr dj)∧Hid (heapPop ltInt a k dj=heapPop ltInt a n dk)) (fun vi _=>(intOf vi+1).toNat)
    case atStart=>exact ⟨n,(n:Int)-1,dk,rfl,(show Hid _ from rfl),Nat.le_refl _,ai,rfl⟩
    case round =>
     obtain⟨k,z,dj,rfl,hz,hk,af,hO⟩:=hrel;cases k with
     | succ k =>
      (obtain rfl:z=(k:Int):=by have:=hz.out;omega);have HO:Hid (heapPop ltInt a k (siftDown ltInt k a 0 (swp dj a (a+k)))=heapPop ltInt a n dk):=hO;obtain⟨G,hG⟩:∃G:Nat→Int,∀t,G t=dj[t]!:=⟨fun t=>dj[t]!,fun _=>rfl⟩;(have ak:∀t,t<m→wr.cell? ⟨blk,off+t,none⟩=some (.int .u64 (G t)):=fun t ht=>by rw [hG];exact af.out.cell t ht);have am:∀t,t<m→wr.frozen? ⟨blk,off+t,none⟩=false:=af.out.fz;have HG:Hid (∀t,G t=dj[t]!):=hG;have ah:=af;clear hG;(have i1:a<m:=by omega);(have i2:a+k<m:=by omega);by_cases an:0<k
      · have ae:=hide ((ah.out.swap 0 a (a+k) i1 i2).drew1);rw [← HG.out,← HG.out] at ae;have aa:=ab.out _ _ 0 k ae.out (by omega) (by decide);have HC:Hid (Calls Tryz.prog 179 #[.slice (some ⟨blk,off,none⟩) m cap,.int .i64 0,.int .i64 (k:Nat),.int .i64 (a:Nat)] (((wr.setCell ⟨blk,off+a,none⟩ (.int .u64 (G (a+k)))).setCell ⟨blk,off+(a+k),none⟩ (.int .u64 (G a))).drew) fun e W'=>e=.returned (.tuple #[])∧Sq w0 blk off m W' (siftDown ltInt k a 0 (swp dj a (a+k)))):=aa;clear hz hO af HG ah ae aa;go_wp2_with fail;go_region;(all_goals go_wp2_with fail);refine HC.out.mono ?_;rintro e w2 ⟨rfl,ac⟩;have ag:=hide ac;clear ac HC;go_wp2_with fail;go_roundw
        case rel=>exact ⟨k,(k:Int)-1,_,rfl,(show Hid _ from rfl),by omega,ag,HO⟩
        case measure=>simp only [intOf];omega
      · (obtain rfl:k=0:=by omega);have ae:=hide ((ah.out.swap 0 a a i1 i1).drew1);rw [← HG.out] at ae;have aa:=ab.out _ _ 0 0 ae.out (by omega) (by decide);have HC:Hid (Calls Tryz.prog 179 #[.slice (some ⟨blk,off,none⟩) m cap,.int .i64 0,.int .i64 0,.int .i64 (a:Nat)] (((wr.setCell ⟨blk,off+a,none⟩ (.int .u64 (G a))).setCell ⟨blk,off+a,none⟩ (.int .u64 (G a))).drew) fun e W'=>e=.returned (.tuple #[])∧Sq w0 blk off m W' (siftDown ltInt 0 a 0 (swp dj a (a+0)))):=aa;clear hz hO af HG ah ae aa;go_wp2_with fail;go_region;(all_goals go_wp2_with fail);refine HC.out.mono ?_;rintro e w2 ⟨rfl,ac⟩;have ag:=hide ac;clear ac HC;go_wp2_with fail;go_roundw
        case rel=>exact ⟨0,-1,_,rfl,(show Hid _ from rfl),by omega,ag,HO⟩
        case measure=>simp only [intOf];omega
     | zero =>
      (obtain rfl:z = -1:=by have:=hz.out;omega);have HE:Hid (dj=heapSort ltInt d a b):=by
       show _=_;rw [ad.out,← hO.out];rfl
      clear hz hO;go_wp2_with fail;go_end0;exact⟨rfl,by rw [← HE.out];exact af.out⟩
end Go.Proofs.YtdojdcncncgncaaGreat
