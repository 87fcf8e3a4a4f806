/-
  Lemmas.
-/
import Derived.Test.YtdojdcncncgncaaGreatKtaz
namespace Go.Proofs.YtdojdcncncgncaaGreat
open Go.RowKit
set_option linter.unusedVariables false
set_option maxRecDepth 100000
set_option maxHeartbeats 4000000
variable {l:List Lf}{r was:Rw}{live:List Int}{b:Bt}{j:Bool}
theorem ZeJ (h:getH l b=none):layH l b r j live=⟨l,3⟩:=by unfold layH;rw [h]
theorem Zbx (h:getH l b=some was)(h1:r.may=false∨(j=true∧r.wr=0)∨was.key≠r.key):layH l b r j live=⟨l,1⟩:=by unfold layH;rw [h];simp only [if_pos h1]
theorem ZiR (h:getH l b=some was)(h1:¬(r.may=false∨(true=true∧r.wr=0)∨was.key≠r.key))(h2:(joinI (lf l b.1.toNat).itl r.wr live).e≠0):layH l b r true live=⟨l,(joinI (lf l b.1.toNat).itl r.wr live).e⟩:=by
 unfold layH;rw [h];show (if _ then _ else if _ then _ else _)=_;rw [if_neg h1,if_pos ⟨rfl,h2⟩]
theorem Zgy (h:getH l b=some was)(h1:¬(r.may=false∨(j=true∧r.wr=0)∨was.key≠r.key))(h2:¬(j=true∧(joinI (lf l b.1.toNat).itl r.wr live).e≠0)):layH l b r j live=⟨l.set b.1.toNat (layL (lf l b.1.toNat) b.2 r j live),0⟩:=by
 unfold layH;rw [h];simp only [if_neg h1,if_neg h2]
theorem Zh1 {D:Nat→Prop}(w:World)(s:Sl)(L:List Lb)(h:Gl D w s L)(ca:∀f∈lfs L,f.itl.length=4)(y:Bt)(r:Rw)(ra:Option Addr)(rn rc:Nat)(hr:Fs w ra rn rc r.xs)(eg:r.fits)(joins:Bool)(lv:Sl)(live:List Int)(ef:Gi D w lv live) :
    Calls Tryz.prog 26 #[s.val,btV y,r.val (.slice ra rn rc),.bool joins,lv.val] w (ZaJ w (layH (lfs L) y r joins live)):=by
  have fl:∀(w:World) (a:Addr) (m:Mode) (x:Nat),(store a (.float .f64 x) m).run Tryz.prog w=stored Tryz.prog w a (.float .f64 x) m:=fun w a m x=>run_store Tryz.prog w a _ m rfl;obtain⟨X,hX⟩:∃X,X=layH (lfs L) y r joins live:=⟨_,rfl⟩;rw [← hX];have an:=hide hX;clear hX;have ea:=Zaa w (.cells #[.int .i64 y.1,.int .i64 y.2] 26);have df:=Zaa (w.alloc (.cells #[.int .i64 y.1,.int .i64 y.2] 26)) (.cells #[.float .f64 r.key,.bool r.dead,.slice ra rn rc,.int .i64 r.wr,.int .i64 r.cell,.int .i64 r.no] 33);have hY:=(Zaw w y).keep df;have hR:RwBlk ((w.alloc (.cells #[.int .i64 y.1,.int .i64 y.2] 26)).alloc (.cells #[.float .f64 r.key,.bool r.dead,.slice ra rn rc,.int .i64 r.wr,.int .i64 r.cell,.int .i64 r.no] 33)) (w.heap.size+1) r (.slice ra rn rc):=by
   have:=Zak (w.alloc (.cells #[.int .i64 y.1,.int .i64 y.2] 26)) r (.slice ra rn rc);rwa [Zae] at this
  have hA:=Zad ea df;obtain⟨W0,bs⟩:∃W0,W0=(w.alloc (.cells #[.int .i64 y.1,.int .i64 y.2] 26)).alloc (.cells #[.float .f64 r.key,.bool r.dead,.slice ra rn rc,.int .i64 r.wr,.int .i64 r.cell,.int .i64 r.no] 33):=⟨_,rfl⟩;rw [← bs] at hA hY hR;(have eh:W0.heap.size=w.heap.size+2:=by rw [bs,Zae,Zae]);have HY:=hide hY;have HR:=hide hR;have HA:=hide hA;have H:=hide h;have em:=hide ef;have cd:=hide hr;have ch:=hide eg;have en:=hide ca;have ep:=hide eh;have bo:=hide (Zhz W0 s L (h.below hA (Nat.le_refl _)) y);have dz:=hide bs;have y0:=hY.c0;have y1:=hY.c1;obtain⟨a,len,cap⟩:=s;obtain⟨la,ln,lc⟩:=lv;clear h hA hY hR ea df ef hr eg ca eh;unfold Sl.val at *;simp only at *;rw [bs] at y0 y1;clear bs;unfold btV Rw.val at *;go_enter Tryz.func26,Tryz.ntmps26;go_wp2_with fail;rw [← dz.out];refine bo.out.mono ?_;intro e w1 ht;have dy:=hide (Zad HA.out ht.1);have et:=hide (HY.out.keep ht.1);have eo:=hide (HR.out.keep ht.1);(have fg:w.heap.size+2≤w1.heap.size:=by have:=ht.1.size;rw [ep.out] at this;exact this);clear dz y0 y1 bo;cases hg:getH (lfs L) y with
  | none =>
   have dq:=ht.2.1 hg;subst dq;have HD:=hide (an.out.trans (ZeJ hg));have bl:=hide (Zad dy.out (Zaa w1 (.cells #[.float .f64 0,.bool false,.slice none 0 0,.int .i64 0,.int .i64 0,.int .i64 0] 33)));clear ht hg;unfold Zcr;go_wp2_with fail;go_ret2;rw [HD.out];exact ZaJ.same H.out bl.out 3
  | some was =>
   obtain⟨ej,x,du,dq,dj⟩:=ht.2.2 was hg;subst dq;obtain⟨i,k,hy,bu⟩:=ZeE hg;subst hy;have bj:i<len:=by
    have:=(ZbV (Zbv bu)).1;rw [Za4] at this;rw [← (show L.length=len from H.out.len)];exact this
   have ei:=ZbR x.r.key x.r.dead x.a x.n x.c x.r.wr x.r.cell x.r.no w1;have hB:=Zaa w1 (.cells #[.float .f64 x.r.key,.bool x.r.dead,.slice x.a x.n x.c,.int .i64 x.r.wr,.int .i64 x.r.cell,.int .i64 x.r.no] 33);have bl:=hide (Zad dy.out hB);have eu:=hide (et.out.keep hB);have av:=hide (eo.out.keep hB);have eb:=Zak w1 x.r (.slice x.a x.n x.c);have fh:(w1.alloc (.cells #[.float .f64 x.r.key,.bool x.r.dead,.slice x.a x.n x.c,.int .i64 x.r.wr,.int .i64 x.r.cell,.int .i64 x.r.no] 33)).heap.size=w1.heap.size+1:=Zae _ _;generalize w1.alloc (.cells #[.float .f64 x.r.key,.bool x.r.dead,.slice x.a x.n x.c,.int .i64 x.r.wr,.int .i64 x.r.cell,.int .i64 x.r.no] 33)=W2 at *;have eq:=hide ei;have er:=hide eb;have el:=hide (cd.out.keep bl.out (Nat.le_refl _));have ae:=hide (fun m (hm:r.may=m)=>Zc3 r m hm ra rn rc W2 el.out ch.out);have r0:=av.out.c0;have r1:=av.out.c1;have r2:=av.out.c2;have r3:=av.out.c3;have r4:=av.out.c4;have r5:=av.out.c5;have ci:=hide du;(have ec:x.r.key<18446744073709551616:=by rw [du];exact ej.key);have ed:r.key<18446744073709551616:=ch.out.key;have fc:=hide ec;have fd:=hide ed;clear ht du dj bu ei hB eb ej ec ed;unfold Rx.val Rw.val;unfold Rw.val at ae;go_wp2_with (refine Zac _ rfl rfl 33 (.tmp 12) (.tmp 21) rfl (.pointer (some ⟨w1.heap.size,0,none⟩)) (.agg #[.float .f64 x.r.key,.bool x.r.dead,.slice x.a x.n x.c,.int .i64 x.r.wr,.int .i64 x.r.cell,.int .i64 x.r.no]) rfl rfl W2 eq.out ?_);cases hm:r.may with
   | false =>
    refine(ae.out false hm).mono ?_;rintro e w5 ⟨rfl,aj⟩;have ak:=hide (Zad bl.out aj);clear aj r0 r1 r2 r3 r4 r5;have ar:=hide (an.out.trans (Zbx hg (by first | exact .inl hm | exact .inr (.inl ⟨rfl,bf⟩) | exact .inr (.inr aa))));go_wp2_with fail;go_ret2;rw [ar.out];exact ZaJ.same H.out ak.out 1
   | true =>
    refine(ae.out true hm).mono ?_;rintro e w5 ⟨rfl,aj⟩;have ak:=hide (Zad bl.out aj);have cg:=hide (av.out.keep aj);have es:=hide (er.out.keep aj);have cj:=hide (eu.out.keep aj);(have fi:w1.heap.size+1≤w5.heap.size:=by have:=aj.size;omega);clear aj r0 r1 r2 r3 r4 r5 ae;have r0:=cg.out.c0;have r3:=cg.out.c3;have x0:=es.out.c0;have y0:=cj.out.c0;have y1:=cj.out.c1;have dw:Hid (Gl D w ⟨a,len,cap⟩ L):=H.out;have dv:=hide (H.out.below ak.out (Nat.le_refl _));obtain⟨b,off,ha,c0,c1⟩:=dv.out.cell i bj;replace ha:a=some ⟨b,off,none⟩:=ha;subst ha;have ck:=dv.out.at (i:=i) bj;have cm:=Zbt L i;have h4:=en.out _ (Zbe (l:=lfs L) (i:=i) (by rw [Za4,(show L.length=len from H.out.len)];exact bj));obtain⟨z,hz⟩:∃z,z=L.getD i Lb.zero:=⟨_,rfl⟩;rw [← hz] at c0 c1 ck cm;rw [cm] at h4;obtain⟨⟨za,zn,zc⟩,⟨qa,qn,qc⟩,zt,zl⟩:=z;have al:=hide ck;have cf:=hide cm;(have ez:zn=4:=by have:=ck.1.len;have h4':zt.length=4:=h4;simp only at this;omega);subst ez;have dx:=hide (Za5 c0 c1);have fb:=hide (ZaF b off len cap i bj);unfold Sl.val at c0 c1;unfold lfV Sl.val at dx;simp only at c0 c1 dx;clear ck cm hz h4;cases joins with
    | true =>
     by_cases bf:r.wr=0
     · have ds:(r.wr:Int)=0:=bf;clear c0 c1 x0;have ar:=hide (an.out.trans (Zbx hg (by first | exact .inl hm | exact .inr (.inl ⟨rfl,bf⟩) | exact .inr (.inr aa))));go_wp2_with fail;go_ret2;rw [ar.out];exact ZaJ.same H.out ak.out 1
     · have ds:¬(r.wr:Int)=0:=bf;have aw:=hide (Zdd x.r.key r.key w5);go_wp2_with fail;refine aw.out.mono ?_;rintro e w6 ⟨rfl,dt⟩;obtain rfl:=dt.symm;cases hq:(x.r.key == r.key) with
       | false =>
        (have aa:was.key≠r.key:=by rw [← ci.out];exact beq_eq_false_iff_ne.1 hq);clear c0 c1 x0 aw;have ar:=hide (an.out.trans (Zbx hg (by first | exact .inl hm | exact .inr (.inl ⟨rfl,bf⟩) | exact .inr (.inr aa))));go_wp2_with fail;go_ret2;rw [ar.out];exact ZaJ.same H.out ak.out 1
       | true =>
        (have aa:¬(was.key≠r.key):=by rw [← ci.out];exact fun h=>h (beq_iff_eq.1 hq));(have cb:¬(r.may=false∨(true=true∧r.wr=0)∨was.key≠r.key):=by rintro (h | h | h);rw [hm] at h;cases h;exact bf h.2;exact aa h);have am:=hide cb;clear cb aw hq;have dg:=Zaa w5 (.cells #[.slice za 4 zc,.slice qa qn qc] 67);have dp:=Zaj w5 (Sl.val ⟨za,4,zc⟩) (Sl.val ⟨qa,qn,qc⟩);have dr:(w5.alloc (.cells #[.slice za 4 zc,.slice qa qn qc] 67)).heap.size=w5.heap.size+1:=Zae _ _;obtain⟨W6,dh⟩:∃W6,W6=w5.alloc (.cells #[.slice za 4 zc,.slice qa qn qc] 67):=⟨_,rfl⟩;obtain⟨Wl,ah,bd,bv⟩:=ZaN (w5.alloc (.cells #[.slice none 0 0,.slice none 0 0] 67)) w5.heap.size _ _ (Zaj w5 (Sl.val Sl.nil) (Sl.val Sl.nil)) ⟨za,4,zc⟩ ⟨qa,qn,qc⟩;have ac:Below w5.heap.size w5 Wl:=(Zaa w5 _).trans (bv.below (Zaa w5 _).size (fun k hk=>by rw [hk];exact Nat.le_refl _));have ey:w5.heap.size<Wl.heap.size:=bd.lt;have cs:=hide (Zad ak.out ac);have cp:=hide bd;have ev:=hide (cj.out.keep ac);have da:=hide (cg.out.keep ac);have fa:=hide (cd.out.keep cs.out (Nat.le_refl _));have cv:=hide ((al.out.1.mono (E:=fun k=>D k∧k<w5.heap.size) (fun k h hl=>⟨h,hl⟩)).below ac (Nat.le_refl _));have cu:=hide ((al.out.2.mono (E:=fun k=>D k∧k<w5.heap.size) (fun k h hl=>⟨h,hl⟩)).below ac (Nat.le_refl _));have ba:∀{w8:World},True:=fun {_}=>trivial;have ct:Hid (Gi (Ap w5.heap.size) Wl ⟨za,4,zc⟩ zt∧Gb (Ap w5.heap.size) Wl ⟨qa,qn,qc⟩ zl):=⟨(al.out.1.mono (E:=Ap w5.heap.size) (fun k _ hl e=>by subst e;omega)).below ac (Nat.le_refl _),(al.out.2.mono (E:=Ap w5.heap.size) (fun k _ hl e=>by subst e;omega)).below ac (Nat.le_refl _)⟩;have ad:=hide ah;unfold lfV Sl.val at ad;simp only at ad

        have ff:Hid (RwBlk Wl (w.heap.size+1) r (.slice ra rn rc)):=da.out;have ce:=hide (ZeU (D:=fun k=>D k∧k<w5.heap.size) Wl ⟨za,4,zc⟩ ⟨qa,qn,qc⟩ zt zl cv.out cu.out r.wr ⟨la,ln,lc⟩ live ((em.out.mono (E:=fun k=>D k∧k<w5.heap.size) (fun k h hl=>⟨h,by omega⟩)).below cs.out (Nat.le_refl _)) rfl);(have bg:Hid (zt=(lf (lfs L) i).itl):=by show _=_;rw [cf.out];rfl);(have de:Hid (bss zl=(lf (lfs L) i).slots):=by show _=_;rw [cf.out];rfl);unfold lfV Sl.val at ce;simp only at ce;have r3':=da.out.c3;have l0:=cp.out.c0;have l1:=cp.out.c1;unfold Sl.val at l0 l1;simp only at l0 l1;clear dh dg dp dr ah bd bv ac ba ct cv cu;clear r0 r3 x0 y1 aa;go_wp2_with (refine Zac _ rfl rfl 67 (.tmp 14) (.tmp 50) rfl (.pointer (some ⟨w5.heap.size,0,none⟩)) (.agg #[.slice za 4 zc,.slice qa qn qc]) rfl rfl Wl ad.out ?_);refine ce.out.mono ?_;rintro e w7 ⟨bh,⟨ja,jn,jc⟩,⟨pa,pn,pc⟩,rfl,dn,dl⟩;have ek:=hide (Zad cs.out bh);have cq:=hide (cp.out.below bh);have dd:=hide (ev.out.keep bh);have db:=hide (da.out.keep bh);have fj:Wl.heap.size≤w7.heap.size:=bh.size;clear c0 c1 l0 l1 r3' ce bh;obtain⟨Wm,be,bk,dk⟩:=ZaN (w7.alloc (.cells #[.slice none 0 0,.slice none 0 0] 67)) w7.heap.size _ _ (Zaj w7 (Sl.val Sl.nil) (Sl.val Sl.nil)) ⟨ja,jn,jc⟩ ⟨pa,pn,pc⟩;have ao:Below w7.heap.size w7 Wm:=(Zaa w7 _).trans (dk.below (Zaa w7 _).size (fun k hk=>by rw [hk];exact Nat.le_refl _));have ai:=hide be;unfold lfV Sl.val at ai;simp only at ai;have co:=hide (Zad ek.out ao);have fe:=hide bk;have cr:=hide (cq.out.below ao);have br:=hide (dd.out.keep ao);have bp:=hide (db.out.keep ao);have m0:=bk.c0;have m1:=bk.c1;unfold Sl.val at m0 m1;simp only at m0 m1;have fk:w7.heap.size<Wm.heap.size:=bk.lt;(have cy:Hid ((joinI zt r.wr live).e=(joinI (lf (lfs L) i).itl r.wr live).e):=by show _=_;rw [bg.out]);by_cases cl:(joinI zt r.wr live).e=0
        · have dm:¬((joinI zt r.wr live).e≠0):=fun h=>h cl;obtain⟨Wn,cc,ee,bi⟩:=ZaN Wm w5.heap.size _ _ cr.out ⟨ja,jn,jc⟩ ⟨pa,pn,pc⟩;have ax:=hide cc;unfold lfV Sl.val at ax;simp only at ax;have aq:=hide ee;have ap:Hid (Below w.heap.size w Wn):=co.out.trans (bi.below co.out.size (fun k hk=>by rw [hk];omega));have az:Hid (BtBlk Wn w.heap.size ((i:Int),(k:Int))):=(bi.block _ br.out.lt (by omega)).trans br.out;have dc:Hid (RwBlk Wn (w.heap.size+1) r (.slice ra rn rc)):=(bi.block _ (Array.getElem?_eq_some_iff.1 bp.out).1 (by omega)).trans bp.out;have cx:=hide (cd.out.keep ap.out (Nat.le_refl _));(have di:∀k,Old (fun k=>D k∧k<w5.heap.size) Wl k→k<w7.heap.size→Ap w5.heap.size k:=by intro k hk _ e;subst e;rcases hk with h | h;exact absurd h.2 (Nat.lt_irrefl _);omega);have cw:Hid (Gi (Ap w5.heap.size) Wn ⟨ja,jn,jc⟩ (joinI zt r.wr live).t∧Gb (Ap w5.heap.size) Wn ⟨pa,pn,pc⟩ zl):=
           ⟨((dn.mono di).below ao (Nat.le_refl _)).keep (Kept.frm bi (fun k hk e=>hk e)),((dl.mono di).below ao (Nat.le_refl _)).keep (Kept.frm bi (fun k hk e=>hk e))⟩
          have HD:=hide (an.out.trans (Zgy hg (by rintro (h | h | h);exact am.out (.inl h);exact am.out (.inr (.inl ⟨trivial,h.2⟩));exact am.out (.inr (.inr h))) (by rintro ⟨_,h⟩;simp only [Int.toNat_natCast] at h;rw [← cy.out] at h;exact h cl)));simp only [Int.toNat_natCast] at HD;have ex:=bg;clear be bk dk ao cc ee bi di dn dl;go_wp2_with (first | refine Zac _ rfl rfl 67 (.tmp 15) (.tmp 58) rfl (.pointer (some ⟨w7.heap.size,0,none⟩)) (.agg #[.slice ja jn jc,.slice pa pn pc]) rfl rfl Wm ai.out ?_ | refine Zac _ rfl rfl 67 (.tmp 14) (.tmp 64) rfl (.pointer (some ⟨w5.heap.size,0,none⟩)) (.agg #[.slice ja jn jc,.slice pa pn pc]) rfl rfl Wn ax.out ?_);clear m0 m1;refine Pl.q9 (ops:=Pl.find 12 ((Tryz.f26.body).getD .skip)) ?_;refine Znl (E:=Ap w5.heap.size) Wn Wn w5.heap.size w.heap.size (fun k hk=>hk) (fun k hk e=>by subst e;have:=aq.out.lt;omega) (k:Int) (i:Int) az.out (by omega) (Lb.mk ⟨ja,jn,jc⟩ ⟨pa,pn,pc⟩ (joinI zt r.wr live).t zl) aq.out (by have:=aq.out.lt;exact this) cw.out (w.heap.size+1) r ra rn rc dc.out cx.out ch.out hm (by omega) (Below.refl _ _) (by rfl) (by rfl) (by rfl) (by rfl) (by rfl) ?_;intro u v6 l6 w9 bc ag af bx bb;simp only [Act.put,List.setIfInBounds_toArray,List.set_cons_zero,List.set_cons_succ];have bm:Hid (Below w.heap.size w w9):=ap.out.trans (bb.below ap.out.size (fun k hk=>by rw [hk];omega));have bq:BtBlk w9 w.heap.size ((i:Int),(k:Int)):=(bb.block _ az.out.lt (by omega)).trans az.out;have y0:=bq.c0;have d0:=bc.c0;have d1:=bc.c1;have ab:=hide (ZdC (D:=fun _=>True) w9 ⟨some ⟨b,off,none⟩,len,cap⟩ L ((dw.out.below bm.out (Nat.le_refl _)).wide (fun _ _=>trivial)) i bj ⟨(Lb.mk ⟨ja,jn,jc⟩ ⟨pa,pn,pc⟩ (joinI zt r.wr live).t zl).u,v6,(Lb.mk ⟨ja,jn,jc⟩ ⟨pa,pn,pc⟩ (joinI zt r.wr live).t zl).t,l6⟩ ⟨ag.wide (fun _ _=>trivial),af.wide (fun _ _=>trivial)⟩);have bn:Hid (((lfs L).set i (Lb.mk (Lb.mk ⟨ja,jn,jc⟩ ⟨pa,pn,pc⟩ (joinI zt r.wr live).t zl).u v6 (Lb.mk ⟨ja,jn,jc⟩ ⟨pa,pn,pc⟩ (joinI zt r.wr live).t zl).t l6).lf)=X.l):=by
           show _=_;rw [HD.out];unfold Lb.lf layL;rw [bx,bg.out,de.out];rfl
          rw [bn.out] at ab;(have ay:Hid (X.e=0):=by show _=_;rw [HD.out]);clear bc ag af bx bb bn bq HD hm;obtain⟨⟨ua,un,uc⟩,⟨va,vn,vc⟩,zt,zl⟩:=(Lb.mk ⟨ja,jn,jc⟩ ⟨pa,pn,pc⟩ (joinI zt r.wr live).t zl);obtain⟨ya,yn,yc⟩:=v6;unfold lfV Sl.val at ab;unfold Sl.val at d0 d1;simp only at ab d0 d1 y0;go_wp2_with fail;refine ab.out.mono ?_;rintro e w4 ⟨bt,⟨sa,sn,sc⟩,L',rfl,bw,bz⟩;have cn:=hide (Zad bm.out bt);have au:=hide bw;have cz:=hide bz;clear bt bw bz d0 d1 y0;unfold Sl.val;go_wp2_with fail;go_ret2;refine⟨cn.out,⟨sa,sn,sc⟩,L',?_,au.out.wide (fun _ _=>trivial),cz.out⟩;rw [ay.out];rfl
        · have dm:(joinI zt r.wr live).e≠0:=cl;have HD:=hide (an.out.trans (ZiR hg (by rintro (h | h | h);exact am.out (.inl h);exact am.out (.inr (.inl ⟨trivial,h.2⟩));exact am.out (.inr (.inr h))) (by simp only [Int.toNat_natCast];rw [← cy.out];exact cl)));simp only [Int.toNat_natCast] at HD;rw [← cy.out] at HD;clear be bk dk ao dn dl;go_wp2_with (refine Zac _ rfl rfl 67 (.tmp 15) (.tmp 58) rfl (.pointer (some ⟨w7.heap.size,0,none⟩)) (.agg #[.slice ja jn jc,.slice pa pn pc]) rfl rfl Wm ai.out ?_);go_ret2;rw [HD.out];exact ZaJ.same H.out co.out _
    | false =>
     have aw:=hide (Zdd x.r.key r.key w5);go_wp2_with fail;refine aw.out.mono ?_;rintro e w6 ⟨rfl,dt⟩;obtain rfl:=dt.symm;cases hq:(x.r.key == r.key) with
     | false =>
      (have aa:was.key≠r.key:=by rw [← ci.out];exact beq_eq_false_iff_ne.1 hq);clear c0 c1 x0 aw;have ar:=hide (an.out.trans (Zbx hg (by first | exact .inl hm | exact .inr (.inl ⟨rfl,bf⟩) | exact .inr (.inr aa))));go_wp2_with fail;go_ret2;rw [ar.out];exact ZaJ.same H.out ak.out 1
     | true =>
      (have aa:¬(was.key≠r.key):=by rw [← ci.out];exact fun h=>h (beq_iff_eq.1 hq));(have cb:¬(r.may=false∨(false=true∧r.wr=0)∨was.key≠r.key):=by rintro (h | h | h);rw [hm] at h;cases h;cases h.1;exact aa h);have am:=hide cb;clear cb aw hq;have dg:=Zaa w5 (.cells #[.slice za 4 zc,.slice qa qn qc] 67);have dp:=Zaj w5 (Sl.val ⟨za,4,zc⟩) (Sl.val ⟨qa,qn,qc⟩);have dr:(w5.alloc (.cells #[.slice za 4 zc,.slice qa qn qc] 67)).heap.size=w5.heap.size+1:=Zae _ _;obtain⟨W6,dh⟩:∃W6,W6=w5.alloc (.cells #[.slice za 4 zc,.slice qa qn qc] 67):=⟨_,rfl⟩;obtain⟨Wl,ah,bd,bv⟩:=ZaN (w5.alloc (.cells #[.slice none 0 0,.slice none 0 0] 67)) w5.heap.size _ _ (Zaj w5 (Sl.val Sl.nil) (Sl.val Sl.nil)) ⟨za,4,zc⟩ ⟨qa,qn,qc⟩;have ac:Below w5.heap.size w5 Wl:=(Zaa w5 _).trans (bv.below (Zaa w5 _).size (fun k hk=>by rw [hk];exact Nat.le_refl _));have ey:w5.heap.size<Wl.heap.size:=bd.lt;have ap:=hide (Zad ak.out ac);have aq:=hide bd;have az:=hide (cj.out.keep ac);have dc:=hide (cg.out.keep ac);have cx:=hide (cd.out.keep ap.out (Nat.le_refl _));have cv:=hide ((al.out.1.mono (E:=fun k=>D k∧k<w5.heap.size) (fun k h hl=>⟨h,hl⟩)).below ac (Nat.le_refl _));have cu:=hide ((al.out.2.mono (E:=fun k=>D k∧k<w5.heap.size) (fun k h hl=>⟨h,hl⟩)).below ac (Nat.le_refl _));have ba:∀{w8:World},True:=fun {_}=>trivial;have cw:Hid (Gi (Ap w5.heap.size) Wl ⟨za,4,zc⟩ zt∧Gb (Ap w5.heap.size) Wl ⟨qa,qn,qc⟩ zl):=⟨(al.out.1.mono (E:=Ap w5.heap.size) (fun k _ hl e=>by subst e;omega)).below ac (Nat.le_refl _),(al.out.2.mono (E:=Ap w5.heap.size) (fun k _ hl e=>by subst e;omega)).below ac (Nat.le_refl _)⟩;have ad:=hide ah;unfold lfV Sl.val at ad;simp only at ad

      have HD:=hide (an.out.trans (Zgy hg am.out (by rintro ⟨h,_⟩;cases h)));simp only [Int.toNat_natCast] at HD;(have bg:Hid (zt=(lf (lfs L) i).itl):=by show _=_;rw [cf.out];rfl);(have de:Hid (bss zl=(lf (lfs L) i).slots):=by show _=_;rw [cf.out];rfl);(have ew:Hid ((if false=true then (joinI (lf (lfs L) i).itl r.wr live).t else (lf (lfs L) i).itl)=zt):=by show _=_;rw [if_neg (by decide),bg.out]);clear dh dg dp dr ah bd bv ac ba;clear r0 r3 x0 y1 aa;go_wp2_with (refine Zac _ rfl rfl 67 (.tmp 14) (.tmp 50) rfl (.pointer (some ⟨w5.heap.size,0,none⟩)) (.agg #[.slice za 4 zc,.slice qa qn qc]) rfl rfl Wl ad.out ?_);clear c0 c1

      refine Pl.q9 (ops:=Pl.find 12 ((Tryz.f26.body).getD .skip)) ?_;refine Znl (E:=Ap w5.heap.size) Wl Wl w5.heap.size w.heap.size (fun k hk=>hk) (fun k hk e=>by subst e;have:=aq.out.lt;omega) (k:Int) (i:Int) az.out (by omega) (Lb.mk ⟨za,4,zc⟩ ⟨qa,qn,qc⟩ zt zl) aq.out (by have:=aq.out.lt;exact this) cw.out (w.heap.size+1) r ra rn rc dc.out cx.out ch.out hm (by omega) (Below.refl _ _) (by rfl) (by rfl) (by rfl) (by rfl) (by rfl) ?_;intro u v6 l6 w9 bc ag af bx bb;simp only [Act.put,List.setIfInBounds_toArray,List.set_cons_zero,List.set_cons_succ];have bm:Hid (Below w.heap.size w w9):=ap.out.trans (bb.below ap.out.size (fun k hk=>by rw [hk];omega));have bq:BtBlk w9 w.heap.size ((i:Int),(k:Int)):=(bb.block _ az.out.lt (by omega)).trans az.out;have y0:=bq.c0;have d0:=bc.c0;have d1:=bc.c1;have ab:=hide (ZdC (D:=fun _=>True) w9 ⟨some ⟨b,off,none⟩,len,cap⟩ L ((dw.out.below bm.out (Nat.le_refl _)).wide (fun _ _=>trivial)) i bj ⟨(Lb.mk ⟨za,4,zc⟩ ⟨qa,qn,qc⟩ zt zl).u,v6,(Lb.mk ⟨za,4,zc⟩ ⟨qa,qn,qc⟩ zt zl).t,l6⟩ ⟨ag.wide (fun _ _=>trivial),af.wide (fun _ _=>trivial)⟩);have bn:Hid (((lfs L).set i (Lb.mk (Lb.mk ⟨za,4,zc⟩ ⟨qa,qn,qc⟩ zt zl).u v6 (Lb.mk ⟨za,4,zc⟩ ⟨qa,qn,qc⟩ zt zl).t l6).lf)=X.l):=by
       show _=_;rw [HD.out];unfold Lb.lf layL;rw [bx,bg.out,de.out];rfl
      rw [bn.out] at ab;(have ay:Hid (X.e=0):=by show _=_;rw [HD.out]);clear bc ag af bx bb bn bq HD hm;obtain⟨⟨ua,un,uc⟩,⟨va,vn,vc⟩,zt,zl⟩:=(Lb.mk ⟨za,4,zc⟩ ⟨qa,qn,qc⟩ zt zl);obtain⟨ya,yn,yc⟩:=v6;unfold lfV Sl.val at ab;unfold Sl.val at d0 d1;simp only at ab d0 d1 y0;go_wp2_with fail;refine ab.out.mono ?_;rintro e w4 ⟨bt,⟨sa,sn,sc⟩,L',rfl,bw,bz⟩;have cn:=hide (Zad bm.out bt);have au:=hide bw;have cz:=hide bz;clear bt bw bz d0 d1 y0;unfold Sl.val;go_wp2_with fail;go_ret2;refine⟨cn.out,⟨sa,sn,sc⟩,L',?_,au.out.wide (fun _ _=>trivial),cz.out⟩;rw [ay.out];rfl
def Zba (w:World) (P:Ph) (e:Ending) (w':World):Prop:=Below w.heap.size w w'∧∃(s':Sl) (L':List Lb),e=.returned (.tuple #[.slice s'.a s'.len s'.cap,btV P.b,.int .i64 P.e])∧Gl (fun _=>True) w' s' L'∧lfs L'=P.l
theorem Zba.same {D:Nat→Prop}{w w':World}{s:Sl}{L:List Lb}(h:Gl D w s L)(hb:Below w.heap.size w w')(c:Int):Zba w ⟨lfs L,(0,0),c⟩ (.returned (.tuple #[.slice s.a s.len s.cap,btV (0,0),.int .i64 c])) w':=
 ⟨hb,s,L,rfl,(h.below hb (Nat.le_refl _)).wide (fun _ _=>trivial),rfl⟩
theorem ZcP (h:r.may=false∨r.wr=0∨(findH l r.key).isSome=true):putH l r live=⟨l,(0,0),1⟩:=by unfold putH;rw [if_pos h]
theorem Zhx (h:¬(r.may=false∨r.wr=0∨(findH l r.key).isSome=true))(hr:roomH (hpB r) l 0=none):putH l r live=⟨l,(0,0),7⟩:=by unfold putH;rw [if_neg h,hr]
theorem Zja (h:¬(r.may=false∨r.wr=0∨(findH l r.key).isSome=true)){i:Nat}(hr:roomH (hpB r) l 0=some i)(hj:(joinI (lf l i).itl r.wr live).e≠0):putH l r live=⟨l,(0,0),(joinI (lf l i).itl r.wr live).e⟩:=by
 unfold putH;rw [if_neg h,hr];simp only [if_neg hj]
theorem Zl0 (h:¬(r.may=false∨r.wr=0∨(findH l r.key).isSome=true)){i:Nat}(hr:roomH (hpB r) l 0=some i)(hj:(joinI (lf l i).itl r.wr live).e=0):putH l r live=⟨l.set i (putL (lf l i) r live),((i:Int),(insA (lf l i).slots (hpB r)).at_),0⟩:=by
 unfold putH;rw [if_neg h,hr];simp only [if_pos hj]
theorem Za0 {fn:Func}{x y z:Nat}(hr:fn.results=#[.tmp x,.cell y 26,.tmp z]){W:World}{q:Nat}(hq:BtBlk W q b)(tmps:Array Value)(u v:Value)(tx:tmps.getD x undef=u)(ty:tmps.getD y undef=.pointer (some ⟨q,0,none⟩))(tz:tmps.getD z undef=v) :
    (results fn tmps).run Tryz.prog W=.ok (.tuple #[u,btV b,v]) W:=by
  have d0:=hq.c0;have d1:=hq.c1;(have tx2:tmps[x]?.getD undef=u:=by simpa using tx);(have ty2:tmps[y]?.getD undef=.pointer (some ⟨q,0,none⟩):=by simpa using ty);(have tz2:tmps[z]?.getD undef=v:=by simpa using tz);simp [results,hr,tx2,ty2,tz2,go_sem,d0,d1,btV]
theorem ZlE {D:Nat→Prop}(w:World)(s:Sl)(L:List Lb)(h:Gl D w s L)(hmay:∀f∈lfs L,MayL f)(r:Rw)(ra:Option Addr)(rn rc:Nat)(hr:Fs w ra rn rc r.xs)(hrf:r.fits)(lv:Sl)(live:List Int)(hlv:Gi D w lv live) :
    Calls Tryz.prog 25 #[s.val,r.val (.slice ra rn rc),lv.val] w (Zba w (putH (lfs L) r live)):=by
  have hsf:∀(w:World) (a:Addr) (m:Mode) (x:Nat),(store a (.float .f64 x) m).run Tryz.prog w=stored Tryz.prog w a (.float .f64 x) m:=fun w a m x=>run_store Tryz.prog w a _ m rfl
  obtain⟨X,hX⟩:∃X,X=putH (lfs L) r live:=⟨_,rfl⟩
  rw [← hX]
  have HXE:=hide hX
  clear hX
  have hA1:=Zaa w (.cells #[.float .f64 r.key,.bool r.dead,.slice ra rn rc,.int .i64 r.wr,.int .i64 r.cell,.int .i64 r.no] 33)
  have hA2:=Zaa (w.alloc (.cells #[.float .f64 r.key,.bool r.dead,.slice ra rn rc,.int .i64 r.wr,.int .i64 r.cell,.int .i64 r.no] 33)) (.cells #[.int .i64 0,.int .i64 0] 26)
  have hR:RwBlk ((w.alloc (.cells #[.float .f64 r.key,.bool r.dead,.slice ra rn rc,.int .i64 r.wr,.int .i64 r.cell,.int .i64 r.no] 33)).alloc (.cells #[.int .i64 0,.int .i64 0] 26)) w.heap.size r (.slice ra rn rc):=(Zak w r (.slice ra rn rc)).keep hA2
  have hQ:BtBlk ((w.alloc (.cells #[.float .f64 r.key,.bool r.dead,.slice ra rn rc,.int .i64 r.wr,.int .i64 r.cell,.int .i64 r.no] 33)).alloc (.cells #[.int .i64 0,.int .i64 0] 26)) (w.heap.size+1) (0,0):=by
   have:=Zaw (w.alloc (.cells #[.float .f64 r.key,.bool r.dead,.slice ra rn rc,.int .i64 r.wr,.int .i64 r.cell,.int .i64 r.no] 33)) (0,0)
   rwa [Zae] at this
  have hA:=Zad hA1 hA2
  obtain⟨W0,hW0⟩:∃W0,W0=(w.alloc (.cells #[.float .f64 r.key,.bool r.dead,.slice ra rn rc,.int .i64 r.wr,.int .i64 r.cell,.int .i64 r.no] 33)).alloc (.cells #[.int .i64 0,.int .i64 0] 26):=⟨_,rfl⟩
  rw [← hW0] at hA hR hQ
  have hs0:W0.heap.size=w.heap.size+2:=by rw [hW0,Zae,Zae]
  have HR:=hide hR
  have HQ:=hide hQ
  have HA:=hide hA
  have H:=hide h
  have HLV:=hide hlv
  have HFR:=hide hr
  have HRF:=hide hrf
  have HML:=hide hmay
  have HS0:=hide hs0
  have HFIND:=hide (ZjX W0 s L (h.below hA (Nat.le_refl _)) r.key hrf.key)
  have HWE:=hide hW0
  have r0:=hR.c0
  have hbig:s.len≤900:=h.big
  obtain⟨a,len,cap⟩:=s
  obtain⟨la,ln,lc⟩:=lv
  clear h hA hR hQ hA1 hA2 hlv hr hrf hmay hs0
  unfold Sl.val at *
  simp only at *
  rw [hW0] at r0
  clear hW0
  unfold Rw.val at *
  go_enter Tryz.func25,Tryz.ntmps25
  go_wp2_with fail
  rw [← HWE.out]
  refine HFIND.out.mono ?_
  intro e w1 ht
  obtain⟨th,FR,FB,hth,hre⟩:∃(th:Bool) (FR:Rx) (FB:Bt),th=(findH (lfs L) r.key).isSome∧e=.returned (.tuple #[FR.val,btV FB,.bool th]):=by
   cases hf:findH (lfs L) r.key with
   | none=>exact ⟨false,Rx.zero,(0,0),rfl,ht.2.1 hf⟩
   | some g =>
    obtain⟨_,x,_,hx,_⟩:=ht.2.2 g hf
    exact⟨true,x,_,rfl,hx⟩
  subst hre
  have HTH:=hide hth
  have hb1:=ht.1
  have hs1:w.heap.size+2≤w1.heap.size:=by have:=hb1.size;rw [HS0.out] at this;exact this
  have hz1:=Zaa w1 (.cells #[.float .f64 0,.bool false,.slice none 0 0,.int .i64 0,.int .i64 0,.int .i64 0] 33)
  have hz2:=Zaa (w1.alloc (.cells #[.float .f64 0,.bool false,.slice none 0 0,.int .i64 0,.int .i64 0,.int .i64 0] 33)) (.cells #[.int .i64 0,.int .i64 0] 26)
  have hzr:RwBlk ((w1.alloc (.cells #[.float .f64 0,.bool false,.slice none 0 0,.int .i64 0,.int .i64 0,.int .i64 0] 33)).alloc (.cells #[.int .i64 0,.int .i64 0] 26)) w1.heap.size zeroR (.slice none 0 0):=(Zak w1 zeroR (.slice none 0 0)).keep hz2
  have hzq:BtBlk ((w1.alloc (.cells #[.float .f64 0,.bool false,.slice none 0 0,.int .i64 0,.int .i64 0,.int .i64 0] 33)).alloc (.cells #[.int .i64 0,.int .i64 0] 26)) (w1.heap.size+1) (0,0):=by
   have:=Zaw (w1.alloc (.cells #[.float .f64 0,.bool false,.slice none 0 0,.int .i64 0,.int .i64 0,.int .i64 0] 33)) (0,0)
   rwa [Zae] at this
  have hzs:((w1.alloc (.cells #[.float .f64 0,.bool false,.slice none 0 0,.int .i64 0,.int .i64 0,.int .i64 0] 33)).alloc (.cells #[.int .i64 0,.int .i64 0] 26)).heap.size=w1.heap.size+2:=by rw [Zae,Zae]
  have hst1:=Zis _ w1.heap.size _ _ hzr FR.r FR.a FR.n FR.c
  have hfr1:=ZbQ ((w1.alloc (.cells #[.float .f64 0,.bool false,.slice none 0 0,.int .i64 0,.int .i64 0,.int .i64 0] 33)).alloc (.cells #[.int .i64 0,.int .i64 0] 26)) w1.heap.size FR.r (.slice FR.a FR.n FR.c)
  have hzq1:BtBlk (setRw ((w1.alloc (.cells #[.float .f64 0,.bool false,.slice none 0 0,.int .i64 0,.int .i64 0,.int .i64 0] 33)).alloc (.cells #[.int .i64 0,.int .i64 0] 26)) w1.heap.size FR.r (.slice FR.a FR.n FR.c)) (w1.heap.size+1) (0,0):=(hfr1.block _ hzq.lt (by omega)).trans hzq
  have hB1:Below w1.heap.size w1 (setRw ((w1.alloc (.cells #[.float .f64 0,.bool false,.slice none 0 0,.int .i64 0,.int .i64 0,.int .i64 0] 33)).alloc (.cells #[.int .i64 0,.int .i64 0] 26)) w1.heap.size FR.r (.slice FR.a FR.n FR.c)):=(Zad hz1 hz2).trans (hfr1.below (by omega) (fun k hk=>by rw [hk];exact Nat.le_refl _))
  generalize setRw ((w1.alloc (.cells #[.float .f64 0,.bool false,.slice none 0 0,.int .i64 0,.int .i64 0,.int .i64 0] 33)).alloc (.cells #[.int .i64 0,.int .i64 0] 26)) w1.heap.size FR.r (.slice FR.a FR.n FR.c)=Wa at *
  have hst2:=Zcj Wa (w1.heap.size+1) _ hzq1 FB
  have hfr2:=ZaC Wa (w1.heap.size+1) FB
  have hB2:Below w1.heap.size w1 (setBt Wa (w1.heap.size+1) FB):=hB1.trans (hfr2.below hB1.size (fun k hk=>by rw [hk];omega))
  generalize setBt Wa (w1.heap.size+1) FB=W2 at *
  have hs2:w1.heap.size≤W2.heap.size:=hB2.size
  have HST1:=hide hst1
  have HST2:=hide hst2
  unfold Rw.val at HST1
  unfold btV at HST2
  have HB2:=hide (Zad (Zad HA.out hb1) hB2)
  have HR2:=hide ((HR.out.keep hb1).keep hB2)
  have HQ2:=hide ((HQ.out.keep hb1).keep hB2)
  have HF2:=hide (HFR.out.keep HB2.out (Nat.le_refl _))
  have HMAYC:=hide (fun m (hm:r.may=m)=>Zc3 r m hm ra rn rc W2 HF2.out HRF.out)
  unfold Rw.val at HMAYC
  clear HWE ht hth hb1 hz1 hz2 hzr hzq hzs hst1 hfr1 hzq1 hB1 hst2 hfr2 hB2 HFIND r0
  have r0:=HR2.out.c0
  have r1:=HR2.out.c1
  have r2:=HR2.out.c2
  have r3:=HR2.out.c3
  have r4:=HR2.out.c4
  have r5:=HR2.out.c5
  unfold Rx.val Rw.val btV
  go_wp2_with (first | refine Zac _ rfl rfl 33 (.tmp 9) (.tmp 22) rfl (.pointer (some ⟨w1.heap.size,0,none⟩)) (.agg #[.float .f64 FR.r.key,.bool FR.r.dead,.slice FR.a FR.n FR.c,.int .i64 FR.r.wr,.int .i64 FR.r.cell,.int .i64 FR.r.no]) rfl rfl Wa HST1.out ?_ | refine Zac _ rfl rfl 26 (.tmp 10) (.tmp 23) rfl (.pointer (some ⟨w1.heap.size+1,0,none⟩)) (.agg #[.int .i64 FB.1,.int .i64 FB.2]) rfl rfl W2 HST2.out ?_)
  cases hm:r.may with
  | false =>
   refine(HMAYC.out false hm).mono ?_
   rintro e w5 ⟨rfl,hb5⟩
   have HBR:=hide (Zad HB2.out hb5)
   have HQ5:=hide (HQ2.out.keep hb5)
   have hno:r.may=false∨r.wr=0∨(findH (lfs L) r.key).isSome=true:=.inl hm
   clear hb5
   have HD:=hide (HXE.out.trans (ZcP hno))
   have HSTB:=hide (Zcj w5 (w.heap.size+1) _ HQ5.out (0,0))
   have HQE:=hide (Zaz HQ5.out (0,0))
   have HBE:Hid (Below w.heap.size w (setBt w5 (w.heap.size+1) (0,0))):=HBR.out.trans ((ZaC w5 (w.heap.size+1) (0,0)).below (Nat.le_trans (by omega) HBR.out.size) (fun k hk=>by rw [hk];omega))
   generalize setBt w5 (w.heap.size+1) (0,0)=WE at *
   unfold btV at HSTB
   simp only at HSTB
   clear hno r0 r1 r2 r3 r4 r5
   go_wp2_with (refine Zac _ rfl rfl 26 (.tmp 7) (.tmp 37) rfl (.pointer (some ⟨w.heap.size+1,0,none⟩)) (.agg #[.int .i64 0,.int .i64 0]) rfl rfl WE HSTB.out ?_)
   refine bodyPost_ret (Za0 rfl HQE.out _ _ _ rfl rfl rfl) rfl ?_
   rw [HD.out]
   exact Zba.same H.out HBE.out 1
  | true =>
   refine(HMAYC.out true hm).mono ?_
   rintro e w5 ⟨rfl,hb5⟩
   have HBR:=hide (Zad HB2.out hb5)
   have HQ5:=hide (HQ2.out.keep hb5)
   have HR5:=hide (HR2.out.keep hb5)
   have hs5:W2.heap.size≤w5.heap.size:=hb5.size
   clear hb5 r0 r1 r2 r3 r4 r5 HMAYC
   have r3:=HR5.out.c3
   by_cases hw0:r.wr=0
   · have hw0i:(r.wr:Int)=0:=hw0
     have hno:r.may=false∨r.wr=0∨(findH (lfs L) r.key).isSome=true:=.inr (.inl hw0)
     have HD:=hide (HXE.out.trans (ZcP hno))
     have HSTB:=hide (Zcj w5 (w.heap.size+1) _ HQ5.out (0,0))
     have HQE:=hide (Zaz HQ5.out (0,0))
     have HBE:Hid (Below w.heap.size w (setBt w5 (w.heap.size+1) (0,0))):=HBR.out.trans ((ZaC w5 (w.heap.size+1) (0,0)).below (Nat.le_trans (by omega) HBR.out.size) (fun k hk=>by rw [hk];omega))
     generalize setBt w5 (w.heap.size+1) (0,0)=WE at *
     unfold btV at HSTB
     simp only at HSTB
     clear hno
     go_wp2_with (refine Zac _ rfl rfl 26 (.tmp 7) (.tmp 37) rfl (.pointer (some ⟨w.heap.size+1,0,none⟩)) (.agg #[.int .i64 0,.int .i64 0]) rfl rfl WE HSTB.out ?_)
     refine bodyPost_ret (Za0 rfl HQE.out _ _ _ rfl rfl rfl) rfl ?_
     rw [HD.out]
     exact Zba.same H.out HBE.out 1
   · have hw0i:¬(r.wr:Int)=0:=hw0
     cases th with
     | true =>
      have hno:r.may=false∨r.wr=0∨(findH (lfs L) r.key).isSome=true:=.inr (.inr HTH.out.symm)
      have HD:=hide (HXE.out.trans (ZcP hno))
      have HSTB:=hide (Zcj w5 (w.heap.size+1) _ HQ5.out (0,0))
      have HQE:=hide (Zaz HQ5.out (0,0))
      have HBE:Hid (Below w.heap.size w (setBt w5 (w.heap.size+1) (0,0))):=HBR.out.trans ((ZaC w5 (w.heap.size+1) (0,0)).below (Nat.le_trans (by omega) HBR.out.size) (fun k hk=>by rw [hk];omega))
      generalize setBt w5 (w.heap.size+1) (0,0)=WE at *
      unfold btV at HSTB
      simp only at HSTB
      clear hno
      go_wp2_with (refine Zac _ rfl rfl 26 (.tmp 7) (.tmp 37) rfl (.pointer (some ⟨w.heap.size+1,0,none⟩)) (.agg #[.int .i64 0,.int .i64 0]) rfl rfl WE HSTB.out ?_)
      refine bodyPost_ret (Za0 rfl HQE.out _ _ _ rfl rfl rfl) rfl ?_
      rw [HD.out]
      exact Zba.same H.out HBE.out 1
     | false =>
      have hok:¬(r.may=false∨r.wr=0∨(findH (lfs L) r.key).isSome=true):=by
       rintro (h | h | h)
       · rw [hm] at h;cases h
       · exact hw0 h
       · have:=HTH.out;rw [h] at this;cases this
      have HOK:=hide hok
      have HM:=hide hm
      have hlen:(lfs L).length=len:=by rw [Za4];exact H.out.len
      have HLN:=hide hlen
      clear hok hm hlen HTH
      go_wp2_with fail
      go_loopw [12] (fun iv wr=>∃i:Nat,i≤len∧iv=.int .i64 (i:Nat)∧Hid (∀j,j<i→(insA (lf (lfs L) j).slots (hpB r)).e≠0)∧Hid (Below w5.heap.size w5 wr)) (fun iv _=>len-(intOf iv).toNat)
      case atStart=>exact ⟨0,Nat.zero_le _,rfl,(fun j hj=>absurd hj (Nat.not_lt_zero _)),Below.refl _ _⟩
      case round =>
       obtain⟨i,hi,rfl,hno,hWr⟩:=hrel
       have HBR2:=hide (Zad HBR.out hWr.out)
       have HQR:=hide (HQ5.out.keep hWr.out)
       have HRR:=hide (HR5.out.keep hWr.out)
       have hsr:w5.heap.size≤wr.heap.size:=hWr.out.size
       rcases Nat.lt_or_ge i len with hlt | hge
       · have j1:(i:Int)<(len:Int):=by omega
         have HGW:=hide (H.out.below HBR2.out (Nat.le_refl _))
         obtain⟨b,off,ha,c0,c1⟩:=HGW.out.cell i hlt
         replace ha:a=some ⟨b,off,none⟩:=ha
         subst ha
         have hit:=HGW.out.at (i:=i) hlt
         have hit0:=H.out.at (i:=i) hlt
         have hlf:=Zbt L i
         have hml:=HML.out _ (Zbe (l:=lfs L) (i:=i) (by rw [HLN.out];exact hlt))
         obtain⟨z,hz⟩:∃z,z=L.getD i Lb.zero:=⟨_,rfl⟩
         rw [← hz] at c0 c1 hit hit0 hlf
         rw [hlf] at hml
         have HIT0:=hide hit0
         have hz4:z.u.len=4:=by have:=hit.1.len;have h4':z.t.length=4:=hml.itl.1;omega
         have hzv:z.v.len≤900:=by have:=hit.2.len;have h64:(bss z.l).length≤64:=hml.slots.1;rw [Zag] at h64;omega
         have HLF:Hid (lf (lfs L) i=⟨z.t,bss z.l⟩):=hlf
         have HIT:=hide hit
         have HC0:=hide c0
         have HC1:=hide c1
         have HFW:=hide (HFR.out.keep HBR2.out (Nat.le_refl _))
         clear hit hit0 hlf hml hz c0 c1
         go_wp2_with fail
         refine Pl.q9 (ops:=Pl.find 7 ((Tryz.f25.body).getD .skip)) ?_
         refine Zpv (D:=D) wr wr b off len cap i hlt z HC0.out HC1.out HIT.out hzv w.heap.size r ra rn rc HRR.out HFW.out HRF.out HM.out (Below.refl _ _) (by rfl) (by rfl) (by rfl) (by rfl) (by rfl) ?_
         intro u g w7 hg7 hbx hb7
         simp only [Act.put,List.setIfInBounds_toArray,List.set_cons_zero,List.set_cons_succ]
         by_cases he:(insA (bss z.l) (hpB r)).e=0
         · have he1:¬((insA (bss z.l) (hpB r)).e≠0):=fun h=>h he
           have HROOM:Hid (roomH (hpB r) (lfs L) 0=some i):=Zjb (by rw [HLN.out];exact hlt) (by rw [HLF.out];exact he) hno.out
           have HB7:=hide (Zad HBR2.out hb7)
           have HR7:=hide (HRR.out.keep hb7)
           have HQ7:=hide (HQR.out.keep hb7)
           have HC07:=hide (Zaf HC0.out hb7)
           have HC17:=hide (Zaf HC1.out hb7)
           have hs7:wr.heap.size≤w7.heap.size:=hb7.size
           obtain⟨bu,bv,hbx⟩:=hbx
           have HBX:=hide hbx
           have hgl:=hbx.lt
           have HIT7:Hid (Gi (fun k=>k<w.heap.size) w7 z.u z.t∧Gb (fun k=>k<w.heap.size) w7 z.v z.l):=⟨(HIT0.out.1.mono (E:=fun k=>k<w.heap.size) (fun k _ hl=>hl)).below HB7.out (Nat.le_refl _),(HIT0.out.2.mono (E:=fun k=>k<w.heap.size) (fun k _ hl=>hl)).below HB7.out (Nat.le_refl _)⟩
           have HLV7:Hid (Gi (fun k=>k<w.heap.size) w7 ⟨la,ln,lc⟩ live):=(HLV.out.mono (E:=fun k=>k<w.heap.size) (fun k _ hl=>hl)).below HB7.out (Nat.le_refl _)
           clear hb7 hbx hno
           go_wp2_with fail
           refine Pl.q9 (ops:=Pl.find 9 ((Tryz.f25.body).getD .skip)) ?_
           refine Zpw (D:=fun k=>k<w.heap.size) w7 w7 b off len cap i hlt z HC07.out HC17.out HIT7.out hz4 ⟨la,ln,lc⟩ live HLV7.out w.heap.size r ra rn rc HR7.out (Below.refl _ _) (by rfl) (by rfl) (by rfl) (by rfl) (by rfl) (by rfl) ?_
           intro u9 gx u7 v7 w9 hgx hkx hgi hgb hb9
           simp only [Act.put,List.setIfInBounds_toArray,List.set_cons_zero,List.set_cons_succ]
           have HB9:=hide (Zad HB7.out hb9)
           have HR9:=hide (HR7.out.keep hb9)
           have HQ9:=hide (HQ7.out.keep hb9)
           have HBX9:=hide (HBX.out.below hb9)
           have hs9:w7.heap.size≤w9.heap.size:=hb9.size
           have HJE:Hid ((joinI z.t r.wr live).e=(joinI (lf (lfs L) i).itl r.wr live).e):=by show _=_;rw [HLF.out]
           by_cases hj:(joinI z.t r.wr live).e=0
           · have hj1:¬((joinI z.t r.wr live).e≠0):=fun h=>h hj
             have HD:=hide (HXE.out.trans (Zl0 HOK.out HROOM.out (by rw [← HJE.out];exact hj)))
             have HKX:=hide hkx
             have hwide:∀k,Nw (fun k=>k<w.heap.size) w7 gx k→k≠g∧k≠w.heap.size+1:=by intro k hk;rcases hk with h | h;exact ⟨by have:=h.1;omega,by have:=h.1;omega⟩;exact ⟨by omega,by omega⟩
             have HY:Hid (Gi (fun k=>k≠g∧k≠w.heap.size+1) w9 u7 (joinI z.t r.wr live).t∧Gb (fun k=>k≠g∧k≠w.heap.size+1) w9 v7 z.l):=⟨hgi.wide hwide,hgb.wide hwide⟩
             have HF9:=hide (HFR.out.keep HB9.out (Nat.le_refl _))
             have hv7:v7.len≤900:=by clear hwide;have h1:=hgb.len;have h2:=HIT.out.2.len;omega
             clear hkx hgi hgb hb9 hwide
             go_wp2_with fail
             refine Pl.q9 (ops:=Pl.find 12 ((Tryz.f25.body).getD .skip)) ?_
             refine ZoA (E:=fun k=>k≠g∧k≠w.heap.size+1) w9 w9 gx g (fun k hk=>hk.1) (fun k hk=>⟨by omega,by omega⟩) (Lb.mk u7 v7 (joinI z.t r.wr live).t z.l) HKX.out (by omega) _ _ HBX9.out (by omega) HY.out hv7 w.heap.size r ra rn rc HR9.out HF9.out HRF.out HM.out (by omega) (Below.refl _ _) (by rfl) (by rfl) (by rfl) (by rfl) (by rfl) ?_
             intro u12 v6 l6 wz hkz hgiz hgbz hl6 hfz
             simp only [Act.put,List.setIfInBounds_toArray,List.set_cons_zero,List.set_cons_succ]
             have HBZ:Hid (Below w.heap.size w wz):=HB9.out.trans (hfz.below (by omega) (fun k hk=>by rw [hk];omega))
             have HQZ:Hid (BtBlk wz (w.heap.size+1) (0,0)):=(hfz.block _ HQ9.out.lt (by omega)).trans HQ9.out
             have d0:=hkz.c0
             have d1:=hkz.c1
             have hsz:w9.heap.size≤wz.heap.size:=hfz.size
             have HSET:=hide (ZdC (D:=fun k=>k≠w.heap.size+1) wz ⟨some ⟨b,off,none⟩,len,cap⟩ L ((H.out.mono (E:=fun k=>k≠w.heap.size+1) (fun k _ hl=>by omega)).below HBZ.out (Nat.le_refl _)) i hlt ⟨u7,v6,(joinI z.t r.wr live).t,l6⟩ ⟨hgiz.wide (fun k hk=>hk.2),hgbz.wide (fun k hk=>hk.2)⟩)
             have HEQ:Hid (((lfs L).set i (Lb.mk u7 v6 (joinI z.t r.wr live).t l6).lf)=X.l):=by
              show _=_
              rw [HD.out]
              unfold Lb.lf putL
              rw [hl6,HLF.out]
             rw [HEQ.out] at HSET
             have HXB:Hid (X.b=((i:Int),(insA (bss z.l) (hpB r)).at_)):=by show _=_;rw [HD.out,HLF.out]
             have HXC:Hid (X.e=0):=by show _=_;rw [HD.out]
             clear hkz hgiz hgbz hl6 hfz HEQ HD
             obtain⟨⟨ja,jn,jc⟩⟩:∃s:Sl,s=u7:=⟨_,rfl⟩
             obtain⟨ja,jn,jc⟩:=u7
             obtain⟨ya,yn,yc⟩:=v6
             unfold lfV Sl.val at HSET
             unfold Sl.val at d0 d1
             simp only at HSET d0 d1
             go_wp2_with fail
             refine HSET.out.mono ?_
             rintro e wq ⟨hbq,⟨sa,sn,sc⟩,L',rfl,hgl2,hls⟩
             have HBQ:=hide (Zad HBZ.out hbq)
             have HQQ:=hide (HQZ.out.keep hbq)
             have hsq:wz.heap.size≤wq.heap.size:=hbq.size
             have HSTB:=hide (Zcj wq (w.heap.size+1) _ HQQ.out ((i:Int),(insA (bss z.l) (hpB r)).at_))
             have HQE:=hide (Zaz HQQ.out ((i:Int),(insA (bss z.l) (hpB r)).at_))
             have HFE:=hide (ZaC wq (w.heap.size+1) ((i:Int),(insA (bss z.l) (hpB r)).at_))
             have HBE:Hid (Below w.heap.size w (setBt wq (w.heap.size+1) ((i:Int),(insA (bss z.l) (hpB r)).at_))):=HBQ.out.trans (HFE.out.below (by omega) (fun k hk=>by rw [hk];omega))
             have HGE:Hid (Gl (fun _=>True) (setBt wq (w.heap.size+1) ((i:Int),(insA (bss z.l) (hpB r)).at_)) ⟨sa,sn,sc⟩ L'):=((hgl2.wide (fun k hk=>by rcases hk with h | h;exact h;omega):Gl (fun k=>k≠w.heap.size+1) wq ⟨sa,sn,sc⟩ L').keep (Kept.frm HFE.out (fun k hk e=>hk e))).wide (fun _ _=>trivial)
             have HLS:=hide hls
             generalize setBt wq (w.heap.size+1) ((i:Int),(insA (bss z.l) (hpB r)).at_)=WE at *
             unfold btV at HSTB
             simp only at HSTB
             clear hbq hgl2 hls d0 d1
             unfold Sl.val
             go_wp2_with (refine Zac _ rfl rfl 26 (.tmp 7) (.tmp 87) rfl (.pointer (some ⟨w.heap.size+1,0,none⟩)) (.agg #[.int .i64 (i:Int),.int .i64 (insA (bss z.l) (hpB r)).at_]) rfl rfl WE HSTB.out ?_)
             refine bodyPost_ret (Za0 rfl HQE.out _ _ _ rfl rfl rfl) rfl ?_
             refine⟨HBE.out,⟨sa,sn,sc⟩,L',?_,HGE.out,HLS.out⟩
             rw [HXB.out,HXC.out]
             rfl
           · have hj1:(joinI z.t r.wr live).e≠0:=hj
             have HD:=hide (HXE.out.trans (Zja HOK.out HROOM.out (by rw [← HJE.out];exact hj)))
             rw [← HJE.out] at HD
             have HSTB:=hide (Zcj w9 (w.heap.size+1) _ HQ9.out (0,0))
             have HQE:=hide (Zaz HQ9.out (0,0))
             have HBE:Hid (Below w.heap.size w (setBt w9 (w.heap.size+1) (0,0))):=HB9.out.trans ((ZaC w9 (w.heap.size+1) (0,0)).below (by omega) (fun k hk=>by rw [hk];omega))
             generalize setBt w9 (w.heap.size+1) (0,0)=WE at *
             unfold btV at HSTB
             simp only at HSTB
             clear hkx hgi hgb hb9
             go_wp2_with (refine Zac _ rfl rfl 26 (.tmp 7) (.tmp 71) rfl (.pointer (some ⟨w.heap.size+1,0,none⟩)) (.agg #[.int .i64 0,.int .i64 0]) rfl rfl WE HSTB.out ?_)
             refine bodyPost_ret (Za0 rfl HQE.out _ _ _ rfl rfl rfl) rfl ?_
             rw [HD.out]
             exact Zba.same H.out HBE.out _
         · have he1:(insA (bss z.l) (hpB r)).e≠0:=he
           have HN2:Hid (∀j,j<i+1→(insA (lf (lfs L) j).slots (hpB r)).e≠0):=by
            intro j hj
            rcases Nat.lt_or_ge j i with h1 | h1
            · exact hno.out j h1
            · rw [show j=i by omega,HLF.out];exact he
           have HW2:=hide (Zad hWr.out hb7)
           clear hb7 hbx hno
           go_wp2_with fail
           go_roundw
           case rel=>exact ⟨i+1,by omega,by go_num,HN2,HW2⟩
           case measure=>simp only [intOf];omega
       · have j1:¬(i:Int)<(len:Int):=by omega
         have hrn:roomH (hpB r) (lfs L) 0=none:=ZbO.2 (fun m hm=>hno.out m (by rw [HLN.out] at hm;omega))
         have HD:=hide (HXE.out.trans (Zhx HOK.out hrn))
         have HSTB:=hide (Zcj wr (w.heap.size+1) _ HQR.out (0,0))
         have HQE:=hide (Zaz HQR.out (0,0))
         have HBE:Hid (Below w.heap.size w (setBt wr (w.heap.size+1) (0,0))):=HBR2.out.trans ((ZaC wr (w.heap.size+1) (0,0)).below (by omega) (fun k hk=>by rw [hk];omega))
         generalize setBt wr (w.heap.size+1) (0,0)=WE at *
         unfold btV at HSTB
         simp only at HSTB
         clear hrn hno
         go_wp2_with (refine Zac _ rfl rfl 26 (.tmp 7) (.tmp 89) rfl (.pointer (some ⟨w.heap.size+1,0,none⟩)) (.agg #[.int .i64 0,.int .i64 0]) rfl rfl WE HSTB.out ?_)
         refine bodyPost_ret (Za0 rfl HQE.out _ _ _ rfl rfl rfl) rfl ?_
         rw [HD.out]
         exact Zba.same H.out HBE.out 7
end Go.Proofs.YtdojdcncncgncaaGreat
