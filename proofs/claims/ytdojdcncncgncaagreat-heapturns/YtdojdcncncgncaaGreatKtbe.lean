/-
  Lemmas.
-/
import Derived.Test.YtdojdcncncgncaaGreatKtbd
import Derived.Test.YtdojdcncncgncaaGreatKtbc
namespace Go.Proofs.YtdojdcncncgncaaGreat
open Go.RowKit
set_option linter.unusedVariables false
set_option linter.unusedSimpArgs false
set_option maxRecDepth 100000
set_option maxHeartbeats 4000000
variable {w:World}{p:Nat}{x0 x1 x2 x3 x4 x5:Int}
def A6Blk (w:World) (p:Nat) (x0 x1 x2 x3 x4 x5:Int):Prop:=w.heap[p]? = some (Obj.cells #[.int .i64 x0,.int .i64 x1,.int .i64 x2,.int .i64 x3,.int .i64 x4,.int .i64 x5] 45 (0,0))
theorem A6Blk.keep {w':World}(h:A6Blk w p x0 x1 x2 x3 x4 x5)(hb:Below w.heap.size w w'):A6Blk w' p x0 x1 x2 x3 x4 x5:=(hb.block p (Array.getElem?_eq_some_iff.1 h).1).trans h
theorem A6Blk.c0 (h:A6Blk w p x0 x1 x2 x3 x4 x5):w.cell? ⟨p,0,none⟩=some (.int .i64 x0):=by unfold A6Blk at h;rw [cell_of_row _ _ _ _ _ _ h];rfl
theorem A6Blk.c1 (h:A6Blk w p x0 x1 x2 x3 x4 x5):w.cell? ⟨p,1,none⟩=some (.int .i64 x1):=by unfold A6Blk at h;rw [cell_of_row _ _ _ _ _ _ h];rfl
theorem A6Blk.gi (h:A6Blk w p x0 x1 x2 x3 x4 x5):Gi (fun _=>True) w ⟨some ⟨p,2,none⟩,4,4⟩ [x2,x3,x4,x5]:=by
 unfold A6Blk at h;refine⟨rfl,(fun e=>by cases e),Nat.le_refl _,by show 4≤1000000;decide,fun _ _ _=>trivial,fun i hi=>⟨p,2,rfl,?_⟩⟩;(have aa:i=0∨i=1∨i=2∨i=3:=by have:i<4:=hi;omega);rcases aa with rfl | rfl | rfl | rfl <;> (rw [cell_of_row _ _ _ _ _ _ h];rfl)
theorem Zon (q:Nat)(w:World):(Instr.sliceAt 45 (.pointer (some ⟨q,0,none⟩)) (some (.int .i64 2)) none none).run Tryz.prog w=.ok (.slice (some ⟨q,2,none⟩) 4 4) w:=by simp [go_sem,Instr.sliceAt]
theorem Zi7 (w:World)(b:Bt):∃W,(Instr.storeAt 26 (.pointer (some ⟨w.heap.size,0,none⟩)) (.agg #[.int .i64 b.1,.int .i64 b.2])).run Tryz.prog (w.alloc (.cells #[.int .i64 0,.int .i64 0] 26))=.ok () W∧BtBlk W w.heap.size b∧Below w.heap.size w W:=by
 have hz:=Zaw w (0,0);have hf:=ZaC (w.alloc (.cells #[.int .i64 0,.int .i64 0] 26)) w.heap.size b;exact⟨_,Zcj _ w.heap.size _ hz b,Zaz hz b,(Zaa w _).trans (hf.below (by rw [Zae];omega) (fun k hk=>by rw [hk];exact Nat.le_refl _))⟩
structure Tn (w0 w:World) (s:Sl) (L:List Lb) (r:Rw) (ra:Option Addr) (rn rc:Nat) (lv:Sl) (live:List Int) (p q:Nat) (y:Bt):Prop where
  below:Below w0.heap.size w0 w
  gl:Gl (fun _=>True) w s L
  fs:Fs w ra rn rc r.xs
  gi:Gi (fun _=>True) w lv live
  row:RwBlk w p r (.slice ra rn rc)
  bt:BtBlk w q y
theorem Tn.keep {w0 w':World}{s:Sl}{L:List Lb}{r:Rw}{ra:Option Addr}{rn rc:Nat}{lv:Sl}{live:List Int}{q:Nat}{y:Bt}(h:Tn w0 w s L r ra rn rc lv live p q y)(hb:Below w.heap.size w w'):Tn w0 w' s L r ra rn rc lv live p q y:=
 ⟨Zad h.below hb,h.gl.below hb (Nat.le_refl _),h.fs.keep hb (Nat.le_refl _),h.gi.below hb (Nat.le_refl _),h.row.keep hb,h.bt.keep hb⟩
theorem Zmq (w:World):Gl (fun _=>True) (w.alloc (.cells #[] 67)) ⟨some ⟨w.heap.size,0,none⟩,0,0⟩ []:=(EmI.start w).gl (Nat.zero_le _)
theorem Zox (HS:Znv True)(w:World)(s:Sl)(L:List Lb)(h:InL w s L)(r:Rw)(ra:Option Addr)(rn rc:Nat)(hr:Fs w ra rn rc r.xs)(ky:rn≤9223372036854775807)(ko:r.fits)(x0 x1 x2 x3 x4 x5:Int) :
    Calls Tryz.prog 4 #[s.val,r.val (.slice ra rn rc),.agg #[.int .i64 x0,.int .i64 x1,.int .i64 x2,.int .i64 x3,.int .i64 x4,.int .i64 x5]] w fun e w'=>e=.returned (.bool true)∧Below w.heap.size w w':=by
  have kz:∀(w:World) (a:Addr) (m:Mode) (x:Nat),(store a (.float .f64 x) m).run Tryz.prog w=stored Tryz.prog w a (.float .f64 x) m:=fun w a m x=>run_store Tryz.prog w a _ m rfl;have kb:=Zaa w (.cells #[.float .f64 r.key,.bool r.dead,.slice ra rn rc,.int .i64 r.wr,.int .i64 r.cell,.int .i64 r.no] 33);have jd:=Zaa (w.alloc (.cells #[.float .f64 r.key,.bool r.dead,.slice ra rn rc,.int .i64 r.wr,.int .i64 r.cell,.int .i64 r.no] 33)) (.cells #[.int .i64 x0,.int .i64 x1,.int .i64 x2,.int .i64 x3,.int .i64 x4,.int .i64 x5] 45);have hR:RwBlk ((w.alloc (.cells #[.float .f64 r.key,.bool r.dead,.slice ra rn rc,.int .i64 r.wr,.int .i64 r.cell,.int .i64 r.no] 33)).alloc (.cells #[.int .i64 x0,.int .i64 x1,.int .i64 x2,.int .i64 x3,.int .i64 x4,.int .i64 x5] 45)) w.heap.size r (.slice ra rn rc):=(Zak w r (.slice ra rn rc)).keep jd;have hX:A6Blk ((w.alloc (.cells #[.float .f64 r.key,.bool r.dead,.slice ra rn rc,.int .i64 r.wr,.int .i64 r.cell,.int .i64 r.no] 33)).alloc (.cells #[.int .i64 x0,.int .i64 x1,.int .i64 x2,.int .i64 x3,.int .i64 x4,.int .i64 x5] 45)) (w.heap.size+1) x0 x1 x2 x3 x4 x5:=by
   have:=heap_alloc_new (w.alloc (.cells #[.float .f64 r.key,.bool r.dead,.slice ra rn rc,.int .i64 r.wr,.int .i64 r.cell,.int .i64 r.no] 33)) (.cells #[.int .i64 x0,.int .i64 x1,.int .i64 x2,.int .i64 x3,.int .i64 x4,.int .i64 x5] 45);rwa [Zae] at this
  have hA:=Zad kb jd;obtain⟨W0,jh⟩:∃W0,W0=(w.alloc (.cells #[.float .f64 r.key,.bool r.dead,.slice ra rn rc,.int .i64 r.wr,.int .i64 r.cell,.int .i64 r.no] 33)).alloc (.cells #[.int .i64 x0,.int .i64 x1,.int .i64 x2,.int .i64 x3,.int .i64 x4,.int .i64 x5] 45):=⟨_,rfl⟩;rw [← jh] at hA hR hX;have HA:=hide hA;have jw:=hide hR;have HX:=hide hX;have jl:=hide (hr.keep hA (Nat.le_refl _));have HH:=hide HS;have jf:InL W0 s L:=⟨h.len,h.nil,h.le,h.big,fun i hi=>by obtain ⟨b,off,ha,c0,c1⟩:=h.cell i hi;exact ⟨b,off,ha,Zaf c0 hA,Zaf c1 hA⟩,fun x hx=>⟨⟨(h.it x hx).1.len,(h.it x hx).1.nil,(h.it x hx).1.le,(h.it x hx).1.big,fun i hi=>by obtain ⟨b,off,ha,c0⟩:=(h.it x hx).1.cell i hi;exact ⟨b,off,ha,Zaf c0 hA⟩⟩,⟨(h.it x hx).2.len,(h.it x hx).2.nil,(h.it x hx).2.le,(h.it x hx).2.big,fun i hi=>by obtain ⟨b,off,ha,c0⟩:=(h.it x hx).2.cell i hi;exact ⟨b,off,ha,Zaf c0 hA⟩,fun q hq=>((h.it x hx).2.bs q hq).keep hA (Nat.le_refl _)⟩⟩⟩;have jv:=hide jf;have iz:=hide (ZjH W0 s L jf);have kw:=hide jh;have cp:=hide ko;obtain⟨a,len,cap⟩:=s;clear h kb jd hA hR hX jf HS jh hr ko;unfold Sl.val Rw.val at *;simp only at *;go_enter Tryz.func4,Tryz.ntmps4;go_wp2_with fail;rw [← kw.out];refine iz.out.mono ?_;rintro e w1 ⟨hl | ⟨ki,kj,hl⟩,gj⟩
  · subst hl;have ir:=hide (Zad HA.out gj);have ec:=hide (ZcC HH.out w1);clear gj iz;go_wp2_with fail;refine ec.out.mono ?_;rintro e w2 ⟨rfl,cg⟩;have ix:=hide (Zad ir.out cg);clear cg;go_wp2_with fail;go_ret;exact⟨rfl,ix.out⟩
  · subst hl;have ir:=hide (Zad HA.out gj);have jg:=jw.out.keep gj;have ib:=hide jg;have c2:=jg.c2;have iw:=HX.out.keep gj;have ka:=hide iw;have x0c:=iw.c0;have x1c:=iw.c1;have jm:=hide ((InL.gl jv.out ki kj).below gj (Nat.le_refl _));have gx:=hide (jl.out.keep gj (Nat.le_refl _));clear gj iz ki kj jv jg iw jw HX jl;by_cases kx:20<rn
    · (have j20:(20:Int)<(rn:Int):=by omega);have ec:=hide (ZcC HH.out w1);go_wp2_with fail;refine ec.out.mono ?_;rintro e w2 ⟨rfl,cg⟩;have ix:=hide (Zad ir.out cg);clear cg;go_wp2_with fail;go_ret;exact⟨rfl,ix.out⟩
    · (have j20:¬(20:Int)<(rn:Int):=by omega);obtain⟨W2,kp,ak,cg⟩:=Zi7 w1 (x0,x1);have jy:=hide kp;have ax:Hid (Tn w W2 ⟨a,len,cap⟩ L r ra rn rc ⟨some ⟨w.heap.size+1,2,none⟩,4,4⟩ [x2,x3,x4,x5] w.heap.size w1.heap.size (x0,x1)):=⟨Zad ir.out cg,jm.out.below cg (Nat.le_refl _),gx.out.keep cg (Nat.le_refl _),(ka.out.keep cg).gi,ib.out.keep cg,ak⟩;have jx:=hide (Zon (w.heap.size+1));clear kp ak cg jm gx ka ib;by_cases hM:MayH (lfs L)
      · have HM:=hide hM;have kh:∀f∈lfs L,f.itl.length=4:=fun f hf=>(hM.leaf f hf).itl.1;rcases hX:putH (lfs L) r [x2,x3,x4,x5] with ⟨pl,⟨b1,b2⟩,pe⟩;rcases hC:layH (lfs L) (x0,x1) r true [x2,x3,x4,x5] with ⟨cl,ce⟩;rcases hD:layH (lfs L) (x0,x1) r false [] with ⟨dl,de⟩;rcases hE:dropH (lfs L) (x0,x1) with ⟨el,ee⟩;clear hM;have hP:=HH.out.put W2 ⟨a,len,cap⟩ L r ra rn rc ⟨some ⟨w.heap.size+1,2,none⟩,4,4⟩ [x2,x3,x4,x5] ax.out.gl ax.out.fs cp.out ax.out.gi HM.out;rw [hX] at hP;have HP:=hide hP;simp only [Sl.val,Rw.val,btV] at HP;have a0:=ax.out.row.c0;have a1:=ax.out.row.c1;have a2:=ax.out.row.c2;have a3:=ax.out.row.c3;have a4:=ax.out.row.c4;have a5:=ax.out.row.c5;clear hP;go_wp2_with (first | refine Zac _ rfl rfl 26 (.tmp 7) (.tmp 36) rfl (.pointer (some ⟨w1.heap.size,0,none⟩)) (.agg #[.int .i64 x0,.int .i64 x1]) rfl rfl W2 jy.out ?_ | refine Zbc _ rfl 45 (.tmp 5) (some (.const (.int .i64 2))) none none rfl (.slice (some ⟨w.heap.size+1,2,none⟩) 4 4) (jx.out _) ?_);refine HP.out.mono ?_;rintro e w3 ⟨ih,⟨aa,an,ac⟩,La,rfl,ii,im⟩;obtain⟨W4,eb,ea,gu⟩:=Zi7 w3 (b1,b2);have gs:=hide eb;have dy:=Zad ih gu;have aj:=hide (ax.out.keep dy);clear ax dy a0 a1 a2 a3 a4 a5 HP;have cr:=hide (ii.below gu (Nat.le_refl _));have ci:=hide (ea);have iu:=hide im;clear ih gu eb ea ii im;have hP:=HH.out.set trivial W4 ⟨a,len,cap⟩ L (x0,x1) r ra rn rc ⟨some ⟨w.heap.size+1,2,none⟩,4,4⟩ [x2,x3,x4,x5] aj.out.gl aj.out.fs cp.out aj.out.gi HM.out;rw [hC] at hP;have HP:=hide hP;simp only [Sl.val,Rw.val,btV] at HP;have a0:=aj.out.row.c0;have a1:=aj.out.row.c1;have a2:=aj.out.row.c2;have a3:=aj.out.row.c3;have a4:=aj.out.row.c4;have a5:=aj.out.row.c5;have t0:=aj.out.bt.c0;have t1:=aj.out.bt.c1;clear hP;(try unfold btV);go_wp2_with (first | refine Zac _ rfl rfl 26 (.tmp 10) (.tmp 44) rfl (.pointer (some ⟨w3.heap.size,0,none⟩)) (.agg #[.int .i64 b1,.int .i64 b2]) rfl rfl W4 gs.out ?_);refine HP.out.mono ?_;rintro e w5 ⟨ef,⟨ca,cn,cc⟩,Lc,rfl,ij,io⟩;have am:=hide (aj.out.keep ef);have cs:=hide (cr.out.below ef (Nat.le_refl _));have cj:=hide (ci.out.keep ef);clear aj cr ci ef a0 a1 a2 a3 a4 a5 t0 t1 HP;have cw:=hide (ij);have iv:=hide io;clear ij io;have hP:=HH.out.lay trivial w5 ⟨a,len,cap⟩ L (x0,x1) r ra rn rc am.out.gl am.out.fs cp.out HM.out;rw [hD] at hP;have HP:=hide hP;simp only [Sl.val,Rw.val,btV] at HP;have a0:=am.out.row.c0;have a1:=am.out.row.c1;have a2:=am.out.row.c2;have a3:=am.out.row.c3;have a4:=am.out.row.c4;have a5:=am.out.row.c5;have t0:=am.out.bt.c0;have t1:=am.out.bt.c1;clear hP;go_wp2_with fail;refine HP.out.mono ?_;rintro e w6 ⟨dz,⟨da,dn,dc⟩,Ld,rfl,ik,ip⟩;have dx:=hide (am.out.keep dz);have ct:=hide (cs.out.below dz (Nat.le_refl _));have ck:=hide (cj.out.keep dz);have cx:=hide (cw.out.below dz (Nat.le_refl _));clear am cs cj cw dz a0 a1 a2 a3 a4 a5 t0 t1 HP;have df:=hide (ik);have ja:=hide ip;clear ik ip;have hP:=HH.out.drop w6 ⟨a,len,cap⟩ L (x0,x1) dx.out.gl HM.out;rw [hE] at hP;have HP:=hide hP;simp only [Sl.val,Rw.val,btV] at HP;have t0:=dx.out.bt.c0;have t1:=dx.out.bt.c1;clear hP;go_wp2_with fail;refine HP.out.mono ?_;rintro e w7 ⟨cf,⟨ha,hn,hc⟩,Lh,rfl,il,iq⟩;have gt:=hide (dx.out.keep cf);have cu:=hide (ct.out.below cf (Nat.le_refl _));have cm:=hide (ck.out.keep cf);have cy:=hide (cx.out.below cf (Nat.le_refl _));have dg:=hide (df.out.below cf (Nat.le_refl _));clear dx ct ck cx df cf t0 t1 HP;have dk:=hide (il);have jb:=hide iq;clear il iq;have bv:=hide (Zd9 w7 ⟨a,len,cap⟩ L gt.out.gl);simp only [Sl.val,Rw.val,btV] at bv;go_wp2_with fail;refine bv.out.mono ?_;rintro e w8 ⟨⟨bm,rfl,ag⟩,bw⟩;have ak:bm=true:=ag.2 HM.out;subst ak;have cd:=hide (gt.out.keep bw);have cv:=hide (cu.out.below bw (Nat.le_refl _));have co:=hide (cm.out.keep bw);have cz:=hide (cy.out.below bw (Nat.le_refl _));have dh:=hide (dg.out.below bw (Nat.le_refl _));have dm:=hide (dk.out.below bw (Nat.le_refl _));clear gt cu cm cy dg dk bw ag bv;have hP:=ZlE w8 ⟨a,len,cap⟩ L cd.out.gl HM.out.leaf r ra rn rc cd.out.fs cp.out ⟨some ⟨w.heap.size+1,2,none⟩,4,4⟩ [x2,x3,x4,x5] cd.out.gi;rw [hX] at hP;have HP:=hide hP;simp only [Sl.val,Rw.val,btV] at HP;have a0:=cd.out.row.c0;have a1:=cd.out.row.c1;have a2:=cd.out.row.c2;have a3:=cd.out.row.c3;have a4:=cd.out.row.c4;have a5:=cd.out.row.c5;clear hP;go_wp2_with fail;refine HP.out.mono ?_;rintro e w9 ⟨kc,⟨ua,un,uc⟩,Lu,rfl,kd,kk⟩;obtain⟨W10,gm,gk,ao⟩:=Zi7 w9 (b1,b2);have ic:=hide gm;have bx:=Zad kc ao;have dt:=hide (cd.out.keep bx);have ba:=hide (cv.out.below bx (Nat.le_refl _));have ar:=hide (co.out.keep bx);have bc:=hide (cz.out.below bx (Nat.le_refl _));have bn:=hide (dh.out.below bx (Nat.le_refl _));have bq:=hide (dm.out.below bx (Nat.le_refl _));clear cd cv co cz dh dm bx a0 a1 a2 a3 a4 a5 HP;have dp:=hide (kd.below ao (Nat.le_refl _));have em:=hide (gk);have kr:=hide kk;clear kc ao gm gk kd kk;have ai:=hide (Zbo W10 ⟨aa,an,ac⟩ ⟨ua,un,uc⟩ La Lu pe pe ba.out dp.out);simp only [Sl.val,Rw.val,btV] at ai;(try unfold btV);go_wp2_with (first | refine Zac _ rfl rfl 26 (.tmp 20) (.tmp 107) rfl (.pointer (some ⟨w9.heap.size,0,none⟩)) (.agg #[.int .i64 b1,.int .i64 b2]) rfl rfl W10 ic.out ?_);refine ai.out.mono ?_;rintro e w11 ⟨⟨bm,rfl,ag⟩,ad⟩;have ak:bm=true:=ag.2 ⟨rfl,iu.out.trans kr.out.symm⟩;subst ak;have du:=hide (dt.out.keep ad);have bb:=hide (ba.out.below ad (Nat.le_refl _));have au:=hide (ar.out.keep ad);have bk:=hide (bc.out.below ad (Nat.le_refl _));have be:=hide (bn.out.below ad (Nat.le_refl _));have br:=hide (bq.out.below ad (Nat.le_refl _));have fn:=hide (dp.out.below ad (Nat.le_refl _));have bz:=hide (em.out.keep ad);clear dt ba ar bc bn bq dp em ad ag ai;have p0:=au.out.c0;have p1:=au.out.c1;have q0:=bz.out.c0;have q1:=bz.out.c1;have bv:=hide (Zd9 w11 ⟨aa,an,ac⟩ La bb.out);simp only [Sl.val,Rw.val,btV] at bv;go_wp2_with fail;refine bv.out.mono ?_;rintro e w12 ⟨⟨bm,rfl,ag⟩,ae⟩;have ak:bm=true:=ag.2 (by rw [iu.out];have q:=Zhl HM.out cp.out [x2,x3,x4,x5];rw [hX] at q;exact q);subst ak;have ah:=hide (du.out.keep ae);have bi:=hide (bb.out.below ae (Nat.le_refl _));have bg:=hide (au.out.keep ae);have bl:=hide (bk.out.below ae (Nat.le_refl _));have bo:=hide (be.out.below ae (Nat.le_refl _));have bf:=hide (br.out.below ae (Nat.le_refl _));have fo:=hide (fn.out.below ae (Nat.le_refl _));have en:=hide (bz.out.keep ae);clear du bb au bk be br fn bz ae ag bv;clear p0 p1 q0 q1;have hP:=Zh1 w12 ⟨a,len,cap⟩ L ah.out.gl kh (x0,x1) r ra rn rc ah.out.fs cp.out true ⟨some ⟨w.heap.size+1,2,none⟩,4,4⟩ [x2,x3,x4,x5] ah.out.gi;rw [hC] at hP;have HP:=hide hP;simp only [Sl.val,Rw.val,btV] at HP;have a0:=ah.out.row.c0;have a1:=ah.out.row.c1;have a2:=ah.out.row.c2;have a3:=ah.out.row.c3;have a4:=ah.out.row.c4;have a5:=ah.out.row.c5;have t0:=ah.out.bt.c0;have t1:=ah.out.bt.c1;clear hP;go_wp2_with fail;refine HP.out.mono ?_;rintro e w13 ⟨af,⟨va,vn,vc⟩,Lv,rfl,ke,kl⟩;have dv:=hide (ah.out.keep af);have bj:=hide (bi.out.below af (Nat.le_refl _));have bh:=hide (bg.out.keep af);have bd:=hide (bl.out.below af (Nat.le_refl _));have bp:=hide (bo.out.below af (Nat.le_refl _));have bu:=hide (bf.out.below af (Nat.le_refl _));have fp:=hide (fo.out.below af (Nat.le_refl _));have eo:=hide (en.out.keep af);clear ah bi bg bl bo bf fo en af a0 a1 a2 a3 a4 a5 t0 t1 HP;have dq:=hide (ke);have ks:=hide kl;clear ke kl;have ai:=hide (Zbo w13 ⟨ca,cn,cc⟩ ⟨va,vn,vc⟩ Lc Lv ce ce bd.out dq.out);simp only [Sl.val,Rw.val,btV] at ai;go_wp2_with fail;refine ai.out.mono ?_;rintro e w14 ⟨⟨bm,rfl,ag⟩,ab⟩;have ak:bm=true:=ag.2 ⟨rfl,iv.out.trans ks.out.symm⟩;subst ak;have ed:=hide (dv.out.keep ab);have cq:=hide (bj.out.below ab (Nat.le_refl _));have ch:=hide (bh.out.keep ab);have cb:=hide (bd.out.below ab (Nat.le_refl _));have db:=hide (bp.out.below ab (Nat.le_refl _));have di:=hide (bu.out.below ab (Nat.le_refl _));have fq:=hide (fp.out.below ab (Nat.le_refl _));have ep:=hide (eo.out.keep ab);have fx:=hide (dq.out.below ab (Nat.le_refl _));clear dv bj bh bd bp bu fp eo dq ab ag ai;have bv:=hide (Zd9 w14 ⟨ca,cn,cc⟩ Lc cb.out);simp only [Sl.val,Rw.val,btV] at bv;go_wp2_with fail;refine bv.out.mono ?_;rintro e w15 ⟨⟨bm,rfl,ag⟩,ay⟩;have ak:bm=true:=ag.2 (by rw [iv.out];have q:=Zlq HM.out cp.out (x0,x1) true [x2,x3,x4,x5];rw [hC] at q;exact q);subst ak;have al:=hide (ed.out.keep ay);have ev:=hide (cq.out.below ay (Nat.le_refl _));have eg:=hide (ch.out.keep ay);have fa:=hide (cb.out.below ay (Nat.le_refl _));have ff:=hide (db.out.below ay (Nat.le_refl _));have fj:=hide (di.out.below ay (Nat.le_refl _));have fr:=hide (fq.out.below ay (Nat.le_refl _));have eq:=hide (ep.out.keep ay);have fy:=hide (fx.out.below ay (Nat.le_refl _));clear ed cq ch cb db di fq ep fx ay ag bv;have hP:=Zh1 w15 ⟨a,len,cap⟩ L al.out.gl kh (x0,x1) r ra rn rc al.out.fs cp.out false Sl.nil [] (Gi.none w15);rw [hD] at hP;unfold Sl.nil at hP;have HP:=hide hP;simp only [Sl.val,Rw.val,btV] at HP;have a0:=al.out.row.c0;have a1:=al.out.row.c1;have a2:=al.out.row.c2;have a3:=al.out.row.c3;have a4:=al.out.row.c4;have a5:=al.out.row.c5;have t0:=al.out.bt.c0;have t1:=al.out.bt.c1;clear hP;go_wp2_with fail;refine HP.out.mono ?_;rintro e w16 ⟨az,⟨ya,yn,yc⟩,Ly,rfl,kf,km⟩;have id:=hide (al.out.keep az);have ew:=hide (ev.out.below az (Nat.le_refl _));have eh:=hide (eg.out.keep az);have fb:=hide (fa.out.below az (Nat.le_refl _));have dd:=hide (ff.out.below az (Nat.le_refl _));have fk:=hide (fj.out.below az (Nat.le_refl _));have ft:=hide (fr.out.below az (Nat.le_refl _));have er:=hide (eq.out.keep az);have fz:=hide (fy.out.below az (Nat.le_refl _));clear al ev eg fa ff fj fr eq fy az a0 a1 a2 a3 a4 a5 t0 t1 HP;have dr:=hide (kf);have kt:=hide km;clear kf km;have ai:=hide (Zbo w16 ⟨da,dn,dc⟩ ⟨ya,yn,yc⟩ Ld Ly de de dd.out dr.out);simp only [Sl.val,Rw.val,btV] at ai;go_wp2_with fail;refine ai.out.mono ?_;rintro e w17 ⟨⟨bm,rfl,ag⟩,av⟩;have ak:bm=true:=ag.2 ⟨rfl,ja.out.trans kt.out.symm⟩;subst ak;have dw:=hide (id.out.keep av);have ex:=hide (ew.out.below av (Nat.le_refl _));have ei:=hide (eh.out.keep av);have fc:=hide (fb.out.below av (Nat.le_refl _));have fg:=hide (dd.out.below av (Nat.le_refl _));have fl:=hide (fk.out.below av (Nat.le_refl _));have fu:=hide (ft.out.below av (Nat.le_refl _));have es:=hide (er.out.keep av);have ga:=hide (fz.out.below av (Nat.le_refl _));have gd:=hide (dr.out.below av (Nat.le_refl _));clear id ew eh fb dd fk ft er fz dr av ag ai;have hP:=ZjU w17 ⟨a,len,cap⟩ L dw.out.gl (x0,x1);rw [hE] at hP;have HP:=hide hP;simp only [Sl.val,Rw.val,btV] at HP;have t0:=dw.out.bt.c0;have t1:=dw.out.bt.c1;clear hP;go_wp2_with fail;refine HP.out.mono ?_;rintro e w18 ⟨aw,⟨za,zn,zc⟩,Lz,rfl,kg,kn⟩;have ie:=hide (dw.out.keep aw);have ey:=hide (ex.out.below aw (Nat.le_refl _));have ej:=hide (ei.out.keep aw);have fd:=hide (fc.out.below aw (Nat.le_refl _));have fh:=hide (fg.out.below aw (Nat.le_refl _));have dj:=hide (fl.out.below aw (Nat.le_refl _));have fv:=hide (fu.out.below aw (Nat.le_refl _));have et:=hide (es.out.keep aw);have gb:=hide (ga.out.below aw (Nat.le_refl _));have ge:=hide (gd.out.below aw (Nat.le_refl _));clear dw ex ei fc fg fl fu es ga gd aw t0 t1 HP;have ds:=hide (kg);have ku:=hide kn;clear kg kn;have ai:=hide (Zbo w18 ⟨ha,hn,hc⟩ ⟨za,zn,zc⟩ Lh Lz ee ee dj.out ds.out);simp only [Sl.val,Rw.val,btV] at ai;go_wp2_with fail;refine ai.out.mono ?_;rintro e w19 ⟨⟨bm,rfl,ag⟩,ap⟩;have ak:bm=true:=ag.2 ⟨rfl,jb.out.trans ku.out.symm⟩;subst ak;have ig:=hide (ie.out.keep ap);have ez:=hide (ey.out.below ap (Nat.le_refl _));have ek:=hide (ej.out.keep ap);have fe:=hide (fd.out.below ap (Nat.le_refl _));have fi:=hide (fh.out.below ap (Nat.le_refl _));have fm:=hide (dj.out.below ap (Nat.le_refl _));have fw:=hide (fv.out.below ap (Nat.le_refl _));have eu:=hide (et.out.keep ap);have gc:=hide (gb.out.below ap (Nat.le_refl _));have gf:=hide (ge.out.below ap (Nat.le_refl _));have gg:=hide (ds.out.below ap (Nat.le_refl _));clear ie ey ej fd fh dj fv et gb ge ds ap ag ai;have ec:=hide (ZcC HH.out w19);go_wp2_with fail;refine ec.out.mono ?_;rintro e w20 ⟨rfl,aq⟩;have jc:=hide (ig.out.keep aq);have jn:=hide (ez.out.below aq (Nat.le_refl _));have jj:=hide (ek.out.keep aq);have jo:=hide (fe.out.below aq (Nat.le_refl _));have jp:=hide (fi.out.below aq (Nat.le_refl _));have jq:=hide (fm.out.below aq (Nat.le_refl _));have jr:=hide (fw.out.below aq (Nat.le_refl _));have jk:=hide (eu.out.keep aq);have js:=hide (gc.out.below aq (Nat.le_refl _));have jt:=hide (gf.out.below aq (Nat.le_refl _));have ju:=hide (gg.out.below aq (Nat.le_refl _));clear ig ez ek fe fi fm fw eu gc gf gg aq ec;go_wp2_with fail;go_ret;exact⟨rfl,jc.out.below⟩
      · have HM:=hide hM;clear hM;have hP:=HH.out.putN W2 ⟨a,len,cap⟩ L r ra rn rc ⟨some ⟨w.heap.size+1,2,none⟩,4,4⟩ [x2,x3,x4,x5] ax.out.gl ax.out.fs cp.out ax.out.gi HM.out;have HP:=hide hP;simp only [Sl.val,Rw.val,btV] at HP;have a0:=ax.out.row.c0;have a1:=ax.out.row.c1;have a2:=ax.out.row.c2;have a3:=ax.out.row.c3;have a4:=ax.out.row.c4;have a5:=ax.out.row.c5;clear hP;go_wp2_with (first | refine Zac _ rfl rfl 26 (.tmp 7) (.tmp 36) rfl (.pointer (some ⟨w1.heap.size,0,none⟩)) (.agg #[.int .i64 x0,.int .i64 x1]) rfl rfl W2 jy.out ?_ | refine Zbc _ rfl 45 (.tmp 5) (some (.const (.int .i64 2))) none none rfl (.slice (some ⟨w.heap.size+1,2,none⟩) 4 4) (jx.out _) ?_);refine HP.out.mono ?_;rintro e w3 ⟨ih,⟨aa,an,ac⟩,La,rfl,ii,im⟩;obtain⟨W4,eb,ea,gu⟩:=Zi7 w3 (0,0);have gs:=hide eb;have dy:=Zad ih gu;have aj:=hide (ax.out.keep dy);clear ax dy a0 a1 a2 a3 a4 a5 HP;have cr:=hide (ii.below gu (Nat.le_refl _));have ci:=hide (ea);have iu:=hide im;clear ih gu eb ea ii im;have hP:=HH.out.setN trivial W4 ⟨a,len,cap⟩ L (x0,x1) r ra rn rc ⟨some ⟨w.heap.size+1,2,none⟩,4,4⟩ [x2,x3,x4,x5] aj.out.gl aj.out.fs cp.out aj.out.gi HM.out;have HP:=hide hP;simp only [Sl.val,Rw.val,btV] at HP;have a0:=aj.out.row.c0;have a1:=aj.out.row.c1;have a2:=aj.out.row.c2;have a3:=aj.out.row.c3;have a4:=aj.out.row.c4;have a5:=aj.out.row.c5;have t0:=aj.out.bt.c0;have t1:=aj.out.bt.c1;clear hP;(try unfold btV);go_wp2_with (first | refine Zac _ rfl rfl 26 (.tmp 10) (.tmp 44) rfl (.pointer (some ⟨w3.heap.size,0,none⟩)) (.agg #[.int .i64 0,.int .i64 0]) rfl rfl W4 gs.out ?_);refine HP.out.mono ?_;rintro e w5 ⟨ef,⟨ca,cn,cc⟩,Lc,rfl,ij,io⟩;have am:=hide (aj.out.keep ef);have cs:=hide (cr.out.below ef (Nat.le_refl _));have cj:=hide (ci.out.keep ef);clear aj cr ci ef a0 a1 a2 a3 a4 a5 t0 t1 HP;have cw:=hide (ij);have iv:=hide io;clear ij io;have hP:=HH.out.layN trivial w5 ⟨a,len,cap⟩ L (x0,x1) r ra rn rc am.out.gl am.out.fs cp.out HM.out;have HP:=hide hP;simp only [Sl.val,Rw.val,btV] at HP;have a0:=am.out.row.c0;have a1:=am.out.row.c1;have a2:=am.out.row.c2;have a3:=am.out.row.c3;have a4:=am.out.row.c4;have a5:=am.out.row.c5;have t0:=am.out.bt.c0;have t1:=am.out.bt.c1;clear hP;go_wp2_with fail;refine HP.out.mono ?_;rintro e w6 ⟨dz,⟨da,dn,dc⟩,Ld,rfl,ik,ip⟩;have dx:=hide (am.out.keep dz);have ct:=hide (cs.out.below dz (Nat.le_refl _));have ck:=hide (cj.out.keep dz);have cx:=hide (cw.out.below dz (Nat.le_refl _));clear am cs cj cw dz a0 a1 a2 a3 a4 a5 t0 t1 HP;have df:=hide (ik);have ja:=hide ip;clear ik ip;have hP:=HH.out.dropN w6 ⟨a,len,cap⟩ L (x0,x1) dx.out.gl HM.out;have HP:=hide hP;simp only [Sl.val,Rw.val,btV] at HP;have t0:=dx.out.bt.c0;have t1:=dx.out.bt.c1;clear hP;go_wp2_with fail;refine HP.out.mono ?_;rintro e w7 ⟨cf,⟨ha,hn,hc⟩,Lh,rfl,il,iq⟩;have gt:=hide (dx.out.keep cf);have cu:=hide (ct.out.below cf (Nat.le_refl _));have cm:=hide (ck.out.keep cf);have cy:=hide (cx.out.below cf (Nat.le_refl _));have dg:=hide (df.out.below cf (Nat.le_refl _));clear dx ct ck cx df cf t0 t1 HP;have dk:=hide (il);have jb:=hide iq;clear il iq;have bv:=hide (Zd9 w7 ⟨a,len,cap⟩ L gt.out.gl);simp only [Sl.val,Rw.val,btV] at bv;go_wp2_with fail;refine bv.out.mono ?_;rintro e w8 ⟨⟨bm,rfl,ag⟩,bw⟩;have ak:bm=false:=by
         cases bm with
         | false=>rfl
         | true=>exact absurd (ag.1 rfl) HM.out
        subst ak;have cd:=hide (gt.out.keep bw);have cv:=hide (cu.out.below bw (Nat.le_refl _));have co:=hide (cm.out.keep bw);have cz:=hide (cy.out.below bw (Nat.le_refl _));have dh:=hide (dg.out.below bw (Nat.le_refl _));have dm:=hide (dk.out.below bw (Nat.le_refl _));clear gt cu cm cy dg dk bw ag bv;have gh:=Zaa w8 (.cells #[] 67);have je:=Zmq w8;obtain⟨W9,ji⟩:∃W9,W9=w8.alloc (.cells #[] 67):=⟨_,rfl⟩;rw [← ji] at gh je;have kv:=hide ji;have jz:=hide (cd.out.keep gh);have gr:=hide (cv.out.below gh (Nat.le_refl _));have gv:=hide (co.out.keep gh);have gy:=hide (cz.out.below gh (Nat.le_refl _));have gz:=hide (dh.out.below gh (Nat.le_refl _));have ia:=hide (dm.out.below gh (Nat.le_refl _));clear cd cv co cz dh dm gh ji;have iy:=hide (je);clear je;have ai:=hide (Zbo W9 ⟨aa,an,ac⟩ ⟨some ⟨w8.heap.size,0,none⟩,0,0⟩ La [] 1 1 gr.out iy.out);simp only [Sl.val,Rw.val,btV] at ai;go_wp2_with fail;rw [← kv.out];refine ai.out.mono ?_;rintro e w10 ⟨⟨bm,rfl,ag⟩,ao⟩;have ak:bm=true:=ag.2 ⟨rfl,iu.out⟩;subst ak;have dt:=hide (jz.out.keep ao);have ba:=hide (gr.out.below ao (Nat.le_refl _));have ar:=hide (gv.out.keep ao);have bc:=hide (gy.out.below ao (Nat.le_refl _));have bn:=hide (gz.out.below ao (Nat.le_refl _));have bq:=hide (ia.out.below ao (Nat.le_refl _));have gn:=hide (iy.out.below ao (Nat.le_refl _));clear jz gr gv gy gz ia iy ao ag ai;have p0:=ar.out.c0;have p1:=ar.out.c1;have ai:=hide (Zbo w10 ⟨ca,cn,cc⟩ ⟨some ⟨w8.heap.size,0,none⟩,0,0⟩ Lc [] 1 1 bc.out gn.out);simp only [Sl.val,Rw.val,btV] at ai;go_wp2_with fail;refine ai.out.mono ?_;rintro e w11 ⟨⟨bm,rfl,ag⟩,ad⟩;have ak:bm=true:=ag.2 ⟨rfl,iv.out⟩;subst ak;have du:=hide (dt.out.keep ad);have bb:=hide (ba.out.below ad (Nat.le_refl _));have au:=hide (ar.out.keep ad);have bk:=hide (bc.out.below ad (Nat.le_refl _));have be:=hide (bn.out.below ad (Nat.le_refl _));have br:=hide (bq.out.below ad (Nat.le_refl _));have gp:=hide (gn.out.below ad (Nat.le_refl _));clear dt ba ar bc bn bq gn ad ag ai p0 p1;have ai:=hide (Zbo w11 ⟨da,dn,dc⟩ ⟨some ⟨w8.heap.size,0,none⟩,0,0⟩ Ld [] 1 1 be.out gp.out);simp only [Sl.val,Rw.val,btV] at ai;go_wp2_with fail;refine ai.out.mono ?_;rintro e w12 ⟨⟨bm,rfl,ag⟩,ae⟩;have ak:bm=true:=ag.2 ⟨rfl,ja.out⟩;subst ak;have ah:=hide (du.out.keep ae);have bi:=hide (bb.out.below ae (Nat.le_refl _));have bg:=hide (au.out.keep ae);have bl:=hide (bk.out.below ae (Nat.le_refl _));have bo:=hide (be.out.below ae (Nat.le_refl _));have bf:=hide (br.out.below ae (Nat.le_refl _));have gq:=hide (gp.out.below ae (Nat.le_refl _));clear du bb au bk be br gp ae ag ai;have ai:=hide (Zbo w12 ⟨ha,hn,hc⟩ ⟨some ⟨w8.heap.size,0,none⟩,0,0⟩ Lh [] 1 1 bf.out gq.out);simp only [Sl.val,Rw.val,btV] at ai;go_wp2_with fail;refine ai.out.mono ?_;rintro e w13 ⟨⟨bm,rfl,ag⟩,af⟩;have ak:bm=true:=ag.2 ⟨rfl,jb.out⟩;subst ak;have dv:=hide (ah.out.keep af);have bj:=hide (bi.out.below af (Nat.le_refl _));have bh:=hide (bg.out.keep af);have bd:=hide (bl.out.below af (Nat.le_refl _));have bp:=hide (bo.out.below af (Nat.le_refl _));have bu:=hide (bf.out.below af (Nat.le_refl _));have gw:=hide (gq.out.below af (Nat.le_refl _));clear ah bi bg bl bo bf gq af ag ai;have ec:=hide (ZcC HH.out w13);go_wp2_with fail;refine ec.out.mono ?_;rintro e w14 ⟨rfl,ab⟩;have ed:=hide (dv.out.keep ab);have cq:=hide (bj.out.below ab (Nat.le_refl _));have ch:=hide (bh.out.keep ab);have cb:=hide (bd.out.below ab (Nat.le_refl _));have db:=hide (bp.out.below ab (Nat.le_refl _));have di:=hide (bu.out.below ab (Nat.le_refl _));have kq:=hide (gw.out.below ab (Nat.le_refl _));clear dv bj bh bd bp bu gw ab ec;go_wp2_with fail;go_ret;exact⟨rfl,ed.out.below⟩
open Go.ChangeShapes Go.WideShapes Go.ChangeAt Go.RowKit
section
variable {H : Type} {enc : TypeId × Value → H} {w : World} {base : Nat} {spare : Nat → Bool} {held : Bool}
theorem Zpk {r:Reach}{b0:Nat}{v:Value}{d:DataW H}{p:List MemPlace}(hv:Value.okWide Tryz.prog w r b0 45 v)(h:DataW.Trod enc Tryz.prog w base spare held 45 v d p) :
    ∃x0 x1 x2 x3 x4 x5:Int,v=.agg #[.int .i64 x0,.int .i64 x1,.int .i64 x2,.int .i64 x3,.int .i64 x4,.int .i64 x5]:=by
  (have hu:Tryz.prog.underlying 45=some (.array 6 3):=by kernel_rfl);(have hC:Tryz.prog.cellsOf 45=6:=by kernel_rfl);(have h1:Tryz.prog.cellsOf 3=1:=by kernel_rfl);simp only [Value.okWide,hu] at hv;obtain⟨cs,rfl,ac,_⟩:=hv;rw [hC] at ac;obtain⟨l⟩:=cs
  match l,ac with
  | [c0,c1,c2,c3,c4,c5],_ =>
   obtain⟨fuel,hf⟩:=h;obtain⟨xs,m,_,_,_,ab,aa⟩:=DataW.trod_array hu hf
   match xs,ab with
   | [y0,y1,y2,y3,y4,y5],_ =>
    (have t0:DataW.trod enc Tryz.prog w base spare held m 3 [c0]=some y0:=by simpa [Value.cells,h1] using aa 0 (by omega));obtain⟨k0,e0,_,w0⟩:=DataW.trod_int Tryz.underlying3 t0;(have t1:DataW.trod enc Tryz.prog w base spare held m 3 [c1]=some y1:=by simpa [Value.cells,h1] using aa 1 (by omega));obtain⟨k1,e1,_,w1⟩:=DataW.trod_int Tryz.underlying3 t1;(have t2:DataW.trod enc Tryz.prog w base spare held m 3 [c2]=some y2:=by simpa [Value.cells,h1] using aa 2 (by omega));obtain⟨k2,e2,_,w2⟩:=DataW.trod_int Tryz.underlying3 t2;(have t3:DataW.trod enc Tryz.prog w base spare held m 3 [c3]=some y3:=by simpa [Value.cells,h1] using aa 3 (by omega));obtain⟨k3,e3,_,w3⟩:=DataW.trod_int Tryz.underlying3 t3;(have t4:DataW.trod enc Tryz.prog w base spare held m 3 [c4]=some y4:=by simpa [Value.cells,h1] using aa 4 (by omega));obtain⟨k4,e4,_,w4⟩:=DataW.trod_int Tryz.underlying3 t4;(have t5:DataW.trod enc Tryz.prog w base spare held m 3 [c5]=some y5:=by simpa [Value.cells,h1] using aa 5 (by omega));obtain⟨k5,e5,_,w5⟩:=DataW.trod_int Tryz.underlying3 t5;simp only [List.cons.injEq,and_true] at e0 e1 e2 e3 e4 e5;subst e0 e1 e2 e3 e4 e5;exact⟨k0,k1,k2,k3,k4,k5,rfl⟩
end
theorem Zm1 (w:World)(x:Sl)(hx:x.len≤1000000):Calls Tryz.prog 92 #[x.val] w fun e w'=>e=.returned (.bool (decide (x.len=0)))∧w'=w:=by
 obtain⟨a,n,c⟩:=x;unfold Sl.val;simp only;by_cases h:n=0
 · subst h;go_enter Tryz.func92,Tryz.ntmps92;go_wp2_with fail;go_ret;exact⟨rfl,rfl⟩
 · (have i1:¬(n:Int)=0:=by omega);(have i2:((n:Int) == 0)=false:=by simp [h]);rw [decide_eq_false h];go_enter Tryz.func92,Tryz.ntmps92;go_wp2_with fail;go_ret;exact⟨by simp,rfl⟩
theorem ZkQ {D:Nat→Prop}(w:World)(v:Sl)(l:List Sb)(h:Gb D w v l) :
    Calls Tryz.prog 99 #[v.val,.func (.func 92) #[] #[]] w fun e w'=>e=.returned (.int .i64 (ixE (bss l)))∧w'=w:=by
  obtain⟨a,len,cap⟩:=v
  have HG:=hide h
  have HL:Hid ((bss l).length=len):=by show _=_;rw [Zag];exact h.len
  have hbig:len≤1000:=h.big
  clear h
  unfold Sl.val
  simp only
  go_enter Tryz.func99,Tryz.ntmps99
  go_wp2_with fail
  go_loopw [8] (fun iv wr=>wr=w∧∃i:Nat,i≤len∧iv=.int .i64 (i:Nat)∧Hid (∀j,j<i→(sl (bss l) j).length≠0)) (fun iv _=>len-(intOf iv).toNat)
  case atStart=>exact ⟨rfl,0,Nat.zero_le _,rfl,fun _ h=>absurd h (Nat.not_lt_zero _)⟩
  case round =>
   obtain⟨rfl,i,hi,rfl,hix⟩:=hrel
   rcases Nat.lt_or_ge i len with hlt | hge
   · have i1:(i:Int)<(len:Int):=by omega
     obtain⟨bb,oo,ha,c0⟩:=HG.out.cell i hlt
     replace ha:a=some ⟨bb,oo,none⟩:=ha
     subst ha
     obtain⟨_,hsl,h1000⟩:=HG.out.at hlt
     obtain⟨⟨sa,sn,sc⟩,hsb⟩:∃s,s=(l.getD i Sb.zero).s:=⟨_,rfl⟩
     rw [← hsb] at c0 hsl
     have HCL:=hide (Zm1 wr ⟨sa,sn,sc⟩ (by show sn≤_;have:sn=_:=hsl;omega))
     unfold Sl.val at c0 HCL
     simp only at c0 hsl HCL
     have HS:=hide hsl
     clear hsb hsl h1000
     by_cases h0:sn=0
     · rw [decide_eq_true h0] at HCL
       have HE:Hid (ixE (bss l)=(i:Int)):=by
        have e:=Zfm (s:=bss l) (n:=i) hix.out (.inr ⟨by rw [HL.out];exact hlt,by rw [← HS.out];exact h0⟩)
        show _=_
        unfold ixE
        rw [e,if_neg (by rw [HL.out];omega)]
       clear hix HS h0
       go_wp2_with fail
       refine HCL.out.mono ?_
       rintro e w1 ⟨rfl,hw⟩
       obtain rfl:=hw.symm
       go_wp2_with fail
       go_ret
       exact⟨by rw [HE.out];rfl,rfl⟩
     · rw [decide_eq_false h0] at HCL
       have HE:Hid (∀j,j<i+1→(sl (bss l) j).length≠0):=by
        intro j hj
        by_cases e:j=i
        · rw [e,← HS.out];exact h0
        · exact hix.out j (by omega)
       clear hix HS h0
       go_wp2_with fail
       refine HCL.out.mono ?_
       rintro e w1 ⟨rfl,hw⟩
       obtain rfl:=hw.symm
       go_wp2_with fail
       go_roundw
       case rel=>exact ⟨trivial,i+1,by omega,by go_num,HE⟩
       case measure=>simp only [intOf];omega
   · have i1:¬(i:Int)<(len:Int):=by omega
     have HE:Hid (ixE (bss l) = -1):=by
      have e:=Zfm (s:=bss l) (n:=(bss l).length) (fun j hj=>hix.out j (by rw [HL.out] at hj;omega)) (.inl rfl)
      show _=_
      unfold ixE
      rw [if_pos e]
     clear hix
     go_wp2_with fail
     go_ret
     exact⟨by rw [HE.out];rfl,rfl⟩
theorem Zm3 (w:World)(x:Nat):Calls Tryz.prog 141 #[.int .u8 (x:Int)] w fun e w'=>e=.returned (.bool (!(x == 0)))∧w'=w:=by
 by_cases h:x=0
 · subst h;go_enter Tryz.func141,Tryz.ntmps141;go_wp2_with fail;go_ret;exact⟨rfl,rfl⟩
 · (have i1:¬(x:Int)=0:=by omega);(have i2:(x == 0)=false:=by simp [h]);rw [i2];go_enter Tryz.func141,Tryz.ntmps141;go_wp2_with fail;go_ret;exact⟨by simp [h],rfl⟩
theorem ZkR (w:World)(a:Option Addr)(len cap:Nat)(xs:List Nat)(h:Bs w a len xs)(ad:len≤1000000) :
    Calls Tryz.prog 158 #[.slice a len cap,.func (.func 141) #[] #[]] w fun e w'=>(∃z,e=.returned (.int .i64 z)∧decide (0≤z) = !(nul xs))∧w'=w:=by
  have HG:=hide h;have HL:=hide h.1;clear h;go_enter Tryz.func158,Tryz.ntmps158;go_wp2_with fail;go_loopw [8] (fun iv wr=>wr=w∧∃i:Nat,i≤len∧iv=.int .i64 (i:Nat)∧Hid (∀j,j<i→xs.getD j 0=0)) (fun iv _=>len-(intOf iv).toNat)
  case atStart=>exact ⟨rfl,0,Nat.zero_le _,rfl,fun _ h=>absurd h (Nat.not_lt_zero _)⟩
  case round =>
   obtain⟨rfl,i,hi,rfl,aa⟩:=hrel;rcases Nat.lt_or_ge i len with ac | ae
   · (have i1:(i:Int)<(len:Int):=by omega);obtain⟨bb,oo,ha,c0⟩:=HG.out.2.2 i ac;subst ha;obtain⟨x,hx⟩:∃x,x=xs.getD i 0:=⟨_,rfl⟩;rw [← hx] at c0;have HX:=hide hx;have ab:=hide (Zm3 wr x);clear hx;by_cases h0:x=0
     · rw [h0] at ab c0;have HE:Hid (∀j,j<i+1→xs.getD j 0=0):=by
        intro j hj;by_cases e:j=i
        · rw [e,← HX.out];exact h0
        · exact aa.out j (by omega)
       clear aa HX h0;go_wp2_with fail;refine ab.out.mono ?_;rintro e w1 ⟨rfl,hw⟩;obtain rfl:=hw.symm;go_wp2_with fail;go_roundw
       case rel=>exact ⟨trivial,i+1,by omega,by go_num,HE⟩
       case measure=>simp only [intOf];omega
     · (have hb:(!(x == 0))=true:=by simp [h0]);rw [hb] at ab;have HE:Hid (decide (0≤(i:Int)) = !(nul xs)):=by
        show _=_;rw [ZoU (i:=i) (by rw [HL.out];exact ac) (by rw [← HX.out];exact h0)];simp
       clear aa HX h0 hb;go_wp2_with fail;refine ab.out.mono ?_;rintro e w1 ⟨rfl,hw⟩;obtain rfl:=hw.symm;go_wp2_with fail;go_ret;exact⟨⟨_,rfl,HE.out⟩,rfl⟩
   · (have i1:¬(i:Int)<(len:Int):=by omega);have HE:Hid (decide (0≤(-1:Int)) = !(nul xs)):=by
      show _=_;rw [ZnX (fun j hj=>aa.out j (by rw [HL.out] at hj;omega))];rfl
     clear aa;go_wp2_with fail;go_ret;exact⟨⟨_,rfl,HE.out⟩,rfl⟩
theorem Zjr {D:Nat→Prop}(w:World)(v:Sl)(l:List Sb)(h:Gb D w v l) :
    Calls Tryz.prog 91 #[v.val,.func (.func 92) #[] #[]] w fun e w'=>e=.returned (.bool (decide (0≤ixE (bss l))))∧w'=w:=by
  have HX:=hide (ZkQ w v l h);clear h;generalize ixE (bss l)=z at *;unfold Sl.val at *;by_cases hz:0≤z
  · rw [decide_eq_true hz];go_enter Tryz.func91,Tryz.ntmps91;go_wp2_with fail;refine HX.out.mono ?_;rintro e w1 ⟨rfl,hw⟩;obtain rfl:=hw.symm;go_wp2_with fail;go_ret;exact⟨by simp,rfl⟩
  · rw [decide_eq_false hz];go_enter Tryz.func91,Tryz.ntmps91;go_wp2_with fail;refine HX.out.mono ?_;rintro e w1 ⟨rfl,hw⟩;obtain rfl:=hw.symm;go_wp2_with fail;go_ret;exact⟨by simp [hz],rfl⟩
theorem Zjs (w:World)(a:Option Addr)(len cap:Nat)(xs:List Nat)(h:Bs w a len xs)(aa:len≤1000000) :
    Calls Tryz.prog 140 #[.slice a len cap,.func (.func 141) #[] #[]] w fun e w'=>e=.returned (.bool (!(nul xs)))∧w'=w:=by
  have HX:=hide (ZkR w a len cap xs h aa);clear h;generalize nul xs=n at *;go_enter Tryz.func140,Tryz.ntmps140;go_wp2_with fail;refine HX.out.mono ?_;rintro e w1 ⟨⟨z,rfl,hz⟩,hw⟩;obtain rfl:=hw.symm;have HZ:=hide hz;clear HX hz;go_wp2_with fail;go_ret;exact⟨by rw [← HZ.out];rfl,rfl⟩
def Zoz (f:Lf) (e:Ending):Prop:=(MayL f∧e=.returned (.bool false))∨(¬MayL f∧e=.returned (.bool true))
theorem ZjL {D:Nat→Prop}(w:World)(u v:Sl)(t:List Int)(l:List Sb)(hi:Gi D w u t)(hg:Gb D w v l) :
    Calls Tryz.prog 70 #[lfV u v] w fun e w'=>Zoz ⟨t,bss l⟩ e∧Below w.heap.size w w':=by
  have hA:=Zaa w (.cells #[u.val,v.val] 67);have hk:=Zaj w u.val v.val;have c0:=hk.c0;have c1:=hk.c1;have HC:=hide (ZdQ _ u v t l (hi.below hA (Nat.le_refl _)) (hg.below hA (Nat.le_refl _)));have HA:=hide hA;clear hi hg hA hk;obtain⟨a,len,cap⟩:=v;obtain⟨ua,ul,uc⟩:=u;unfold lfV Sl.val at *;simp only at *;go_enter Tryz.func70,Tryz.ntmps70;go_wp2_with fail;refine HC.out.mono ?_;rintro e w1 ⟨aa,hb⟩;have HB:=hide (Zad HA.out hb);clear hb HC HA;rcases aa with ⟨hm,rfl⟩ | ⟨hm,rfl⟩
  · have HM:=hide hm;clear hm;go_wp2_with fail;go_ret;exact⟨.inl ⟨HM.out,rfl⟩,HB.out⟩
  · have HM:=hide hm;clear hm;go_wp2_with fail;go_ret;exact⟨.inr ⟨HM.out,rfl⟩,HB.out⟩
def IxNl (l:List Lf) (e:Ending):Prop:=((∀f∈l,MayL f)∧e=.returned (.int .i64 (-1)))∨((¬ ∀f∈l,MayL f)∧∃i:Nat,e=.returned (.int .i64 (i:Nat)))
theorem ZkS (w:World)(s:Sl)(L:List Lb)(h:Gl (fun _=>True) w s L) :
    Calls Tryz.prog 47 #[s.val,.func (.func 70) #[] #[]] w fun e w'=>IxNl (lfs L) e∧Below w.heap.size w w':=by
  obtain⟨a,len,cap⟩:=s;have HE:=hide h;have hl:L.length=len:=h.len;have al:len≤900:=h.big;have H0:=hide (Below.refl w.heap.size w);clear h;have HL:=hide hl;clear hl;unfold Sl.val;simp only;go_enter Tryz.func47,Tryz.ntmps47;go_wp2_with fail;go_loopw [8] (fun iv wr=>∃i:Nat,i≤len∧iv=.int .i64 (i:Nat)∧Hid (∀j,j<i→MayL (lf (lfs L) j))∧Hid (Below w.heap.size w wr)) (fun iv _=>len-(intOf iv).toNat)
  case atStart=>exact ⟨0,Nat.zero_le _,rfl,fun j hj=>absurd hj (Nat.not_lt_zero _),H0⟩
  case round =>
   obtain⟨i,hi,rfl,aa,ae⟩:=hrel;rcases Nat.lt_or_ge i len with ak | an
   · (have i1:(i:Int)<(len:Int):=by omega);have hr:=HE.out.below ae.out (Nat.le_refl _);have ab:i<(Sl.mk a len cap).len:=ak;obtain⟨b1,off,ha,c0,c1⟩:=hr.cell i ab;replace ha:a=some ⟨b1,off,none⟩:=ha;subst ha;have ad:=hr.at ab;have af:=Zbt L i;obtain⟨x,hx⟩:∃x,x=L.getD i Lb.zero:=⟨_,rfl⟩;rw [← hx] at c0 c1 ad af;have ah:=hide (ZjL wr x.u x.v x.t x.l ad.1 ad.2);have ai:=hide (Za5 (b:=b1) (o:=off+i*2) c0 c1);have ac:Hid (lf (lfs L) i=⟨x.t,bss x.l⟩):=af;clear c0 c1 ad hr hx af;go_wp2_with (refine Zau _ rfl 67 (.tmp 14) rfl (.pointer (some ⟨b1,off+i*2,none⟩)) (lfV x.u x.v) rfl ai.out ?_);refine ah.out.mono ?_;rintro e w1 ⟨am,aj⟩;have ag:=hide (Zad ae.out aj);clear aj ah ai;rcases am with ⟨hm,rfl⟩ | ⟨hm,rfl⟩
     · have HN:Hid (∀j,j<i+1→MayL (lf (lfs L) j)):=by
        intro j hj;by_cases e:j=i
        · rw [e,ac.out];exact hm
        · exact aa.out j (by omega)
       clear hm aa ac;go_wp2_with fail;go_roundw
       case rel=>exact ⟨i+1,by omega,by go_num,HN,ag⟩
       case measure=>simp only [intOf];omega
     · have HF:Hid (¬ ∀f∈lfs L,MayL f):=fun hh=>hm (by rw [← ac.out];exact hh _ (Zbe (by rw [Za4,HL.out];exact ak)));clear hm aa ac;go_wp2_with fail;go_ret;exact⟨.inr ⟨HF.out,i,rfl⟩,ag.out⟩
   · (have i1:¬(i:Int)<(len:Int):=by omega);have HF:Hid (∀f∈lfs L,MayL f):=by
      intro f hf;obtain⟨j,hj,rfl⟩:=List.getElem_of_mem hf;have:=aa.out j (by rw [Za4,HL.out] at hj;omega);rwa [Zc1 hj] at this
     clear aa;go_wp2_with fail;go_ret;exact⟨.inl ⟨HF.out,rfl⟩,ae.out⟩
theorem Zjt (w:World)(s:Sl)(L:List Lb)(h:Gl (fun _=>True) w s L) :
    Calls Tryz.prog 69 #[s.val,.func (.func 70) #[] #[]] w fun e w'=>(((∀f∈lfs L,MayL f)∧e=.returned (.bool false))∨((¬ ∀f∈lfs L,MayL f)∧e=.returned (.bool true)))∧Below w.heap.size w w':=by
  have HX:=hide (ZkS w s L h);clear h;unfold Sl.val at *;go_enter Tryz.func69,Tryz.ntmps69;go_wp2_with fail;refine HX.out.mono ?_;rintro e w1 ⟨hx,hb⟩;have HB:=hide hb;clear hb HX;rcases hx with ⟨hm,rfl⟩ | ⟨hm,i,rfl⟩
  · have HM:=hide hm;clear hm;go_wp2_with fail;go_ret;exact⟨.inl ⟨HM.out,rfl⟩,HB.out⟩
  · have HM:=hide hm;(have aa:(0:Int)≤(i:Int):=by omega);clear hm;go_wp2_with fail;go_ret;exact⟨.inr ⟨HM.out,rfl⟩,HB.out⟩
theorem ZmN {f:Lf}(hm:MayL f)(af:∀x∈f.slots,x ≠ []→x.length=52){y:List Nat}(hy:y.length=52) :
    (insA f.slots y).e=0↔if 0≤ixE f.slots then need f.slots+52≤508 else need f.slots+52<508:=by
  unfold insA;rw [if_neg (by omega)];rcases Zcs f.slots with ⟨he,ab⟩ | ⟨he,hz,ag⟩
  · (have hx:ixE f.slots = -1:=by unfold ixE;rw [if_pos he]);rw [hx,if_neg (show ¬(0:Int) ≤ -1 by decide)];(have aa:insS f.slots y=f.slots ++ [y]:=by unfold insS;rw [if_pos he]);(have hn:need (f.slots ++ [y])=need f.slots+53:=by unfold need;rw [ZfE,hy];omega);have ac:needS f.slots=53*f.slots.length:=by
     have h:∀(s:List (List Nat)),(∀x∈s,x.length=52)→needS s=53*s.length:=by
      intro s
      induction s with
      | nil=>intro _;rfl
      | cons x t ih =>
       intro hh;have h1:=hh x List.mem_cons_self;have h2:=ih (fun z hz=>hh z (List.mem_cons_of_mem _ hz));simp only [needS,List.length_cons,h1,h2];omega
     refine h _ (fun x hx=>af x hx ?_);obtain⟨i,hi,rfl⟩:=List.getElem_of_mem hx;have:=ab i hi;rw [Zcq hi] at this;intro e;rw [e] at this;exact this rfl
    have ae:=hm.need;have hd:need f.slots=18+needS f.slots:=rfl;rw [aa,hn];simp only [List.length_append,List.length_cons,List.length_nil];by_cases hr:508<need f.slots+53
    · rw [if_pos (.inr hr)];constructor
      · intro h;exact absurd h (show ¬(7:Int)=0 by decide)
      · intro h;omega
    · rw [if_neg (by omega)];constructor
      · intro _;omega
      · intro _;rfl
  · (have hx:ixE f.slots=((atE f.slots:Nat):Int):=by unfold ixE;rw [if_neg (by omega)]);rw [hx,if_pos (show (0:Int)≤((atE f.slots:Nat):Int) by omega)];(have aa:insS f.slots y=f.slots.set (atE f.slots) y:=by unfold insS;rw [if_neg (by omega)]);have ad:=Zd4 f.slots (atE f.slots) y he;rw [hz,hy] at ad;(have hn:need (f.slots.set (atE f.slots) y)=need f.slots+52:=by unfold need;omega);have ac:=hm.slots.1;rw [aa,hn,List.length_set];by_cases hr:508<need f.slots+52
    · rw [if_pos (.inr hr)];constructor
      · intro h;exact absurd h (show ¬(7:Int)=0 by decide)
      · intro h;omega
    · rw [if_neg (by omega)];constructor
      · intro _;omega
      · intro _;rfl
theorem ZhQ {D:Nat→Prop}(w:World)(u v:Sl)(t:List Int)(l:List Sb)(hi:Gi D w u t)(hg:Gb D w v l)(hm:MayL ⟨t,bss l⟩)(ad:∀x∈bss l,x ≠ []→x.length=52)(y:List Nat)(hy:y.length=52) :
    Calls Tryz.prog 48 #[lfV u v] w fun e w'=>e=.returned (.bool (decide ((insA (bss l) y).e=0)))∧Below w.heap.size w w':=by
  have ae:=ZmN hm ad hy;have hA:=Zaa w (.cells #[u.val,v.val] 67);have hk:=Zaj w u.val v.val;have c0:=hk.c0;have c1:=hk.c1;have HE:=hide (Zjr _ v l (hg.below hA (Nat.le_refl _)));have HR:=hide (ZmO _ u v t l (hi.below hA (Nat.le_refl _)) (hg.below hA (Nat.le_refl _)) hm);have HA:=hide hA;have af:need (bss l)≤508:=hm.need;obtain⟨n,hn⟩:∃n,n=need (bss l):=⟨_,rfl⟩;have aa:(insA (bss l) y).e=0↔if 0≤ixE (bss l) then need (bss l)+52≤508 else need (bss l)+52<508:=ae;rw [← hn] at aa af HR;obtain⟨r,hr⟩:∃r:Bool,r=decide ((insA (bss l) y).e=0):=⟨_,rfl⟩;rw [← hr];have ab:Hid ((0≤ixE (bss l)→r=decide (n+52≤508))∧(¬0≤ixE (bss l)→r=decide (n+52<508))):=by
   refine⟨fun h=>?_,fun h=>?_⟩
   · rw [if_pos h] at aa;rw [hr];exact decide_eq_decide.2 aa
   · rw [if_neg h] at aa;rw [hr];exact decide_eq_decide.2 aa
  clear hi hg hA hk ae aa hn hr hm ad;obtain⟨a,len,cap⟩:=v;obtain⟨ua,ul,uc⟩:=u;unfold lfV Sl.val at *;simp only at *;generalize ixE (bss l)=z at *;by_cases hz:0≤z
  · rw [decide_eq_true hz] at HE;have ac:=hide (ab.out.1 hz);clear ab hz;go_enter Tryz.func48,Tryz.ntmps48;go_wp2_with fail;refine HE.out.mono ?_;rintro e w1 ⟨rfl,hw⟩;obtain rfl:=hw.symm;go_wp2_with fail;refine HR.out.mono ?_;rintro e w2 ⟨rfl,hb⟩;have HB:=hide (Zad HA.out hb);clear hb;go_wp2_with fail;go_ret;refine⟨?_,HB.out⟩;rw [ac.out];refine congrArg (fun b=>Ending.returned (Value.bool b)) (?_:decide ((52:Int)≤508-(n:Int))=_);exact decide_eq_decide.2 (by omega)
  · rw [decide_eq_false hz] at HE;have ac:=hide (ab.out.2 hz);clear ab hz;go_enter Tryz.func48,Tryz.ntmps48;go_wp2_with fail;refine HE.out.mono ?_;rintro e w1 ⟨rfl,hw⟩;obtain rfl:=hw.symm;go_wp2_with fail;refine HR.out.mono ?_;rintro e w2 ⟨rfl,hb⟩;have HB:=hide (Zad HA.out hb);clear hb;go_wp2_with fail;go_ret;refine⟨?_,HB.out⟩;rw [ac.out];refine congrArg (fun b=>Ending.returned (Value.bool b)) (?_:decide ((52:Int)<508-(n:Int))=_);exact decide_eq_decide.2 (by omega)
def rmI:Option Nat→Int
  | none=>-1
  | some i=>i
theorem ZkT (w:World)(s:Sl)(L:List Lb)(h:Gl (fun _=>True) w s L)(hm:MayH (lfs L))(y:List Nat)(hy:y.length=52) :
    Calls Tryz.prog 47 #[s.val,.func (.func 48) #[] #[]] w fun e w'=>e=.returned (.int .i64 (rmI (roomH y (lfs L) 0)))∧Below w.heap.size w w':=by
  obtain⟨a,len,cap⟩:=s;have HE:=hide h;have hl:L.length=len:=h.len;have am:len≤900:=h.big;have H0:=hide (Below.refl w.heap.size w);clear h;have HL:=hide hl;have HM:Hid (∀f∈lfs L,MayL f∧∀x∈f.slots,x ≠ []→x.length=52):=fun f hf=>⟨hm.leaf f hf,fun x hx hn=>by
   cases hd:decH x with
   | none=>exact absurd hd (hm.rows f hf x hx hn)
   | some r=>exact (ZbI hd).1⟩
  clear hl hm;obtain⟨R,hR⟩:∃R,R=rmI (roomH y (lfs L) 0):=⟨_,rfl⟩;rw [← hR];have HR:=hide hR;clear hR;unfold Sl.val;simp only;go_enter Tryz.func47,Tryz.ntmps47;go_wp2_with fail;go_loopw [8] (fun iv wr=>∃i:Nat,i≤len∧iv=.int .i64 (i:Nat)∧Hid (∀j,j<i→(insA (lf (lfs L) j).slots y).e≠0)∧Hid (Below w.heap.size w wr)) (fun iv _=>len-(intOf iv).toNat)
  case atStart=>exact ⟨0,Nat.zero_le _,rfl,fun j hj=>absurd hj (Nat.not_lt_zero _),H0⟩
  case round =>
   obtain⟨i,hi,rfl,ab,ag⟩:=hrel;rcases Nat.lt_or_ge i len with al | an
   · (have i1:(i:Int)<(len:Int):=by omega);have hr:=HE.out.below ag.out (Nat.le_refl _);have ae:i<(Sl.mk a len cap).len:=al;obtain⟨b1,off,ha,c0,c1⟩:=hr.cell i ae;replace ha:a=some ⟨b1,off,none⟩:=ha;subst ha;have ah:=hr.at ae;have ak:=Zbt L i;obtain⟨x,hx⟩:∃x,x=L.getD i Lb.zero:=⟨_,rfl⟩;rw [← hx] at c0 c1 ah ak;have ac:Hid (lf (lfs L) i=⟨x.t,bss x.l⟩):=ak;have ai:=HM.out _ (Zbe (l:=lfs L) (i:=i) (by rw [Za4,HL.out];exact al));rw [ac.out] at ai;have aa:=hide (ZhQ wr x.u x.v x.t x.l ah.1 ah.2 ai.1 ai.2 y hy);have af:=hide (Za5 (b:=b1) (o:=off+i*2) c0 c1);clear c0 c1 ah hr hx ak ai;cases hon:decide ((insA (bss x.l) y).e=0) with
     | true =>
      rw [hon] at aa;have HF:Hid (R=(i:Int)):=by
       show _=_;rw [HR.out,Zjb (l:=lfs L) (j:=i) (by rw [Za4,HL.out];exact al) (by rw [ac.out];exact of_decide_eq_true hon) (fun k hk=>ab.out k hk)];rfl
      clear ab ac hon;go_wp2_with (refine Zau _ rfl 67 (.tmp 14) rfl (.pointer (some ⟨b1,off+i*2,none⟩)) (lfV x.u x.v) rfl af.out ?_);refine aa.out.mono ?_;rintro e w1 ⟨rfl,ad⟩;have aj:=hide (Zad ag.out ad);clear ad aa af;go_wp2_with fail;go_ret;exact⟨by rw [HF.out];rfl,aj.out⟩
     | false =>
      rw [hon] at aa;have HN:Hid (∀j,j<i+1→(insA (lf (lfs L) j).slots y).e≠0):=by
       intro j hj;by_cases e:j=i
       · rw [e,ac.out];exact of_decide_eq_false hon
       · exact ab.out j (by omega)
      clear ab ac hon;go_wp2_with (refine Zau _ rfl 67 (.tmp 14) rfl (.pointer (some ⟨b1,off+i*2,none⟩)) (lfV x.u x.v) rfl af.out ?_);refine aa.out.mono ?_;rintro e w1 ⟨rfl,ad⟩;have aj:=hide (Zad ag.out ad);clear ad aa af;go_wp2_with fail;go_roundw
      case rel=>exact ⟨i+1,by omega,by go_num,HN,aj⟩
      case measure=>simp only [intOf];omega
   · (have i1:¬(i:Int)<(len:Int):=by omega);have HF:Hid (R = -1):=by
      show _=_;rw [HR.out,ZbO.2 (fun k hk=>ab.out k (by rw [Za4,HL.out] at hk;omega))];rfl
     clear ab;go_wp2_with fail;go_ret;exact⟨by rw [HF.out];rfl,ag.out⟩
end Go.Proofs.YtdojdcncncgncaaGreat
