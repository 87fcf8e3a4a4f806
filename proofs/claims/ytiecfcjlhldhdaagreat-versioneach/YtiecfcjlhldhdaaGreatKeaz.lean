/-
  Lemmas.
-/
import Derived.Test.YtiecfcjlhldhdaaGreatKeay
namespace Go.Proofs.YtiecfcjlhldhdaaGreat
open Go.RowKit
set_option linter.unusedVariables false
set_option linter.unusedSimpArgs false
set_option maxRecDepth 100000
set_option maxHeartbeats 4000000
variable {l:List Lf}{r:Rw}{live:List Int}
def ZbK (D:Nat→Prop) (w:World) (P:Ph) (e:Ending) (w':World):Prop:=Below w.heap.size w w'∧∃(s':Sl) (L':List Lb),e=.returned (.tuple #[.slice s'.a s'.len s'.cap,btV P.b,.int .i64 P.e])∧Gl (Old D w) w' s' L'∧lfs L'=P.l
theorem ZbK.same {D:Nat→Prop}{w w':World}{s:Sl}{L:List Lb}(h:Gl D w s L)(hb:Below w.heap.size w w')(c:Int):ZbK D w ⟨lfs L,(0,0),c⟩ (.returned (.tuple #[.slice s.a s.len s.cap,btV (0,0),.int .i64 c])) w':=
 ⟨hb,s,L,rfl,(h.below hb (Nat.le_refl _)).wide (fun _ hk=>.inl hk),rfl⟩
theorem Zgw (h:r.may=false∨r.wr=0∨(findH l r.key).isSome=true):putH l r live=⟨l,(0,0),1⟩:=by unfold putH;rw [if_pos h]
theorem Zmq (h:¬(r.may=false∨r.wr=0∨(findH l r.key).isSome=true))(hr:ZbY (hpB r) l 0=none):putH l r live=⟨l,(0,0),7⟩:=by unfold putH;rw [if_neg h,hr]
theorem ZnU (h:¬(r.may=false∨r.wr=0∨(findH l r.key).isSome=true)){i:Nat}(hr:ZbY (hpB r) l 0=some i)(hj:(joinI (lf l i).itl r.wr live).e≠0):putH l r live=⟨l,(0,0),(joinI (lf l i).itl r.wr live).e⟩:=by
 unfold putH;rw [if_neg h,hr];simp only [if_neg hj]
theorem Zp0 (h:¬(r.may=false∨r.wr=0∨(findH l r.key).isSome=true)){i:Nat}(hr:ZbY (hpB r) l 0=some i)(hj:(joinI (lf l i).itl r.wr live).e=0):putH l r live=⟨l.set i (putL (lf l i) r live),((i:Int),(insA (lf l i).slots (hpB r)).at_),0⟩:=by
 unfold putH;rw [if_neg h,hr];simp only [if_pos hj]
theorem Zbc {fn:Func}{x y z:Nat}(hr:fn.results=#[.tmp x,.cell y 67,.tmp z]){W:World}{q:Nat}{b:Bt}(hq:BtBlk W q b)(tmps:Array Value)(u v:Value)(tx:tmps.getD x undef=u)(ty:tmps.getD y undef=.pointer (some ⟨q,0,none⟩))(tz:tmps.getD z undef=v) :
    (results fn tmps).run Tryz.prog W=.ok (.tuple #[u,btV b,v]) W:=by
  have d0:=hq.c0;have d1:=hq.c1;(have tx2:tmps[x]?.getD undef=u:=by simpa using tx);(have ty2:tmps[y]?.getD undef=.pointer (some ⟨q,0,none⟩):=by simpa using ty);(have tz2:tmps[z]?.getD undef=v:=by simpa using tz);simp [results,hr,tx2,ty2,tz2,go_sem,d0,d1,btV]
theorem Zm9 {D:Nat→Prop}(w:World)(s:Sl)(L:List Lb)(h:Gl D w s L)(hmay:∀f∈lfs L,MayL f)(r:Rw)(ra:Option Addr)(rn rc:Nat)(hr:Fs w ra rn rc r.xs)(hrf:r.fits)(lv:Sl)(live:List Int)(hlv:Gi D w lv live) :
    Calls Tryz.prog 28 #[s.val,r.val (.slice ra rn rc),lv.val] w (ZbK D w (putH (lfs L) r live)):=by
  have hsf:∀(w:World) (a:Addr) (m:Mode) (x:Nat),(store a (.float .f64 x) m).run Tryz.prog w=stored Tryz.prog w a (.float .f64 x) m:=fun w a m x=>run_store Tryz.prog w a _ m rfl
  obtain⟨X,hX⟩:∃X,X=putH (lfs L) r live:=⟨_,rfl⟩
  rw [← hX]
  have HXE:=hide hX
  clear hX
  have hA1:=Zaa w (.cells #[.float .f64 r.key,.bool r.dead,.slice ra rn rc,.int .i64 r.wr,.int .i64 r.cell,.int .i64 r.no] 39)
  have hA2:=Zaa (w.alloc (.cells #[.float .f64 r.key,.bool r.dead,.slice ra rn rc,.int .i64 r.wr,.int .i64 r.cell,.int .i64 r.no] 39)) (.cells #[.int .i64 0,.int .i64 0] 67)
  have hR:RwBlk ((w.alloc (.cells #[.float .f64 r.key,.bool r.dead,.slice ra rn rc,.int .i64 r.wr,.int .i64 r.cell,.int .i64 r.no] 39)).alloc (.cells #[.int .i64 0,.int .i64 0] 67)) w.heap.size r (.slice ra rn rc):=(Zai w r (.slice ra rn rc)).keep hA2
  have hQ:BtBlk ((w.alloc (.cells #[.float .f64 r.key,.bool r.dead,.slice ra rn rc,.int .i64 r.wr,.int .i64 r.cell,.int .i64 r.no] 39)).alloc (.cells #[.int .i64 0,.int .i64 0] 67)) (w.heap.size+1) (0,0):=by
   have:=Zbq (w.alloc (.cells #[.float .f64 r.key,.bool r.dead,.slice ra rn rc,.int .i64 r.wr,.int .i64 r.cell,.int .i64 r.no] 39)) (0,0)
   rwa [Zae] at this
  have hA:=Zac hA1 hA2
  obtain⟨W0,hW0⟩:∃W0,W0=(w.alloc (.cells #[.float .f64 r.key,.bool r.dead,.slice ra rn rc,.int .i64 r.wr,.int .i64 r.cell,.int .i64 r.no] 39)).alloc (.cells #[.int .i64 0,.int .i64 0] 67):=⟨_,rfl⟩
  rw [← hW0] at hA hR hQ
  have hs0:W0.heap.size=w.heap.size+2:=by rw [hW0,Zae,Zae]
  have HR:=hide hR
  have HQ:=hide hQ
  have HA:=hide hA
  have H:=hide h
  have HLV:=hide hlv
  have HFR:=hide hr
  have HRF:=hide hrf
  have HML:=hide hmay
  have HS0:=hide hs0
  have HFIND:=hide (ZkJ W0 s L (h.below hA (Nat.le_refl _)) r.key hrf.key)
  have HWE:=hide hW0
  have r0:=hR.c0
  have hbig:s.len≤900:=h.big
  obtain⟨a,len,cap⟩:=s
  obtain⟨la,ln,lc⟩:=lv
  clear h hA hR hQ hA1 hA2 hlv hr hrf hmay hs0
  unfold Sl.val at *
  simp only at *
  rw [hW0] at r0
  clear hW0
  unfold Rw.val at *
  go_enter Tryz.func28,Tryz.ntmps28
  go_wp2_with fail
  rw [← HWE.out]
  refine HFIND.out.mono ?_
  intro e w1 ht
  obtain⟨th,FR,FB,hth,hre⟩:∃(th:Bool) (FR:Rx) (FB:Bt),th=(findH (lfs L) r.key).isSome∧e=.returned (.tuple #[FR.val,btV FB,.bool th]):=by
   cases hf:findH (lfs L) r.key with
   | none=>exact ⟨false,Rx.zero,(0,0),rfl,ht.2.1 hf⟩
   | some g =>
    obtain⟨_,x,_,hx,_⟩:=ht.2.2 g hf
    exact⟨true,x,_,rfl,hx⟩
  subst hre
  have HTH:=hide hth
  have hb1:=ht.1
  have hs1:w.heap.size+2≤w1.heap.size:=by have:=hb1.size;rw [HS0.out] at this;exact this
  have hz1:=Zaa w1 (.cells #[.float .f64 0,.bool false,.slice none 0 0,.int .i64 0,.int .i64 0,.int .i64 0] 39)
  have hz2:=Zaa (w1.alloc (.cells #[.float .f64 0,.bool false,.slice none 0 0,.int .i64 0,.int .i64 0,.int .i64 0] 39)) (.cells #[.int .i64 0,.int .i64 0] 67)
  have hzr:RwBlk ((w1.alloc (.cells #[.float .f64 0,.bool false,.slice none 0 0,.int .i64 0,.int .i64 0,.int .i64 0] 39)).alloc (.cells #[.int .i64 0,.int .i64 0] 67)) w1.heap.size zeroR (.slice none 0 0):=(Zai w1 zeroR (.slice none 0 0)).keep hz2
  have hzq:BtBlk ((w1.alloc (.cells #[.float .f64 0,.bool false,.slice none 0 0,.int .i64 0,.int .i64 0,.int .i64 0] 39)).alloc (.cells #[.int .i64 0,.int .i64 0] 67)) (w1.heap.size+1) (0,0):=by
   have:=Zbq (w1.alloc (.cells #[.float .f64 0,.bool false,.slice none 0 0,.int .i64 0,.int .i64 0,.int .i64 0] 39)) (0,0)
   rwa [Zae] at this
  have hzs:((w1.alloc (.cells #[.float .f64 0,.bool false,.slice none 0 0,.int .i64 0,.int .i64 0,.int .i64 0] 39)).alloc (.cells #[.int .i64 0,.int .i64 0] 67)).heap.size=w1.heap.size+2:=by rw [Zae,Zae]
  have hst1:=Zfi _ w1.heap.size _ _ hzr FR.r FR.a FR.n FR.c
  have hfr1:=ZaQ ((w1.alloc (.cells #[.float .f64 0,.bool false,.slice none 0 0,.int .i64 0,.int .i64 0,.int .i64 0] 39)).alloc (.cells #[.int .i64 0,.int .i64 0] 67)) w1.heap.size FR.r (.slice FR.a FR.n FR.c)
  have hzq1:BtBlk (setRw ((w1.alloc (.cells #[.float .f64 0,.bool false,.slice none 0 0,.int .i64 0,.int .i64 0,.int .i64 0] 39)).alloc (.cells #[.int .i64 0,.int .i64 0] 67)) w1.heap.size FR.r (.slice FR.a FR.n FR.c)) (w1.heap.size+1) (0,0):=(hfr1.block _ hzq.lt (by omega)).trans hzq
  have hB1:Below w1.heap.size w1 (setRw ((w1.alloc (.cells #[.float .f64 0,.bool false,.slice none 0 0,.int .i64 0,.int .i64 0,.int .i64 0] 39)).alloc (.cells #[.int .i64 0,.int .i64 0] 67)) w1.heap.size FR.r (.slice FR.a FR.n FR.c)):=(Zac hz1 hz2).trans (hfr1.below (by omega) (fun k hk=>by rw [hk];exact Nat.le_refl _))
  generalize setRw ((w1.alloc (.cells #[.float .f64 0,.bool false,.slice none 0 0,.int .i64 0,.int .i64 0,.int .i64 0] 39)).alloc (.cells #[.int .i64 0,.int .i64 0] 67)) w1.heap.size FR.r (.slice FR.a FR.n FR.c)=Wa at *
  have hst2:=ZeY Wa (w1.heap.size+1) _ hzq1 FB
  have hfr2:=Za8 Wa (w1.heap.size+1) FB
  have hB2:Below w1.heap.size w1 (setBt Wa (w1.heap.size+1) FB):=hB1.trans (hfr2.below hB1.size (fun k hk=>by rw [hk];omega))
  generalize setBt Wa (w1.heap.size+1) FB=W2 at *
  have hs2:w1.heap.size≤W2.heap.size:=hB2.size
  have HST1:=hide hst1
  have HST2:=hide hst2
  unfold Rw.val at HST1
  unfold btV at HST2
  have HB2:=hide (Zac (Zac HA.out hb1) hB2)
  have HR2:=hide ((HR.out.keep hb1).keep hB2)
  have HQ2:=hide ((HQ.out.keep hb1).keep hB2)
  have HF2:=hide (HFR.out.keep HB2.out (Nat.le_refl _))
  have HMAYC:=hide (fun m (hm:r.may=m)=>Zdh r m hm ra rn rc W2 HF2.out HRF.out)
  unfold Rw.val at HMAYC
  clear HWE ht hth hb1 hz1 hz2 hzr hzq hzs hst1 hfr1 hzq1 hB1 hst2 hfr2 hB2 HFIND r0
  have r0:=HR2.out.c0
  have r1:=HR2.out.c1
  have r2:=HR2.out.c2
  have r3:=HR2.out.c3
  have r4:=HR2.out.c4
  have r5:=HR2.out.c5
  unfold Rx.val Rw.val btV
  go_wp2_with (first | refine Zad _ rfl rfl 39 (.tmp 9) (.tmp 22) rfl (.pointer (some ⟨w1.heap.size,0,none⟩)) (.agg #[.float .f64 FR.r.key,.bool FR.r.dead,.slice FR.a FR.n FR.c,.int .i64 FR.r.wr,.int .i64 FR.r.cell,.int .i64 FR.r.no]) rfl rfl Wa HST1.out ?_ | refine Zad _ rfl rfl 67 (.tmp 10) (.tmp 23) rfl (.pointer (some ⟨w1.heap.size+1,0,none⟩)) (.agg #[.int .i64 FB.1,.int .i64 FB.2]) rfl rfl W2 HST2.out ?_)
  cases hm:r.may with
  | false =>
   refine(HMAYC.out false hm).mono ?_
   rintro e w5 ⟨rfl,hb5⟩
   have HBR:=hide (Zac HB2.out hb5)
   have HQ5:=hide (HQ2.out.keep hb5)
   have hno:r.may=false∨r.wr=0∨(findH (lfs L) r.key).isSome=true:=.inl hm
   clear hb5
   have HD:=hide (HXE.out.trans (Zgw hno))
   have HSTB:=hide (ZeY w5 (w.heap.size+1) _ HQ5.out (0,0))
   have HQE:=hide (ZaP HQ5.out (0,0))
   have HBE:Hid (Below w.heap.size w (setBt w5 (w.heap.size+1) (0,0))):=HBR.out.trans ((Za8 w5 (w.heap.size+1) (0,0)).below (Nat.le_trans (by omega) HBR.out.size) (fun k hk=>by rw [hk];omega))
   generalize setBt w5 (w.heap.size+1) (0,0)=WE at *
   unfold btV at HSTB
   simp only at HSTB
   clear hno r0 r1 r2 r3 r4 r5
   go_wp2_with (refine Zad _ rfl rfl 67 (.tmp 7) (.tmp 37) rfl (.pointer (some ⟨w.heap.size+1,0,none⟩)) (.agg #[.int .i64 0,.int .i64 0]) rfl rfl WE HSTB.out ?_)
   refine bodyPost_ret (Zbc rfl HQE.out _ _ _ rfl rfl rfl) rfl ?_
   rw [HD.out]
   exact ZbK.same H.out HBE.out 1
  | true =>
   refine(HMAYC.out true hm).mono ?_
   rintro e w5 ⟨rfl,hb5⟩
   have HBR:=hide (Zac HB2.out hb5)
   have HQ5:=hide (HQ2.out.keep hb5)
   have HR5:=hide (HR2.out.keep hb5)
   have hs5:W2.heap.size≤w5.heap.size:=hb5.size
   clear hb5 r0 r1 r2 r3 r4 r5 HMAYC
   have r3:=HR5.out.c3
   by_cases hw0:r.wr=0
   · have hw0i:(r.wr:Int)=0:=hw0
     have hno:r.may=false∨r.wr=0∨(findH (lfs L) r.key).isSome=true:=.inr (.inl hw0)
     have HD:=hide (HXE.out.trans (Zgw hno))
     have HSTB:=hide (ZeY w5 (w.heap.size+1) _ HQ5.out (0,0))
     have HQE:=hide (ZaP HQ5.out (0,0))
     have HBE:Hid (Below w.heap.size w (setBt w5 (w.heap.size+1) (0,0))):=HBR.out.trans ((Za8 w5 (w.heap.size+1) (0,0)).below (Nat.le_trans (by omega) HBR.out.size) (fun k hk=>by rw [hk];omega))
     generalize setBt w5 (w.heap.size+1) (0,0)=WE at *
     unfold btV at HSTB
     simp only at HSTB
     clear hno
     go_wp2_with (refine Zad _ rfl rfl 67 (.tmp 7) (.tmp 37) rfl (.pointer (some ⟨w.heap.size+1,0,none⟩)) (.agg #[.int .i64 0,.int .i64 0]) rfl rfl WE HSTB.out ?_)
     refine bodyPost_ret (Zbc rfl HQE.out _ _ _ rfl rfl rfl) rfl ?_
     rw [HD.out]
     exact ZbK.same H.out HBE.out 1
   · have hw0i:¬(r.wr:Int)=0:=hw0
     cases th with
     | true =>
      have hno:r.may=false∨r.wr=0∨(findH (lfs L) r.key).isSome=true:=.inr (.inr HTH.out.symm)
      have HD:=hide (HXE.out.trans (Zgw hno))
      have HSTB:=hide (ZeY w5 (w.heap.size+1) _ HQ5.out (0,0))
      have HQE:=hide (ZaP HQ5.out (0,0))
      have HBE:Hid (Below w.heap.size w (setBt w5 (w.heap.size+1) (0,0))):=HBR.out.trans ((Za8 w5 (w.heap.size+1) (0,0)).below (Nat.le_trans (by omega) HBR.out.size) (fun k hk=>by rw [hk];omega))
      generalize setBt w5 (w.heap.size+1) (0,0)=WE at *
      unfold btV at HSTB
      simp only at HSTB
      clear hno
      go_wp2_with (refine Zad _ rfl rfl 67 (.tmp 7) (.tmp 37) rfl (.pointer (some ⟨w.heap.size+1,0,none⟩)) (.agg #[.int .i64 0,.int .i64 0]) rfl rfl WE HSTB.out ?_)
      refine bodyPost_ret (Zbc rfl HQE.out _ _ _ rfl rfl rfl) rfl ?_
      rw [HD.out]
      exact ZbK.same H.out HBE.out 1
     | false =>
      have hok:¬(r.may=false∨r.wr=0∨(findH (lfs L) r.key).isSome=true):=by
       rintro (h | h | h)
       · rw [hm] at h;cases h
       · exact hw0 h
       · have:=HTH.out;rw [h] at this;cases this
      have HOK:=hide hok
      have HM:=hide hm
      have hlen:(lfs L).length=len:=by rw [Zbe];exact H.out.len
      have HLN:=hide hlen
      clear hok hm hlen HTH
      go_wp2_with fail
      go_loopw [12] (fun iv wr=>∃i:Nat,i≤len∧iv=.int .i64 (i:Nat)∧Hid (∀j,j<i→(insA (lf (lfs L) j).slots (hpB r)).e≠0)∧Hid (Below w5.heap.size w5 wr)) (fun iv _=>len-(intOf iv).toNat)
      case atStart=>exact ⟨0,Nat.zero_le _,rfl,(fun j hj=>absurd hj (Nat.not_lt_zero _)),Below.refl _ _⟩
      case round =>
       obtain⟨i,hi,rfl,hno,hWr⟩:=hrel
       have HBR2:=hide (Zac HBR.out hWr.out)
       have HQR:=hide (HQ5.out.keep hWr.out)
       have HRR:=hide (HR5.out.keep hWr.out)
       have hsr:w5.heap.size≤wr.heap.size:=hWr.out.size
       rcases Nat.lt_or_ge i len with hlt | hge
       · have j1:(i:Int)<(len:Int):=by omega
         have HGW:=hide (H.out.below HBR2.out (Nat.le_refl _))
         obtain⟨b,off,ha,c0,c1⟩:=HGW.out.cell i hlt
         replace ha:a=some ⟨b,off,none⟩:=ha
         subst ha
         have hit:=HGW.out.at (i:=i) hlt
         have hit0:=H.out.at (i:=i) hlt
         have hlf:=Zf1 L i
         have hml:=HML.out _ (Zc6 (l:=lfs L) (i:=i) (by rw [HLN.out];exact hlt))
         obtain⟨z,hz⟩:∃z,z=L.getD i Lb.zero:=⟨_,rfl⟩
         rw [← hz] at c0 c1 hit hit0 hlf
         rw [hlf] at hml
         have HIT0:=hide hit0
         have hz4:z.u.len=4:=by have:=hit.1.len;have h4':z.t.length=4:=hml.itl.1;omega
         have hzv:z.v.len≤900:=by have:=hit.2.len;have h64:(bss z.l).length≤64:=hml.slots.1;rw [Zaj] at h64;omega
         have HLF:Hid (lf (lfs L) i=⟨z.t,bss z.l⟩):=hlf
         have HIT:=hide hit
         have HC0:=hide c0
         have HC1:=hide c1
         have HFW:=hide (HFR.out.keep HBR2.out (Nat.le_refl _))
         clear hit hit0 hlf hml hz c0 c1
         go_wp2_with fail
         refine Pl.q9 (ops:=Pl.find 7 ((Tryz.f28.body).getD .skip)) ?_
         refine Zrq (D:=D) wr wr b off len cap i hlt z HC0.out HC1.out HIT.out hzv w.heap.size r ra rn rc HRR.out HFW.out HRF.out HM.out (Below.refl _ _) (by rfl) (by rfl) (by rfl) (by rfl) (by rfl) ?_
         intro u g w7 hg7 hbx hb7
         simp only [Pl.pu,List.foldl,Act.put,List.setIfInBounds_toArray,List.set_cons_zero,List.set_cons_succ]
         by_cases he:(insA (bss z.l) (hpB r)).e=0
         · have he1:¬((insA (bss z.l) (hpB r)).e≠0):=fun h=>h he
           have HROOM:Hid (ZbY (hpB r) (lfs L) 0=some i):=Zoc (by rw [HLN.out];exact hlt) (by rw [HLF.out];exact he) hno.out
           have HB7:=hide (Zac HBR2.out hb7)
           have HR7:=hide (HRR.out.keep hb7)
           have HQ7:=hide (HQR.out.keep hb7)
           have HC07:=hide (Zag HC0.out hb7)
           have HC17:=hide (Zag HC1.out hb7)
           have hs7:wr.heap.size≤w7.heap.size:=hb7.size
           obtain⟨bu,bv,hbx⟩:=hbx
           have HBX:=hide hbx
           have hgl:=hbx.lt
           have HIT7:Hid (Gi (fun k=>D k∧k<w.heap.size) w7 z.u z.t∧Gb (fun k=>D k∧k<w.heap.size) w7 z.v z.l):=⟨(HIT0.out.1.mono (E:=fun k=>D k∧k<w.heap.size) (fun k h hl=>⟨h,hl⟩)).below HB7.out (Nat.le_refl _),(HIT0.out.2.mono (E:=fun k=>D k∧k<w.heap.size) (fun k h hl=>⟨h,hl⟩)).below HB7.out (Nat.le_refl _)⟩
           have HLV7:Hid (Gi (fun k=>D k∧k<w.heap.size) w7 ⟨la,ln,lc⟩ live):=(HLV.out.mono (E:=fun k=>D k∧k<w.heap.size) (fun k h hl=>⟨h,hl⟩)).below HB7.out (Nat.le_refl _)
           clear hb7 hbx hno
           go_wp2_with fail
           refine Pl.q9 (ops:=Pl.find 9 ((Tryz.f28.body).getD .skip)) ?_
           refine Zrr (D:=fun k=>D k∧k<w.heap.size) w7 w7 b off len cap i hlt z HC07.out HC17.out HIT7.out hz4 ⟨la,ln,lc⟩ live HLV7.out w.heap.size r ra rn rc HR7.out (Below.refl _ _) (by rfl) (by rfl) (by rfl) (by rfl) (by rfl) (by rfl) ?_
           intro u9 gx u7 v7 w9 hgx hkx hgi hgb hb9
           simp only [Pl.pu,List.foldl,Act.put,List.setIfInBounds_toArray,List.set_cons_zero,List.set_cons_succ]
           have HB9:=hide (Zac HB7.out hb9)
           have HR9:=hide (HR7.out.keep hb9)
           have HQ9:=hide (HQ7.out.keep hb9)
           have HBX9:=hide (HBX.out.below hb9)
           have hs9:w7.heap.size≤w9.heap.size:=hb9.size
           have HJE:Hid ((joinI z.t r.wr live).e=(joinI (lf (lfs L) i).itl r.wr live).e):=by show _=_;rw [HLF.out]
           by_cases hj:(joinI z.t r.wr live).e=0
           · have hj1:¬((joinI z.t r.wr live).e≠0):=fun h=>h hj
             have HD:=hide (HXE.out.trans (Zp0 HOK.out HROOM.out (by rw [← HJE.out];exact hj)))
             have HKX:=hide hkx
             have hwide:∀k,Nw (fun k=>D k∧k<w.heap.size) w7 gx k→(k≠g∧k≠w.heap.size+1)∧Old D w k:=by intro k hk;rcases hk with h | h;exact ⟨⟨by have:=h.1.2;omega,by have:=h.1.2;omega⟩,.inl h.1.1⟩;exact ⟨⟨by omega,by omega⟩,.inr (by omega)⟩
             have HY:Hid (Gi (fun k=>(k≠g∧k≠w.heap.size+1)∧Old D w k) w9 u7 (joinI z.t r.wr live).t∧Gb (fun k=>(k≠g∧k≠w.heap.size+1)∧Old D w k) w9 v7 z.l):=⟨hgi.wide hwide,hgb.wide hwide⟩
             have HF9:=hide (HFR.out.keep HB9.out (Nat.le_refl _))
             have hv7:v7.len≤900:=by clear hwide;have h1:=hgb.len;have h2:=HIT.out.2.len;omega
             clear hkx hgi hgb hb9 hwide
             go_wp2_with fail
             refine Pl.q9 (ops:=Pl.find 12 ((Tryz.f28.body).getD .skip)) ?_
             refine Zqi (E:=fun k=>(k≠g∧k≠w.heap.size+1)∧Old D w k) w9 w9 gx g (fun k hk=>hk.1.1) (fun k hk=>⟨⟨by omega,by omega⟩,.inr (by omega)⟩) (Lb.mk u7 v7 (joinI z.t r.wr live).t z.l) HKX.out (by omega) _ _ HBX9.out (by omega) HY.out hv7 w.heap.size r ra rn rc HR9.out HF9.out HRF.out HM.out (by omega) (Below.refl _ _) (by rfl) (by rfl) (by rfl) (by rfl) (by rfl) ?_
             intro u12 v6 l6 wz hkz hgiz hgbz hl6 hfz
             simp only [Pl.pu,List.foldl,Act.put,List.setIfInBounds_toArray,List.set_cons_zero,List.set_cons_succ]
             have HBZ:Hid (Below w.heap.size w wz):=HB9.out.trans (hfz.below (by omega) (fun k hk=>by rw [hk];omega))
             have HQZ:Hid (BtBlk wz (w.heap.size+1) (0,0)):=(hfz.block _ HQ9.out.lt (by omega)).trans HQ9.out
             have d0:=hkz.c0
             have d1:=hkz.c1
             have hsz:w9.heap.size≤wz.heap.size:=hfz.size
             have HSET:=hide (ZmA (D:=fun k=>k≠w.heap.size+1∧Old D w k) wz ⟨some ⟨b,off,none⟩,len,cap⟩ L ((H.out.mono (E:=fun k=>k≠w.heap.size+1∧Old D w k) (fun k h hl=>⟨by omega,.inl h⟩)).below HBZ.out (Nat.le_refl _)) i hlt ⟨u7,v6,(joinI z.t r.wr live).t,l6⟩ ⟨hgiz.wide (fun k hk=>⟨hk.1.2,hk.2⟩),hgbz.wide (fun k hk=>⟨hk.1.2,hk.2⟩)⟩)
             have HEQ:Hid (((lfs L).set i (Lb.mk u7 v6 (joinI z.t r.wr live).t l6).lf)=X.l):=by
              show _=_
              rw [HD.out]
              unfold Lb.lf putL
              rw [hl6,HLF.out]
             rw [HEQ.out] at HSET
             have HXB:Hid (X.b=((i:Int),(insA (bss z.l) (hpB r)).at_)):=by show _=_;rw [HD.out,HLF.out]
             have HXC:Hid (X.e=0):=by show _=_;rw [HD.out]
             clear hkz hgiz hgbz hl6 hfz HEQ HD
             obtain⟨⟨ja,jn,jc⟩⟩:∃s:Sl,s=u7:=⟨_,rfl⟩
             obtain⟨ja,jn,jc⟩:=u7
             obtain⟨ya,yn,yc⟩:=v6
             unfold lfV Sl.val at HSET
             unfold Sl.val at d0 d1
             simp only at HSET d0 d1
             go_wp2_with fail
             refine HSET.out.mono ?_
             rintro e wq ⟨hbq,⟨sa,sn,sc⟩,L',rfl,hgl2,hls⟩
             have HBQ:=hide (Zac HBZ.out hbq)
             have HQQ:=hide (HQZ.out.keep hbq)
             have hsq:wz.heap.size≤wq.heap.size:=hbq.size
             have HSTB:=hide (ZeY wq (w.heap.size+1) _ HQQ.out ((i:Int),(insA (bss z.l) (hpB r)).at_))
             have HQE:=hide (ZaP HQQ.out ((i:Int),(insA (bss z.l) (hpB r)).at_))
             have HFE:=hide (Za8 wq (w.heap.size+1) ((i:Int),(insA (bss z.l) (hpB r)).at_))
             have HBE:Hid (Below w.heap.size w (setBt wq (w.heap.size+1) ((i:Int),(insA (bss z.l) (hpB r)).at_))):=HBQ.out.trans (HFE.out.below (by omega) (fun k hk=>by rw [hk];omega))
             have HGE:Hid (Gl (Old D w) (setBt wq (w.heap.size+1) ((i:Int),(insA (bss z.l) (hpB r)).at_)) ⟨sa,sn,sc⟩ L'):=((hgl2.wide (fun k hk=>by rcases hk with h | h;exact h;exact ⟨by omega,.inr (by omega)⟩):Gl (fun k=>k≠w.heap.size+1∧Old D w k) wq ⟨sa,sn,sc⟩ L').keep (Kept.frm HFE.out (fun k hk e=>hk.1 e))).wide (fun _ hk=>hk.2)
             have HLS:=hide hls
             generalize setBt wq (w.heap.size+1) ((i:Int),(insA (bss z.l) (hpB r)).at_)=WE at *
             unfold btV at HSTB
             simp only at HSTB
             clear hbq hgl2 hls d0 d1
             unfold Sl.val
             go_wp2_with (refine Zad _ rfl rfl 67 (.tmp 7) (.tmp 87) rfl (.pointer (some ⟨w.heap.size+1,0,none⟩)) (.agg #[.int .i64 (i:Int),.int .i64 (insA (bss z.l) (hpB r)).at_]) rfl rfl WE HSTB.out ?_)
             refine bodyPost_ret (Zbc rfl HQE.out _ _ _ rfl rfl rfl) rfl ?_
             refine⟨HBE.out,⟨sa,sn,sc⟩,L',?_,HGE.out,HLS.out⟩
             rw [HXB.out,HXC.out]
             rfl
           · have hj1:(joinI z.t r.wr live).e≠0:=hj
             have HD:=hide (HXE.out.trans (ZnU HOK.out HROOM.out (by rw [← HJE.out];exact hj)))
             rw [← HJE.out] at HD
             have HSTB:=hide (ZeY w9 (w.heap.size+1) _ HQ9.out (0,0))
             have HQE:=hide (ZaP HQ9.out (0,0))
             have HBE:Hid (Below w.heap.size w (setBt w9 (w.heap.size+1) (0,0))):=HB9.out.trans ((Za8 w9 (w.heap.size+1) (0,0)).below (by omega) (fun k hk=>by rw [hk];omega))
             generalize setBt w9 (w.heap.size+1) (0,0)=WE at *
             unfold btV at HSTB
             simp only at HSTB
             clear hkx hgi hgb hb9
             go_wp2_with (refine Zad _ rfl rfl 67 (.tmp 7) (.tmp 71) rfl (.pointer (some ⟨w.heap.size+1,0,none⟩)) (.agg #[.int .i64 0,.int .i64 0]) rfl rfl WE HSTB.out ?_)
             refine bodyPost_ret (Zbc rfl HQE.out _ _ _ rfl rfl rfl) rfl ?_
             rw [HD.out]
             exact ZbK.same H.out HBE.out _
         · have he1:(insA (bss z.l) (hpB r)).e≠0:=he
           have HN2:Hid (∀j,j<i+1→(insA (lf (lfs L) j).slots (hpB r)).e≠0):=by
            intro j hj
            rcases Nat.lt_or_ge j i with h1 | h1
            · exact hno.out j h1
            · rw [show j=i by omega,HLF.out];exact he
           have HW2:=hide (Zac hWr.out hb7)
           clear hb7 hbx hno
           go_wp2_with fail
           go_roundw
           case rel=>exact ⟨i+1,by omega,by go_num,HN2,HW2⟩
           case measure=>simp only [intOf];omega
       · have j1:¬(i:Int)<(len:Int):=by omega
         have hrn:ZbY (hpB r) (lfs L) 0=none:=Zcz.2 (fun m hm=>hno.out m (by rw [HLN.out] at hm;omega))
         have HD:=hide (HXE.out.trans (Zmq HOK.out hrn))
         have HSTB:=hide (ZeY wr (w.heap.size+1) _ HQR.out (0,0))
         have HQE:=hide (ZaP HQR.out (0,0))
         have HBE:Hid (Below w.heap.size w (setBt wr (w.heap.size+1) (0,0))):=HBR2.out.trans ((Za8 wr (w.heap.size+1) (0,0)).below (by omega) (fun k hk=>by rw [hk];omega))
         generalize setBt wr (w.heap.size+1) (0,0)=WE at *
         unfold btV at HSTB
         simp only at HSTB
         clear hrn hno
         go_wp2_with (refine Zad _ rfl rfl 67 (.tmp 7) (.tmp 89) rfl (.pointer (some ⟨w.heap.size+1,0,none⟩)) (.agg #[.int .i64 0,.int .i64 0]) rfl rfl WE HSTB.out ?_)
         refine bodyPost_ret (Zbc rfl HQE.out _ _ _ rfl rfl rfl) rfl ?_
         rw [HD.out]
         exact ZbK.same H.out HBE.out 7
end Go.Proofs.YtiecfcjlhldhdaaGreat
