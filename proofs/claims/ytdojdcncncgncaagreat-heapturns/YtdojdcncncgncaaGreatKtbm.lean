/-
  Lemmas.
-/
import Derived.Test.YtdojdcncncgncaaGreatKtbl
namespace Go.Proofs.YtdojdcncncgncaaGreat
open Go.RowKit
set_option linter.unusedVariables false
set_option maxRecDepth 100000
set_option maxHeartbeats 4000000
variable {live:List Int}{l:List Lf}{b:Bt}{r:Rw}
theorem ZoG {t : List Int} {live : List Int} : (joinI t 0 live).e = 1 := by unfold joinI; rw [if_pos (.inl (by decide))]
theorem ZnR {l : List Lf} {b : Bt} {r was : Rw} {live : List Int} (h : getH l b = some was) (hm : r.may = true) (hk : was.key = r.key) (he : (joinI (lf l b.1.toNat).itl r.wr live).e ≠ 0) : layH l b r true live = ⟨l, (joinI (lf l b.1.toNat).itl r.wr live).e⟩ := by
  by_cases hw : r.wr = 0
  · rw [Zbx h (.inr (.inl ⟨rfl, hw⟩)), hw, ZoG]
  · exact ZiR h (by rintro (h1 | h1 | h1); rw [hm] at h1; cases h1; exact hw h1.2; exact h1 hk) he
theorem Zm7 {was:Rw}(h : getH l b = some was) (hm : r.may = true) (hk : was.key = r.key) (he : (joinI (lf l b.1.toNat).itl r.wr live).e = 0) : layH l b r true live = ⟨l.set b.1.toNat (layL (lf l b.1.toNat) b.2 r true live), 0⟩ := by
 refine Zgy h ?_ (fun h1 => h1.2 he)
 rintro (h1 | h1 | h1)
 · rw [hm] at h1; cases h1
 · rw [h1.2, ZoG] at he; exact absurd he (by decide)
 · exact h1 hk
theorem Zj9 (w:World)(s:Sl)(L:List Lb)(h:Gl (fun _=>True) w s L)(hM:MayH (lfs L))(b:Bt)(r:Rw)(ra:Option Addr)(rn rc:Nat)(hr:Fs w ra rn rc r.xs)(hrf:r.fits)(pb qb:Nat)(hp:RwBlk w pb r (.slice ra rn rc))(lv:Sl)(live:List Int)(hq0:NsBlk w qb lv)(hl:Gi (fun _=>True) w lv live) :
    Calls Tryz.prog 53 #[s.val,btV b,r.val (.slice ra rn rc),.func (.func 54) #[] #[.pointer (some ⟨pb,0,none⟩),.pointer (some ⟨qb,0,none⟩)]] w (ZaJ w (layH (lfs L) b r true live)):=by
  have hsf:∀(w:World) (a:Addr) (m:Mode) (x:Nat),(store a (.float .f64 x) m).run Tryz.prog w=stored Tryz.prog w a (.float .f64 x) m:=fun w a m x=>run_store Tryz.prog w a _ m rfl
  have hA1:=Zaa w (.cells #[.int .i64 b.1,.int .i64 b.2] 26)
  have hA2:=Zaa (w.alloc (.cells #[.int .i64 b.1,.int .i64 b.2] 26)) (.cells #[.float .f64 r.key,.bool r.dead,.slice ra rn rc,.int .i64 r.wr,.int .i64 r.cell,.int .i64 r.no] 33)
  have hY:BtBlk ((w.alloc (.cells #[.int .i64 b.1,.int .i64 b.2] 26)).alloc (.cells #[.float .f64 r.key,.bool r.dead,.slice ra rn rc,.int .i64 r.wr,.int .i64 r.cell,.int .i64 r.no] 33)) w.heap.size b:=(Zaw w b).keep hA2
  have hR:RwBlk ((w.alloc (.cells #[.int .i64 b.1,.int .i64 b.2] 26)).alloc (.cells #[.float .f64 r.key,.bool r.dead,.slice ra rn rc,.int .i64 r.wr,.int .i64 r.cell,.int .i64 r.no] 33)) (w.heap.size+1) r (.slice ra rn rc):=by
   have:=Zak (w.alloc (.cells #[.int .i64 b.1,.int .i64 b.2] 26)) r (.slice ra rn rc)
   rwa [Zae] at this
  have HW0:=hide (Zad hA1 hA2)
  have HY:=hide hY
  have HR:=hide hR
  have HO:=hide (Zbz _ s L (h.below HW0.out (Nat.le_refl _)))
  have HZ0:Hid (((w.alloc (.cells #[.int .i64 b.1,.int .i64 b.2] 26)).alloc (.cells #[.float .f64 r.key,.bool r.dead,.slice ra rn rc,.int .i64 r.wr,.int .i64 r.cell,.int .i64 r.no] 33)).heap.size=w.heap.size+2):=by show _=_;rw [Zae,Zae]
  have HG:=hide h
  have HGD:=hide h.good
  have HM:=hide hM
  have HFR:=hide hr
  have HRF:=hide hrf
  have HIB:=hide (fun w=>Zca w b)
  have HFB:=hide (fun (w0 w:World) (s:Sl) (S:List Sx) (h:Std w0 w s S) (hl:S.length≤100000) (g:Nat) (hg:BtBlk w g b)=>ZcK w0 w s S h hl g b hg)
  have HSL:Hid (L.length=s.len):=h.len
  have HCO:Hid (∀W,Below w.heap.size w W→_):=fun W hb=>Zcy W s L (h.below hb (Nat.le_refl _)) (fun _ _=>trivial)
  have HWI:Hid (∀W,Below w.heap.size w W→∀(i:Nat) (hi:i<s.len) (x:Lb),Gi (fun _=>True) W x.u x.t→Gb (fun _=>True) W x.v x.l→_):=fun W hb i hi x hu hv=>Zdw W s L (h.below hb (Nat.le_refl _)) (fun _ _=>trivial) i hi x hu hv
  have HCK:Hid (∀W,Below w.heap.size w W→_):=fun W hb=>Zbl r ra rn rc W (hr.keep hb (Nat.le_refl _)) hrf
  have HRD:Hid (∀(W:World) (x:Lb),Below w.heap.size w W→Gi (fun _=>True) W x.u x.t→Gb (fun _=>True) W x.v x.l→MayL ⟨x.t,bss x.l⟩→_):=fun W x hb hu hv hm=>ZmQ W x.u x.v x.t x.l hu hv hm pb qb r _ (hp.keep hb) lv live (hq0.keep hb) (hl.below hb (Nat.le_refl _))
  obtain⟨a,len,cap⟩:=s
  clear h hA1 hA2 hY hR hM hr hrf hp hq0 hl
  obtain⟨b1,b2⟩:=b
  unfold Sl.val btV Rw.val at *
  simp only at *
  go_enter Tryz.func53,Tryz.ntmps53
  go_wp2_with fail
  generalize (w.alloc (.cells #[.int .i64 b1,.int .i64 b2] 26)).alloc (.cells #[.float .f64 r.key,.bool r.dead,.slice ra rn rc,.int .i64 r.wr,.int .i64 r.cell,.int .i64 r.no] 33)=W0 at *
  refine HO.out.mono ?_
  intro e w1 ho
  obtain⟨⟨sa,sn,sc⟩,S,k,rfl,hs,hk⟩:=ho.one
  have HW1:=hide (Zad HW0.out hs.below)
  have hY1:=HY.out.keep hs.below
  have HR1:=hide (HR.out.keep hs.below)
  have HS1:=hide hs
  have HZ1:Hid (w.heap.size+2≤w1.heap.size):=by show _≤_;rw [← HZ0.out];exact hs.below.size
  rcases hk with ⟨hm,rfl,hrw⟩ | ⟨hm,_,_⟩
  case inr=>exact absurd HM.out hm
  have HRW:=hide hrw
  have HLS:Hid (S.length≤100000):=Nat.le_trans (hm.len hrw) (by decide)
  have y0:=hY1.c0
  have y1:=hY1.c1
  have HY1:=hide hY1
  clear ho hs hm hrw HO hY1
  unfold Sl.val
  simp only at y0 y1 ⊢
  go_wp2_with fail
  refine(HIB.out w1).mono ?_
  rintro e w2 ⟨⟨g,rfl,hg⟩,hb⟩
  have HFI:=hide (HFB.out W0 w2 ⟨sa,sn,sc⟩ S (HS1.out.keep hb) HLS.out g hg)
  have HS2:=hide (HS1.out.keep hb)
  have HW2:=hide (Zad HW1.out hb)
  have HY2:=hide (HY1.out.keep hb)
  have HR2:=hide (HR1.out.keep hb)
  have HZ2:Hid (w.heap.size+2≤w2.heap.size):=Nat.le_trans HZ1.out hb.size
  clear hg hb HIB HFB y0 y1
  unfold Sl.val at HFI
  simp only at HFI
  go_wp2_with fail
  refine HFI.out.mono ?_
  intro e w3 hf
  obtain⟨rfl,hb⟩:=hf.one
  obtain⟨z,hz⟩:∃z,z=orZ (S.find? (inB (b1,b2))):=⟨_,rfl⟩
  rw [← hz]
  have HB4:=Zaa w3 (.cells z.cells.toArray 72)
  have HBB:=Zad hb HB4
  have HW4:=hide (Zad HW2.out HBB)
  have HY4:=hide (HY2.out.keep HBB)
  have HR4:=hide (HR2.out.keep HBB)
  have HS4:=hide (HS2.out.keep HBB)
  have HZ4:Hid (w.heap.size+2≤(w3.alloc (.cells z.cells.toArray 72)).heap.size):=Nat.le_trans HZ2.out HBB.size
  have HSTO:=hide (Zck z w3)
  have HZE:=hide hz
  have HX4:=hide (SxBlk.new w3 z)
  generalize hW4:w3.alloc (.cells z.cells.toArray 72)=W4 at *
  clear hf hb hz HB4 HBB HFI hW4
  cases hq:S.find? (inB (b1,b2)) with
  | none =>
   have HD:Hid (layH (lfs L) (b1,b2) r true live=⟨lfs L,3⟩):=ZeJ (by rw [ZdS HRW.out,hq];rfl)
   have HC4:=hide (HCO.out W4 HW4.out)
   rw [show (none:Option Sx).isSome=false from rfl]
   clear hq HCO HWI HX4 HZE
   go_wp2_with (first | refine Zac _ rfl rfl 72 (.tmp 12) (.tmp 28) rfl (.pointer (some ⟨w3.heap.size,0,none⟩)) _ rfl rfl W4 HSTO.out ?_)
   refine HC4.out.mono ?_
   rintro e w9 ⟨⟨a9,n9,c9⟩,M,rfl,hI⟩
   have HI:=hide hI
   clear hI HC4
   unfold Sl.val
   simp only
   go_wp2_with fail
   go_ret2
   rw [HD.out]
   exact⟨Zad HW4.out HI.out.below,⟨a9,n9,c9⟩,M,rfl,HI.out.gl,HI.out.lf⟩
  | some y =>
   have hyb:=ZkV (List.find?_some hq)
   have hyS:=List.mem_of_find?_eq_some hq
   obtain⟨hi1,hi2,hi3⟩:=Zor HRW.out hyS
   rw [Prod.mk.injEq] at hyb
   obtain⟨rfl,rfl⟩:=hyb
   have hi:y.i<len:=by rw [Za4,HSL.out] at hi1;exact hi1
   have hget:getH (lfs L) ((y.i:Int),(y.k:Int))=some y.x.r:=by rw [ZdS HRW.out,hq];rfl
   have hzy:y=z:=by rw [HZE.out,hq];rfl
   subst hzy
   have hgood:Fl.key y.x.r.key=y.x.r.key:=(HGD.out y.hr (by rw [← HRW.out];exact List.mem_map_of_mem hyS)).key
   have hyf:y.x.r.key<18446744073709551616:=(HS4.out.fits y hyS).key
   have hcz:=Zgk hyf HRF.out.key
   have HCM:=hide (ZbX y.x.r.key r.key hyf HRF.out.key W4)
   obtain⟨c,hc⟩:∃c,c=cmp y.x.r.key r.key:=⟨_,rfl⟩
   rw [← hc] at HCM hcz
   have HCZ:=hide hcz
   have HGET:=hide hget
   have HGOOD:=hide hgood
   rw [show (some y:Option Sx).isSome=true from rfl]
   have x2:=HX4.out.c2
   have r0:=HR4.out.c0
   clear hq hyS hi2 hi3 hget hgood hyf hcz hc HZE HX4
   go_wp2_with (first | refine Zac _ rfl rfl 72 (.tmp 12) (.tmp 28) rfl (.pointer (some ⟨w3.heap.size,0,none⟩)) _ rfl rfl W4 HSTO.out ?_)
   refine HCM.out.mono ?_
   rintro e w5 ⟨rfl,hw⟩
   obtain rfl:=hw.symm
   clear hw HCM x2 r0
   by_cases hc0:c=0
   case neg =>
    have hc1:(c == 0)=false:=beq_eq_false_iff_ne.2 hc0
    have HD:=hide (Zbx (j:=true) (live:=live) HGET.out (.inr (.inr (fun h:y.x.r.key=r.key=>by have:=HCZ.out;rw [hc1,h] at this;simp at this))))
    have HC4:=hide (HCO.out W4 HW4.out)
    clear HCK HRD HWI HCZ
    go_wp2_with fail
    refine HC4.out.mono ?_
    rintro e w9 ⟨⟨a9,n9,c9⟩,M,rfl,hI⟩
    have HI:=hide hI
    clear hI HC4
    unfold Sl.val
    simp only
    go_wp2_with fail
    go_ret2
    rw [HD.out]
    exact⟨Zad HW4.out HI.out.below,⟨a9,n9,c9⟩,M,rfl,HI.out.gl,HI.out.lf⟩
   subst hc0
   have r0:=HR4.out.c0
   have r1:=HR4.out.c1
   have r2:=HR4.out.c2
   have r3:=HR4.out.c3
   have r4:=HR4.out.c4
   have r5:=HR4.out.c5
   have HC4:=hide (HCK.out W4 HW4.out)
   cases hm:r.may with
   | false =>
    have HD:=hide (Zbx (j:=true) (live:=live) HGET.out (.inl hm))
    rw [hm] at HC4
    unfold chk at HC4
    clear hm
    go_wp2_with fail
    refine HC4.out.mono ?_
    rintro e W8 ⟨rfl,hb⟩
    have HW8:=hide (Zad HW4.out hb)
    have HY8:=hide (HY4.out.keep hb)
    have HR8:=hide (HR4.out.keep hb)
    have HZ8:Hid (w.heap.size+2≤W8.heap.size):=Nat.le_trans HZ4.out hb.size
    clear hb HC4 r0 r1 r2 r3 r4 r5
    have HC4:=hide (HCO.out W8 HW8.out)
    go_wp2_with fail
    refine HC4.out.mono ?_
    rintro e w9 ⟨⟨a9,n9,c9⟩,M,rfl,hI⟩
    have HI:=hide hI
    clear hI HC4
    unfold Sl.val
    simp only
    go_wp2_with fail
    go_ret2
    rw [HD.out]
    exact⟨Zad HW8.out HI.out.below,⟨a9,n9,c9⟩,M,rfl,HI.out.gl,HI.out.lf⟩
   | true =>
    have HMY:=hide hm
    have HKEY:Hid (y.x.r.key=r.key):=by
     have h0:Fl.key y.x.r.key=Fl.key r.key:=beq_iff_eq.1 HCZ.out.symm
     rw [HGOOD.out,Zgx hm] at h0
     exact h0
    rw [hm] at HC4
    unfold chk at HC4
    clear hm
    go_wp2_with fail
    refine HC4.out.mono ?_
    rintro e W8 ⟨rfl,hb⟩
    have HW8:=hide (Zad HW4.out hb)
    have HY8:=hide (HY4.out.keep hb)
    have HR8:=hide (HR4.out.keep hb)
    have HZ8:Hid (w.heap.size+2≤W8.heap.size):=Nat.le_trans HZ4.out hb.size
    clear hb HC4 r0 r1 r2 r3 r4 r5
    have hgw:=HG.out.below HW8.out (Nat.le_refl _)
    obtain⟨bb,off,ha,c0,c1⟩:=hgw.cell y.i hi
    replace ha:a=some ⟨bb,off,none⟩:=ha
    subst ha
    have hit:=hgw.at (i:=y.i) hi
    have hlf:=Zbt L y.i
    have hmay:=HM.out.leaf _ (Zbe hi1)
    obtain⟨x,hx⟩:∃x,x=L.getD y.i Lb.zero:=⟨_,rfl⟩
    rw [← hx] at c0 c1 hit hlf
    rw [hlf] at hmay
    have HLF:=hide hlf
    have HMAY:Hid (MayL ⟨x.t,bss x.l⟩):=hmay
    have HLD:=hide (Za5 c0 c1)
    have HR0:=hide (HRD.out W8 x HW8.out hit.1 hit.2 hmay)
    have y0:=HY8.out.c0
    have y1:=HY8.out.c1
    simp only at y0 y1
    clear hgw hit hlf hmay hx c0 c1 HRD HCK
    obtain⟨⟨xua,xun,xuc⟩,⟨xva,xvn,xvc⟩,xt,xl⟩:=x
    unfold lfV Sl.val at HLD HR0
    simp only at HLD HR0 HMAY
    go_wp2_with (first | refine Zau _ rfl 67 (.tmp 53) rfl (.pointer (some ⟨bb,off+y.i*2,none⟩)) _ rfl HLD.out ?_)
    refine HR0.out.mono ?_
    rintro e w10 ⟨hb10,u7,v7,l7,rfl,hgi7,hgb7,hl7⟩
    obtain⟨ec,hec⟩:∃ec,ec=(joinI xt r.wr live).e:=⟨_,rfl⟩
    rw [← hec]
    have HEC:=hide hec
    have hKA:=Zaj w10 (Sl.val Sl.nil) (Sl.val Sl.nil)
    have hBA:=Zaa w10 (.cells #[.slice none 0 0,.slice none 0 0] 67)
    obtain⟨W11,hst,hk11,hf11⟩:=ZaN (w10.alloc (.cells #[.slice none 0 0,.slice none 0 0] 67)) w10.heap.size _ _ hKA u7 v7
    have hB11:Below w10.heap.size w10 W11:=hBA.trans (hf11.below hBA.size (fun k hk=>by rw [hk];exact Nat.le_refl _))
    have hnw:∀k,W8.heap.size≤k→k<w10.heap.size→Ap w10.heap.size k:=fun k _ hk e=>by rw [e] at hk;exact Nat.lt_irrefl _ hk
    have HGI:=hide (((hgi7.mono hnw).below hBA (Nat.le_refl _)).keep (Kept.frm hf11 (fun _ h e=>h e)))
    have HGB:=hide (((hgb7.mono hnw).below hBA (Nat.le_refl _)).keep (Kept.frm hf11 (fun _ h e=>h e)))
    have hB8:=Zad hb10 hB11
    have HW11:=hide (Zad HW8.out hB8)
    have HY11:=hide (HY8.out.keep hB8)
    have HR11:=hide (HR8.out.keep hB8)
    have HZ11:Hid (w.heap.size+2≤w10.heap.size):=Nat.le_trans HZ8.out hb10.size
    have HST:=hide hst
    have HK11:=hide hk11
    have HL7:=hide hl7
    have HITL:Hid ((lf (lfs L) y.i).itl=xt):=by show _=_;rw [HLF.out];rfl
    clear hec hb10 hgi7 hgb7 hl7 hKA hBA hst hk11 hf11 hB11 hnw hB8 HR0 y0 y1
    obtain⟨u7a,u7n,u7c⟩:=u7
    obtain⟨v7a,v7n,v7c⟩:=v7
    unfold mk2 lfV Sl.val
    unfold lfV Sl.val at HST
    simp only at HST ⊢
    by_cases he0:ec=0
    · subst he0
      have HD:=hide (Zm7 HGET.out HMY.out HKEY.out (show (joinI (lf (lfs L) ((y.i:Int),(y.k:Int)).1.toNat).itl r.wr live).e=0 by show (joinI (lf (lfs L) ((y.i:Int)).toNat).itl r.wr live).e=0;rw [Int.toNat_natCast,HITL.out];exact HEC.out.symm))
      go_upto_region 12 with (first | refine Zac _ rfl rfl 67 (.tmp 14) (.tmp 56) rfl (.pointer (some ⟨w10.heap.size,0,none⟩)) _ rfl rfl W11 HST.out ?_)
      refine Pl.q9 (ops:=Pl.find 12 ((Tryz.f53.body).getD .skip)) ?_
      refine Znm W11 w10.heap.size (w.heap.size+1) w.heap.size ⟨u7a,u7n,u7c⟩ ⟨v7a,v7n,v7c⟩ (joinI xt r.wr live).t l7 HK11.out HGI.out HGB.out (by rw [HL7.out];exact ZfA HMAY.out r.wr live) r ra rn rc HR11.out (by have:=HZ11.out;omega) (y.i:Int) (y.k:Int) HY11.out (by have:=HZ11.out;omega) (HFR.out.keep HW11.out (Nat.le_refl _)) HRF.out HMY.out (by rfl) (by rfl) (by rfl) (by rfl) (by rfl) ?_
      intro q8 u8 v8 l8 W12 hk8 hgi8 hgb8 hl8 hf8
      simp only [Act.put,List.setIfInBounds_toArray,List.set_cons_zero,List.set_cons_succ]
      have HW12:Hid (Below w.heap.size w W12):=HW11.out.trans (hf8.below HW11.out.size (fun k hk=>by rw [hk];have:=HZ11.out;omega))
      have hY12:BtBlk W12 w.heap.size ((y.i:Int),(y.k:Int)):=(hf8.block _ HY11.out.lt (by have:=HZ11.out;omega)).trans HY11.out
      have HWX:=hide (HWI.out W12 HW12.out y.i hi ⟨u8,v8,(joinI xt r.wr live).t,l8⟩ (hgi8.wide (fun _ _=>trivial)) (hgb8.wide (fun _ _=>trivial)))
      have k0:=hk8.c0
      have k1:=hk8.c1
      have y0:=hY12.c0
      have y1:=hY12.c1
      have HL8:Hid (bss l8=(setA (bss xl) (y.k:Int) (hpB r)).s):=by show _=_;rw [hl8,HL7.out]
      clear hk8 hgi8 hgb8 hl8 hf8 hY12 HWI HCO
      obtain⟨u8a,u8n,u8c⟩:=u8
      obtain⟨v8a,v8n,v8c⟩:=v8
      unfold lfV Sl.val at HWX
      unfold Sl.val at k0 k1
      simp only at HWX k0 k1 y0 y1
      go_wp2_with fail
      refine HWX.out.mono ?_
      rintro e w13 ⟨hb13,⟨a5,n5,c5⟩,M,rfl,hgl,hM⟩
      have HB13:=hide (Zad HW12.out hb13)
      have HGL:=hide hgl
      have HLM:=hide hM
      clear hb13 hgl hM HWX
      go_wp2_with fail
      go_ret2
      refine⟨HB13.out,⟨a5,n5,c5⟩,M,?_,HGL.out,?_⟩
      · rw [HD.out];rfl
      · rw [HLM.out,HD.out]
        show (lfs L).set y.i ⟨(joinI xt r.wr live).t,bss l8⟩=(lfs L).set ((y.i:Int)).toNat (layL (lf (lfs L) ((y.i:Int)).toNat) (y.k:Int) r true live)
        rw [Int.toNat_natCast,HLF.out,HL8.out]
        rfl
    · have he1:(ec == 0)=false:=beq_eq_false_iff_ne.2 he0
      have HD:=hide (ZnR HGET.out HMY.out HKEY.out (show (joinI (lf (lfs L) ((y.i:Int),(y.k:Int)).1.toNat).itl r.wr live).e≠0 by show (joinI (lf (lfs L) ((y.i:Int)).toNat).itl r.wr live).e≠0;rw [Int.toNat_natCast,HITL.out,← HEC.out];exact he0))
      have HEC2:Hid ((joinI (lf (lfs L) ((y.i:Int),(y.k:Int)).1.toNat).itl r.wr live).e=ec):=by show (joinI (lf (lfs L) ((y.i:Int)).toNat).itl r.wr live).e=ec;rw [Int.toNat_natCast,HITL.out];exact HEC.out.symm
      rw [HEC2.out] at HD
      have HC4:=hide (HCO.out W11 HW11.out)
      go_wp2_with (first | refine Zac _ rfl rfl 67 (.tmp 14) (.tmp 56) rfl (.pointer (some ⟨w10.heap.size,0,none⟩)) _ rfl rfl W11 HST.out ?_)
      refine HC4.out.mono ?_
      rintro e w9 ⟨⟨a9,n9,c9⟩,M,rfl,hI⟩
      have HI:=hide hI
      clear hI HC4
      unfold Sl.val
      simp only
      go_wp2_with fail
      go_ret2
      rw [HD.out]
      exact⟨Zad HW11.out HI.out.below,⟨a9,n9,c9⟩,M,rfl,HI.out.gl,HI.out.lf⟩
theorem Zj8 (w:World)(s:Sl)(L:List Lb)(h:Gl (fun _=>True) w s L)(hM:MayH (lfs L))(b:Bt)(r:Rw)(ra:Option Addr)(rn rc:Nat)(hr:Fs w ra rn rc r.xs)(hrf:r.fits)  :
    Calls Tryz.prog 53 #[s.val,btV b,r.val (.slice ra rn rc),.func (.func 55) #[] #[]] w (ZaJ w (layH (lfs L) b r false [])):=by
  have hsf:∀(w:World) (a:Addr) (m:Mode) (x:Nat),(store a (.float .f64 x) m).run Tryz.prog w=stored Tryz.prog w a (.float .f64 x) m:=fun w a m x=>run_store Tryz.prog w a _ m rfl
  have hA1:=Zaa w (.cells #[.int .i64 b.1,.int .i64 b.2] 26)
  have hA2:=Zaa (w.alloc (.cells #[.int .i64 b.1,.int .i64 b.2] 26)) (.cells #[.float .f64 r.key,.bool r.dead,.slice ra rn rc,.int .i64 r.wr,.int .i64 r.cell,.int .i64 r.no] 33)
  have hY:BtBlk ((w.alloc (.cells #[.int .i64 b.1,.int .i64 b.2] 26)).alloc (.cells #[.float .f64 r.key,.bool r.dead,.slice ra rn rc,.int .i64 r.wr,.int .i64 r.cell,.int .i64 r.no] 33)) w.heap.size b:=(Zaw w b).keep hA2
  have hR:RwBlk ((w.alloc (.cells #[.int .i64 b.1,.int .i64 b.2] 26)).alloc (.cells #[.float .f64 r.key,.bool r.dead,.slice ra rn rc,.int .i64 r.wr,.int .i64 r.cell,.int .i64 r.no] 33)) (w.heap.size+1) r (.slice ra rn rc):=by
   have:=Zak (w.alloc (.cells #[.int .i64 b.1,.int .i64 b.2] 26)) r (.slice ra rn rc)
   rwa [Zae] at this
  have HW0:=hide (Zad hA1 hA2)
  have HY:=hide hY
  have HR:=hide hR
  have HO:=hide (Zbz _ s L (h.below HW0.out (Nat.le_refl _)))
  have HZ0:Hid (((w.alloc (.cells #[.int .i64 b.1,.int .i64 b.2] 26)).alloc (.cells #[.float .f64 r.key,.bool r.dead,.slice ra rn rc,.int .i64 r.wr,.int .i64 r.cell,.int .i64 r.no] 33)).heap.size=w.heap.size+2):=by show _=_;rw [Zae,Zae]
  have HG:=hide h
  have HGD:=hide h.good
  have HM:=hide hM
  have HFR:=hide hr
  have HRF:=hide hrf
  have HIB:=hide (fun w=>Zca w b)
  have HFB:=hide (fun (w0 w:World) (s:Sl) (S:List Sx) (h:Std w0 w s S) (hl:S.length≤100000) (g:Nat) (hg:BtBlk w g b)=>ZcK w0 w s S h hl g b hg)
  have HSL:Hid (L.length=s.len):=h.len
  have HCO:Hid (∀W,Below w.heap.size w W→Calls Tryz.prog 46 #[s.val] W (ZlY (fun _=>True) W L)):=fun W hb=>Zcy W s L (h.below hb (Nat.le_refl _)) (fun _ _=>trivial)
  have HWI:Hid (∀W,Below w.heap.size w W→∀(i:Nat) (hi:i<s.len) (x:Lb),Gi (fun _=>True) W x.u x.t→Gb (fun _=>True) W x.v x.l→Calls Tryz.prog 52 #[s.val,.int .i64 (i:Int),lfV x.u x.v] W (Zi0 (fun _=>True) W ((lfs L).set i x.lf))):=fun W hb i hi x hu hv=>Zdw W s L (h.below hb (Nat.le_refl _)) (fun _ _=>trivial) i hi x hu hv
  have HCK:Hid (∀W,Below w.heap.size w W→Calls Tryz.prog 45 #[r.val (.slice ra rn rc)] W fun e w'=>e=.returned (.int .i64 (chk r.may))∧Below W.heap.size W w'):=fun W hb=>Zbl r ra rn rc W (hr.keep hb (Nat.le_refl _)) hrf
  have HRD:Hid (∀(W:World) (x:Lb),Below w.heap.size w W→Gi (fun _=>True) W x.u x.t→Gb (fun _=>True) W x.v x.l→MayL ⟨x.t,bss x.l⟩→Calls Tryz.prog 55 #[lfV x.u x.v] W fun e w'=>Below W.heap.size W w'∧∃(u' v':Sl) (l':List Sb),e=.returned (mk2 0 (lfV u' v'))∧Gi (fun _=>True) w' u' x.t∧Gb (fun _=>True) w' v' l'∧bss l'=bss x.l):=fun W x hb hu hv hm=>(Zm6 W x.u x.v).mono fun e w' he=>⟨he.2,x.u,x.v,x.l,he.1,hu.below he.2 (Nat.le_refl _),hv.below he.2 (Nat.le_refl _),rfl⟩
  obtain⟨a,len,cap⟩:=s
  clear h hA1 hA2 hY hR hM hr hrf 
  obtain⟨b1,b2⟩:=b
  unfold Sl.val btV Rw.val at *
  simp only at *
  go_enter Tryz.func53,Tryz.ntmps53
  go_wp2_with fail
  generalize (w.alloc (.cells #[.int .i64 b1,.int .i64 b2] 26)).alloc (.cells #[.float .f64 r.key,.bool r.dead,.slice ra rn rc,.int .i64 r.wr,.int .i64 r.cell,.int .i64 r.no] 33)=W0 at *
  refine HO.out.mono ?_
  intro e w1 ho
  obtain⟨⟨sa,sn,sc⟩,S,k,rfl,hs,hk⟩:=ho.one
  have HW1:=hide (Zad HW0.out hs.below)
  have hY1:=HY.out.keep hs.below
  have HR1:=hide (HR.out.keep hs.below)
  have HS1:=hide hs
  have HZ1:Hid (w.heap.size+2≤w1.heap.size):=by show _≤_;rw [← HZ0.out];exact hs.below.size
  rcases hk with ⟨hm,rfl,hrw⟩ | ⟨hm,_,_⟩
  case inr=>exact absurd HM.out hm
  have HRW:=hide hrw
  have HLS:Hid (S.length≤100000):=Nat.le_trans (hm.len hrw) (by decide)
  have y0:=hY1.c0
  have y1:=hY1.c1
  have HY1:=hide hY1
  clear ho hs hm hrw HO hY1
  unfold Sl.val
  simp only at y0 y1 ⊢
  go_wp2_with fail
  refine(HIB.out w1).mono ?_
  rintro e w2 ⟨⟨g,rfl,hg⟩,hb⟩
  have HFI:=hide (HFB.out W0 w2 ⟨sa,sn,sc⟩ S (HS1.out.keep hb) HLS.out g hg)
  have HS2:=hide (HS1.out.keep hb)
  have HW2:=hide (Zad HW1.out hb)
  have HY2:=hide (HY1.out.keep hb)
  have HR2:=hide (HR1.out.keep hb)
  have HZ2:Hid (w.heap.size+2≤w2.heap.size):=Nat.le_trans HZ1.out hb.size
  clear hg hb HIB HFB y0 y1
  unfold Sl.val at HFI
  simp only at HFI
  go_wp2_with fail
  refine HFI.out.mono ?_
  intro e w3 hf
  obtain⟨rfl,hb⟩:=hf.one
  obtain⟨z,hz⟩:∃z,z=orZ (S.find? (inB (b1,b2))):=⟨_,rfl⟩
  rw [← hz]
  have HB4:=Zaa w3 (.cells z.cells.toArray 72)
  have HBB:=Zad hb HB4
  have HW4:=hide (Zad HW2.out HBB)
  have HY4:=hide (HY2.out.keep HBB)
  have HR4:=hide (HR2.out.keep HBB)
  have HS4:=hide (HS2.out.keep HBB)
  have HZ4:Hid (w.heap.size+2≤(w3.alloc (.cells z.cells.toArray 72)).heap.size):=Nat.le_trans HZ2.out HBB.size
  have HSTO:=hide (Zck z w3)
  have HZE:=hide hz
  have HX4:=hide (SxBlk.new w3 z)
  generalize hW4:w3.alloc (.cells z.cells.toArray 72)=W4 at *
  clear hf hb hz HB4 HBB HFI hW4
  cases hq:S.find? (inB (b1,b2)) with
  | none =>
   have HD:Hid (layH (lfs L) (b1,b2) r false []=⟨lfs L,3⟩):=ZeJ (by rw [ZdS HRW.out,hq];rfl)
   have HC4:=hide (HCO.out W4 HW4.out)
   rw [show (none:Option Sx).isSome=false from rfl]
   clear hq HCO HWI HX4 HZE
   go_wp2_with (first | refine Zac _ rfl rfl 72 (.tmp 12) (.tmp 28) rfl (.pointer (some ⟨w3.heap.size,0,none⟩)) _ rfl rfl W4 HSTO.out ?_)
   refine HC4.out.mono ?_
   rintro e w9 ⟨⟨a9,n9,c9⟩,M,rfl,hI⟩
   have HI:=hide hI
   clear hI HC4
   unfold Sl.val
   simp only
   go_wp2_with fail
   go_ret2
   rw [HD.out]
   exact⟨Zad HW4.out HI.out.below,⟨a9,n9,c9⟩,M,rfl,HI.out.gl,HI.out.lf⟩
  | some y =>
   have hyb:=ZkV (List.find?_some hq)
   have hyS:=List.mem_of_find?_eq_some hq
   obtain⟨hi1,hi2,hi3⟩:=Zor HRW.out hyS
   rw [Prod.mk.injEq] at hyb
   obtain⟨rfl,rfl⟩:=hyb
   have hi:y.i<len:=by rw [Za4,HSL.out] at hi1;exact hi1
   have hget:getH (lfs L) ((y.i:Int),(y.k:Int))=some y.x.r:=by rw [ZdS HRW.out,hq];rfl
   have hzy:y=z:=by rw [HZE.out,hq];rfl
   subst hzy
   have hgood:Fl.key y.x.r.key=y.x.r.key:=(HGD.out y.hr (by rw [← HRW.out];exact List.mem_map_of_mem hyS)).key
   have hyf:y.x.r.key<18446744073709551616:=(HS4.out.fits y hyS).key
   have hcz:=Zgk hyf HRF.out.key
   have HCM:=hide (ZbX y.x.r.key r.key hyf HRF.out.key W4)
   obtain⟨c,hc⟩:∃c,c=cmp y.x.r.key r.key:=⟨_,rfl⟩
   rw [← hc] at HCM hcz
   have HCZ:=hide hcz
   have HGET:=hide hget
   have HGOOD:=hide hgood
   rw [show (some y:Option Sx).isSome=true from rfl]
   have x2:=HX4.out.c2
   have r0:=HR4.out.c0
   clear hq hyS hi2 hi3 hget hgood hyf hcz hc HZE HX4
   go_wp2_with (first | refine Zac _ rfl rfl 72 (.tmp 12) (.tmp 28) rfl (.pointer (some ⟨w3.heap.size,0,none⟩)) _ rfl rfl W4 HSTO.out ?_)
   refine HCM.out.mono ?_
   rintro e w5 ⟨rfl,hw⟩
   obtain rfl:=hw.symm
   clear hw HCM x2 r0
   by_cases hc0:c=0
   case neg =>
    have hc1:(c == 0)=false:=beq_eq_false_iff_ne.2 hc0
    have HD:=hide (Zbx (j:=false) (live:=[]) HGET.out (.inr (.inr (fun h:y.x.r.key=r.key=>by have:=HCZ.out;rw [hc1,h] at this;simp at this))))
    have HC4:=hide (HCO.out W4 HW4.out)
    clear HCK HRD HWI HCZ
    go_wp2_with fail
    refine HC4.out.mono ?_
    rintro e w9 ⟨⟨a9,n9,c9⟩,M,rfl,hI⟩
    have HI:=hide hI
    clear hI HC4
    unfold Sl.val
    simp only
    go_wp2_with fail
    go_ret2
    rw [HD.out]
    exact⟨Zad HW4.out HI.out.below,⟨a9,n9,c9⟩,M,rfl,HI.out.gl,HI.out.lf⟩
   subst hc0
   have r0:=HR4.out.c0
   have r1:=HR4.out.c1
   have r2:=HR4.out.c2
   have r3:=HR4.out.c3
   have r4:=HR4.out.c4
   have r5:=HR4.out.c5
   have HC4:=hide (HCK.out W4 HW4.out)
   cases hm:r.may with
   | false =>
    have HD:=hide (Zbx (j:=false) (live:=[]) HGET.out (.inl hm))
    rw [hm] at HC4
    unfold chk at HC4
    clear hm
    go_wp2_with fail
    refine HC4.out.mono ?_
    rintro e W8 ⟨rfl,hb⟩
    have HW8:=hide (Zad HW4.out hb)
    have HY8:=hide (HY4.out.keep hb)
    have HR8:=hide (HR4.out.keep hb)
    have HZ8:Hid (w.heap.size+2≤W8.heap.size):=Nat.le_trans HZ4.out hb.size
    clear hb HC4 r0 r1 r2 r3 r4 r5
    have HC4:=hide (HCO.out W8 HW8.out)
    go_wp2_with fail
    refine HC4.out.mono ?_
    rintro e w9 ⟨⟨a9,n9,c9⟩,M,rfl,hI⟩
    have HI:=hide hI
    clear hI HC4
    unfold Sl.val
    simp only
    go_wp2_with fail
    go_ret2
    rw [HD.out]
    exact⟨Zad HW8.out HI.out.below,⟨a9,n9,c9⟩,M,rfl,HI.out.gl,HI.out.lf⟩
   | true =>
    have HMY:=hide hm
    have HKEY:Hid (y.x.r.key=r.key):=by
     have h0:Fl.key y.x.r.key=Fl.key r.key:=beq_iff_eq.1 HCZ.out.symm
     rw [HGOOD.out,Zgx hm] at h0
     exact h0
    rw [hm] at HC4
    unfold chk at HC4
    clear hm
    go_wp2_with fail
    refine HC4.out.mono ?_
    rintro e W8 ⟨rfl,hb⟩
    have HW8:=hide (Zad HW4.out hb)
    have HY8:=hide (HY4.out.keep hb)
    have HR8:=hide (HR4.out.keep hb)
    have HZ8:Hid (w.heap.size+2≤W8.heap.size):=Nat.le_trans HZ4.out hb.size
    clear hb HC4 r0 r1 r2 r3 r4 r5
    have hgw:=HG.out.below HW8.out (Nat.le_refl _)
    obtain⟨bb,off,ha,c0,c1⟩:=hgw.cell y.i hi
    replace ha:a=some ⟨bb,off,none⟩:=ha
    subst ha
    have hit:=hgw.at (i:=y.i) hi
    have hlf:=Zbt L y.i
    have hmay:=HM.out.leaf _ (Zbe hi1)
    obtain⟨x,hx⟩:∃x,x=L.getD y.i Lb.zero:=⟨_,rfl⟩
    rw [← hx] at c0 c1 hit hlf
    rw [hlf] at hmay
    have HLF:=hide hlf
    have HMAY:Hid (MayL ⟨x.t,bss x.l⟩):=hmay
    have HLD:=hide (Za5 c0 c1)
    have HR0:=hide (HRD.out W8 x HW8.out hit.1 hit.2 hmay)
    have y0:=HY8.out.c0
    have y1:=HY8.out.c1
    simp only at y0 y1
    clear hgw hit hlf hmay hx c0 c1 HRD HCK
    obtain⟨⟨xua,xun,xuc⟩,⟨xva,xvn,xvc⟩,xt,xl⟩:=x
    unfold lfV Sl.val at HLD HR0
    simp only at HLD HR0 HMAY
    go_wp2_with (first | refine Zau _ rfl 67 (.tmp 53) rfl (.pointer (some ⟨bb,off+y.i*2,none⟩)) _ rfl HLD.out ?_)
    refine HR0.out.mono ?_
    rintro e w10 ⟨hb10,u7,v7,l7,rfl,hgi7,hgb7,hl7⟩
    have hKA:=Zaj w10 (Sl.val Sl.nil) (Sl.val Sl.nil)
    have hBA:=Zaa w10 (.cells #[.slice none 0 0,.slice none 0 0] 67)
    obtain⟨W11,hst,hk11,hf11⟩:=ZaN (w10.alloc (.cells #[.slice none 0 0,.slice none 0 0] 67)) w10.heap.size _ _ hKA u7 v7
    have hB11:Below w10.heap.size w10 W11:=hBA.trans (hf11.below hBA.size (fun k hk=>by rw [hk];exact Nat.le_refl _))
    have hnw:∀k,True→k<w10.heap.size→Ap w10.heap.size k:=fun k _ hk e=>by rw [e] at hk;exact Nat.lt_irrefl _ hk
    have HGI:=hide (((hgi7.mono hnw).below hBA (Nat.le_refl _)).keep (Kept.frm hf11 (fun _ h e=>h e)))
    have HGB:=hide (((hgb7.mono hnw).below hBA (Nat.le_refl _)).keep (Kept.frm hf11 (fun _ h e=>h e)))
    have hB8:=Zad hb10 hB11
    have HW11:=hide (Zad HW8.out hB8)
    have HY11:=hide (HY8.out.keep hB8)
    have HR11:=hide (HR8.out.keep hB8)
    have HZ11:Hid (w.heap.size+2≤w10.heap.size):=Nat.le_trans HZ8.out hb10.size
    have HST:=hide hst
    have HK11:=hide hk11
    have HL7:=hide hl7
    have HITL:Hid ((lf (lfs L) y.i).itl=xt):=by show _=_;rw [HLF.out];rfl
    clear hb10 hgi7 hgb7 hl7 hKA hBA hst hk11 hf11 hB11 hnw hB8 HR0 y0 y1
    obtain⟨u7a,u7n,u7c⟩:=u7
    obtain⟨v7a,v7n,v7c⟩:=v7
    unfold mk2
    unfold lfV Sl.val at HST
    simp only at HST ⊢
    have HD:=hide (Zgy (j:=false) (live:=[]) HGET.out (by rintro (h1 | h1 | h1);rw [HMY.out] at h1;cases h1;cases h1.1;exact h1 HKEY.out) (fun h1=>by cases h1.1))
    go_upto_region 12 with (first | refine Zac _ rfl rfl 67 (.tmp 14) (.tmp 56) rfl (.pointer (some ⟨w10.heap.size,0,none⟩)) _ rfl rfl W11 HST.out ?_)
    refine Pl.q9 (ops:=Pl.find 12 ((Tryz.f53.body).getD .skip)) ?_
    refine Znm W11 w10.heap.size (w.heap.size+1) w.heap.size ⟨u7a,u7n,u7c⟩ ⟨v7a,v7n,v7c⟩ xt l7 HK11.out HGI.out HGB.out (by rw [HL7.out];exact HMAY.out) r ra rn rc HR11.out (by have:=HZ11.out;omega) (y.i:Int) (y.k:Int) HY11.out (by have:=HZ11.out;omega) (HFR.out.keep HW11.out (Nat.le_refl _)) HRF.out HMY.out (by rfl) (by rfl) (by rfl) (by rfl) (by rfl) ?_
    intro q8 u8 v8 l8 W12 hk8 hgi8 hgb8 hl8 hf8
    simp only [Act.put,List.setIfInBounds_toArray,List.set_cons_zero,List.set_cons_succ]
    have HW12:Hid (Below w.heap.size w W12):=HW11.out.trans (hf8.below HW11.out.size (fun k hk=>by rw [hk];have:=HZ11.out;omega))
    have hY12:BtBlk W12 w.heap.size ((y.i:Int),(y.k:Int)):=(hf8.block _ HY11.out.lt (by have:=HZ11.out;omega)).trans HY11.out
    have HWX:=hide (HWI.out W12 HW12.out y.i hi ⟨u8,v8,xt,l8⟩ (hgi8.wide (fun _ _=>trivial)) (hgb8.wide (fun _ _=>trivial)))
    have k0:=hk8.c0
    have k1:=hk8.c1
    have y0:=hY12.c0
    have y1:=hY12.c1
    have HL8:Hid (bss l8=(setA (bss xl) (y.k:Int) (hpB r)).s):=by show _=_;rw [hl8,HL7.out]
    clear hk8 hgi8 hgb8 hl8 hf8 hY12 HWI HCO
    obtain⟨u8a,u8n,u8c⟩:=u8
    obtain⟨v8a,v8n,v8c⟩:=v8
    unfold lfV Sl.val at HWX
    unfold Sl.val at k0 k1
    simp only at HWX k0 k1 y0 y1
    go_wp2_with fail
    refine HWX.out.mono ?_
    rintro e w13 ⟨hb13,⟨a5,n5,c5⟩,M,rfl,hgl,hM⟩
    have HB13:=hide (Zad HW12.out hb13)
    have HGL:=hide hgl
    have HLM:=hide hM
    clear hb13 hgl hM HWX
    go_wp2_with fail
    go_ret2
    refine⟨HB13.out,⟨a5,n5,c5⟩,M,?_,HGL.out,?_⟩
    · rw [HD.out];rfl
    · rw [HLM.out,HD.out]
      show (lfs L).set y.i ⟨xt,bss l8⟩=(lfs L).set ((y.i:Int)).toNat (layL (lf (lfs L) ((y.i:Int)).toNat) (y.k:Int) r false [])
      rw [Int.toNat_natCast,HLF.out,HL8.out]
      rfl
theorem Zf8 (w:World)(s:Sl)(L:List Lb)(h:Gl (fun _=>True) w s L)(hM:¬MayH (lfs L))(b:Bt)(r:Rw)(ra:Option Addr)(rn rc:Nat)(fv:Value) :
    Calls Tryz.prog 53 #[s.val,btV b,r.val (.slice ra rn rc),fv] w (ZaJ w ⟨[],1⟩):=by
  have hsf:∀(w:World) (a:Addr) (m:Mode) (x:Nat),(store a (.float .f64 x) m).run Tryz.prog w=stored Tryz.prog w a (.float .f64 x) m:=fun w a m x=>run_store Tryz.prog w a _ m rfl
  have HW0:=hide (Zad (Zaa w (.cells #[.int .i64 b.1,.int .i64 b.2] 26)) (Zaa (w.alloc (.cells #[.int .i64 b.1,.int .i64 b.2] 26)) (.cells #[.float .f64 r.key,.bool r.dead,.slice ra rn rc,.int .i64 r.wr,.int .i64 r.cell,.int .i64 r.no] 33)))
  have HO:=hide (Zbz _ s L (h.below HW0.out (Nat.le_refl _)))
  have HM:=hide hM
  obtain⟨a,len,cap⟩:=s
  clear h hM
  obtain⟨b1,b2⟩:=b
  unfold Sl.val btV Rw.val at *
  simp only at *
  go_enter Tryz.func53,Tryz.ntmps53
  go_wp2_with fail
  generalize (w.alloc (.cells #[.int .i64 b1,.int .i64 b2] 26)).alloc (.cells #[.float .f64 r.key,.bool r.dead,.slice ra rn rc,.int .i64 r.wr,.int .i64 r.cell,.int .i64 r.no] 33)=W0 at *
  refine HO.out.mono ?_
  intro e w1 ho
  obtain⟨⟨sa,sn,sc⟩,S,k,rfl,hs,hk⟩:=ho.one
  rcases hk with ⟨hm,_,_⟩ | ⟨hm,rfl,hr⟩
  case inl=>exact absurd hm HM.out
  have HN:Hid (ZaJ w ⟨[],1⟩ (.returned (.tuple #[.slice none 0 0,.int .i64 1])) w1):=⟨Zad HW0.out hs.below,⟨none,0,0⟩,[],rfl,ZhP _,rfl⟩
  clear ho hs hm hr HO HM
  unfold Sl.val
  simp only
  go_wp2_with fail
  go_ret2
  exact HN.out
def ZbS (w : World) (l : List Lf) (b : Bt) (r : Rw) (j : Bool) (live : List Int) (e : Ending) (w' : World) : Prop := (MayH l ∧ ZaJ w (layH l b r j live) e w') ∨ (¬ MayH l ∧ ZaJ w ⟨[], 1⟩ e w')
theorem ZbS.one {w w0 : World} {l : List Lf} {b : Bt} {r : Rw} {j : Bool} {live : List Int} {e : Ending} {w' : World} (h : ZbS w0 l b r j live e w') (hb : Below w.heap.size w w0) : ∃ (s' : Sl) (k : Int), e = .returned (.tuple #[.slice s'.a s'.len s'.cap, .int .i64 k]) ∧ ZbS w l b r j live e w' := by
  rcases h with ⟨hm, h1, s', L', he, h2, h3⟩ | ⟨hm, h1, s', L', he, h2, h3⟩
  · exact ⟨s', _, he, .inl ⟨hm, Zad hb h1, s', L', he, h2, h3⟩⟩
  · exact ⟨s', _, he, .inr ⟨hm, Zad hb h1, s', L', he, h2, h3⟩⟩
theorem ZnG (w : World) (s : Sl) (L : List Lb) (h : Gl (fun _ => True) w s L) (b : Bt) (r : Rw) (ra : Option Addr) (rn rc : Nat) (hr : Fs w ra rn rc r.xs) (hrf : r.fits) (pb qb : Nat) (hp : RwBlk w pb r (.slice ra rn rc)) (lv : Sl) (live : List Int) (hq0 : NsBlk w qb lv) (hl : Gi (fun _ => True) w lv live) :
    Calls Tryz.prog 53 #[s.val, btV b, r.val (.slice ra rn rc), .func (.func 54) #[] #[.pointer (some ⟨pb, 0, none⟩), .pointer (some ⟨qb, 0, none⟩)]] w (ZbS w (lfs L) b r true live) := by
  by_cases hm : MayH (lfs L)
  · exact (Zj9 w s L h hm b r ra rn rc hr hrf pb qb hp lv live hq0 hl).mono fun e w' he => .inl ⟨hm, he⟩
  · exact (Zf8 w s L h hm b r ra rn rc _).mono fun e w' he => .inr ⟨hm, he⟩
theorem ZnF (w : World) (s : Sl) (L : List Lb) (h : Gl (fun _ => True) w s L) (b : Bt) (r : Rw) (ra : Option Addr) (rn rc : Nat) (hr : Fs w ra rn rc r.xs) (hrf : r.fits) :
    Calls Tryz.prog 53 #[s.val, btV b, r.val (.slice ra rn rc), .func (.func 55) #[] #[]] w (ZbS w (lfs L) b r false []) := by
  by_cases hm : MayH (lfs L)
  · exact (Zj8 w s L h hm b r ra rn rc hr hrf).mono fun e w' he => .inl ⟨hm, he⟩
  · exact (Zf8 w s L h hm b r ra rn rc _).mono fun e w' he => .inr ⟨hm, he⟩
theorem Zf6 (w:World)(s:Sl)(L:List Lb)(h:Gl (fun _=>True) w s L)(b:Bt)(r:Rw)(ra:Option Addr)(rn rc:Nat)(hr:Fs w ra rn rc r.xs)(hrf:r.fits)(lv:Sl)(live:List Int)(hl:Gi (fun _=>True) w lv live) :
    Calls Tryz.prog 21 #[s.val,btV b,r.val (.slice ra rn rc),lv.val] w (ZbS w (lfs L) b r true live):=by
  have hsf:∀(w:World) (a:Addr) (m:Mode) (x:Nat),(store a (.float .f64 x) m).run Tryz.prog w=stored Tryz.prog w a (.float .f64 x) m:=fun w a m x=>run_store Tryz.prog w a _ m rfl
  have hA1:=Zaa w (.cells #[.int .i64 b.1,.int .i64 b.2] 26)
  have hA2:=Zaa (w.alloc (.cells #[.int .i64 b.1,.int .i64 b.2] 26)) (.cells #[.float .f64 r.key,.bool r.dead,.slice ra rn rc,.int .i64 r.wr,.int .i64 r.cell,.int .i64 r.no] 33)
  have hA3:=Zaa ((w.alloc (.cells #[.int .i64 b.1,.int .i64 b.2] 26)).alloc (.cells #[.float .f64 r.key,.bool r.dead,.slice ra rn rc,.int .i64 r.wr,.int .i64 r.cell,.int .i64 r.no] 33)) (.cells #[lv.val] 46)
  have hY:BtBlk (((w.alloc (.cells #[.int .i64 b.1,.int .i64 b.2] 26)).alloc (.cells #[.float .f64 r.key,.bool r.dead,.slice ra rn rc,.int .i64 r.wr,.int .i64 r.cell,.int .i64 r.no] 33)).alloc (.cells #[lv.val] 46)) w.heap.size b:=(Zaw w b).keep (Zad hA2 hA3)
  have hR:RwBlk (((w.alloc (.cells #[.int .i64 b.1,.int .i64 b.2] 26)).alloc (.cells #[.float .f64 r.key,.bool r.dead,.slice ra rn rc,.int .i64 r.wr,.int .i64 r.cell,.int .i64 r.no] 33)).alloc (.cells #[lv.val] 46)) (w.heap.size+1) r (.slice ra rn rc):=by
   have:=Zak (w.alloc (.cells #[.int .i64 b.1,.int .i64 b.2] 26)) r (.slice ra rn rc)
   rw [Zae] at this
   exact this.keep hA3
  have hQ:NsBlk (((w.alloc (.cells #[.int .i64 b.1,.int .i64 b.2] 26)).alloc (.cells #[.float .f64 r.key,.bool r.dead,.slice ra rn rc,.int .i64 r.wr,.int .i64 r.cell,.int .i64 r.no] 33)).alloc (.cells #[lv.val] 46)) (w.heap.size+2) lv:=by
   have:NsBlk (((w.alloc (.cells #[.int .i64 b.1,.int .i64 b.2] 26)).alloc (.cells #[.float .f64 r.key,.bool r.dead,.slice ra rn rc,.int .i64 r.wr,.int .i64 r.cell,.int .i64 r.no] 33)).alloc (.cells #[lv.val] 46)) (((w.alloc (.cells #[.int .i64 b.1,.int .i64 b.2] 26)).alloc (.cells #[.float .f64 r.key,.bool r.dead,.slice ra rn rc,.int .i64 r.wr,.int .i64 r.cell,.int .i64 r.no] 33)).heap.size) lv:=heap_alloc_new _ _
   rw [Zae,Zae] at this
   exact this
  have hW:=Zad hA1 (Zad hA2 hA3)
  have HW:=hide hW
  have HL:=hide (ZnG _ s L (h.below hW (Nat.le_refl _)) b r ra rn rc (hr.keep hW (Nat.le_refl _)) hrf (w.heap.size+1) (w.heap.size+2) hR lv live hQ (hl.below hW (Nat.le_refl _)))
  have y0:=hY.c0
  have y1:=hY.c1
  have r0:=hR.c0
  have r1:=hR.c1
  have r2:=hR.c2
  have r3:=hR.c3
  have r4:=hR.c4
  have r5:=hR.c5
  obtain⟨a,len,cap⟩:=s
  clear h hr hrf hA1 hA2 hY hR hW hA3 hl hQ
  obtain⟨b1,b2⟩:=b
  obtain⟨la,ln,lc⟩:=lv
  unfold Sl.val btV Rw.val at *
  simp only at *
  go_enter Tryz.func21,Tryz.ntmps21
  go_wp2_with fail
  generalize ((w.alloc (.cells #[.int .i64 b1,.int .i64 b2] 26)).alloc (.cells #[.float .f64 r.key,.bool r.dead,.slice ra rn rc,.int .i64 r.wr,.int .i64 r.cell,.int .i64 r.no] 33)).alloc (.cells #[.slice la ln lc] 46)=W0 at *
  refine HL.out.mono ?_
  intro e w1 hs
  obtain⟨⟨sa,sn,sc⟩,k,rfl,hz⟩:=hs.one HW.out
  have HZ:=hide hz
  clear hs hz HL HW
  go_wp2_with fail
  go_ret2
  exact HZ.out
theorem Zf5 (w:World)(s:Sl)(L:List Lb)(h:Gl (fun _=>True) w s L)(b:Bt)(r:Rw)(ra:Option Addr)(rn rc:Nat)(hr:Fs w ra rn rc r.xs)(hrf:r.fits) :
    Calls Tryz.prog 22 #[s.val,btV b,r.val (.slice ra rn rc)] w (ZbS w (lfs L) b r false []):=by
  have hsf:∀(w:World) (a:Addr) (m:Mode) (x:Nat),(store a (.float .f64 x) m).run Tryz.prog w=stored Tryz.prog w a (.float .f64 x) m:=fun w a m x=>run_store Tryz.prog w a _ m rfl
  have hA1:=Zaa w (.cells #[.int .i64 b.1,.int .i64 b.2] 26)
  have hA2:=Zaa (w.alloc (.cells #[.int .i64 b.1,.int .i64 b.2] 26)) (.cells #[.float .f64 r.key,.bool r.dead,.slice ra rn rc,.int .i64 r.wr,.int .i64 r.cell,.int .i64 r.no] 33)
  have hY:BtBlk ((w.alloc (.cells #[.int .i64 b.1,.int .i64 b.2] 26)).alloc (.cells #[.float .f64 r.key,.bool r.dead,.slice ra rn rc,.int .i64 r.wr,.int .i64 r.cell,.int .i64 r.no] 33)) w.heap.size b:=(Zaw w b).keep hA2
  have hR:RwBlk ((w.alloc (.cells #[.int .i64 b.1,.int .i64 b.2] 26)).alloc (.cells #[.float .f64 r.key,.bool r.dead,.slice ra rn rc,.int .i64 r.wr,.int .i64 r.cell,.int .i64 r.no] 33)) (w.heap.size+1) r (.slice ra rn rc):=by
   have:=Zak (w.alloc (.cells #[.int .i64 b.1,.int .i64 b.2] 26)) r (.slice ra rn rc)
   rw [Zae] at this
   exact this
  have hW:=Zad hA1 hA2
  have HW:=hide hW
  have HL:=hide (ZnF _ s L (h.below hW (Nat.le_refl _)) b r ra rn rc (hr.keep hW (Nat.le_refl _)) hrf)
  have y0:=hY.c0
  have y1:=hY.c1
  have r0:=hR.c0
  have r1:=hR.c1
  have r2:=hR.c2
  have r3:=hR.c3
  have r4:=hR.c4
  have r5:=hR.c5
  obtain⟨a,len,cap⟩:=s
  clear h hr hrf hA1 hA2 hY hR hW 
  obtain⟨b1,b2⟩:=b
  unfold Sl.val btV Rw.val at *
  simp only at *
  go_enter Tryz.func22,Tryz.ntmps22
  go_wp2_with fail
  generalize (w.alloc (.cells #[.int .i64 b1,.int .i64 b2] 26)).alloc (.cells #[.float .f64 r.key,.bool r.dead,.slice ra rn rc,.int .i64 r.wr,.int .i64 r.cell,.int .i64 r.no] 33)=W0 at *
  refine HL.out.mono ?_
  intro e w1 hs
  obtain⟨⟨sa,sn,sc⟩,k,rfl,hz⟩:=hs.one HW.out
  have HZ:=hide hz
  clear hs hz HL HW
  go_wp2_with fail
  go_ret2
  exact HZ.out
theorem ZnB : Znv True where
  check := Zj3
  find := fun w s L key h hk hm => ZkM w s L key h hk hm
  findN := fun w s L key h hk hm => ZkN w s L key h hk hm
  get := fun w s L b h hm => Zmt w s L b h hm
  getN := fun w s L b h hm => Zmu w s L b h hm
  rows := fun w s L lo hi h hl hh hm => (ZgY w s L h lo hi hl hh).mono fun e w' hr => by
    rcases hr with ⟨_, hr⟩ | ⟨hn, _⟩
    · exact hr
    · exact absurd hm hn
  rowsN := fun w s L lo hi h hl hh hm => (ZgY w s L h lo hi hl hh).mono fun e w' hr => by
    rcases hr with ⟨hn, _⟩ | ⟨_, hr⟩
    · exact absurd hn hm
    · exact hr
  put := fun w s L r ra rn rc lv live h hf hr hl hm => (ZgZ w s L h r ra rn rc hf hr lv live hl).mono fun e w' hp => by
    rcases hp with ⟨_, hp⟩ | ⟨hn, _⟩
    · exact hp
    · exact absurd hm hn
  putN := fun w s L r ra rn rc lv live h hf hr hl hm => (ZgZ w s L h r ra rn rc hf hr lv live hl).mono fun e w' hp => by
    rcases hp with ⟨hn, _⟩ | ⟨_, hp⟩
    · exact absurd hn hm
    · exact hp
  set := fun _ w s L b r ra rn rc lv live h hf hr hl hm => (Zf6 w s L h b r ra rn rc hf hr lv live hl).mono fun e w' hp => by
    rcases hp with ⟨_, hp⟩ | ⟨hn, _⟩
    · exact hp
    · exact absurd hm hn
  setN := fun _ w s L b r ra rn rc lv live h hf hr hl hm => (Zf6 w s L h b r ra rn rc hf hr lv live hl).mono fun e w' hp => by
    rcases hp with ⟨hn, _⟩ | ⟨_, hp⟩
    · exact absurd hn hm
    · exact hp
  lay := fun _ w s L b r ra rn rc h hf hr hm => (Zf5 w s L h b r ra rn rc hf hr).mono fun e w' hp => by
    rcases hp with ⟨_, hp⟩ | ⟨hn, _⟩
    · exact hp
    · exact absurd hm hn
  layN := fun _ w s L b r ra rn rc h hf hr hm => (Zf5 w s L h b r ra rn rc hf hr).mono fun e w' hp => by
    rcases hp with ⟨hn, _⟩ | ⟨_, hp⟩
    · exact absurd hn hm
    · exact hp
  drop := fun w s L b h hm => (Zf7 w s L b h).mono fun e w' hp => by
    rcases hp with ⟨_, hp⟩ | ⟨hn, _⟩
    · exact hp
    · exact absurd hm hn
  dropN := fun w s L b h hm => (Zf7 w s L b h).mono fun e w' hp => by
    rcases hp with ⟨hn, _⟩ | ⟨_, hp⟩
    · exact absurd hn hm
    · exact hp
end Go.Proofs.YtdojdcncncgncaaGreat
