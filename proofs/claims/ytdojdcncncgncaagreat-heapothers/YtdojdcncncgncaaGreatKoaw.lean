/-
  Lemmas.
-/
import Derived.Test.YtdojdcncncgncaaGreatKoav
import Derived.Test.YtdojdcncncgncaaGreatKoar
import Derived.Test.YtdojdcncncgncaaGreatKoas
import Derived.Test.YtdojdcncncgncaaGreatKoam
namespace Go.Proofs.YtdojdcncncgncaaGreat
open Go.RowKit
set_option linter.unusedVariables false
set_option maxRecDepth 100000
set_option maxHeartbeats 4000000
variable {xs:List Nat}{w:World}{k:Nat}{A:Act}
theorem ZhV.told {w':World}{t:List Int}{l:List Sb}{e:Ending}(h:ZhV w t l e w')(ht:t.length≤1000000)(hl:l.length≤1000):Told w t (bss l) (fun x=>x) e w':=by
 obtain⟨hb,u',v',l',he,lw,hbs⟩:=h
 exact⟨hb,u',v',l',he,(lw.gi ht).wide (fun k hk=>by omega),(lw.gb (by rw [bss_len hbs];exact hl)).wide (fun k hk=>by omega),hbs⟩
theorem Told.relay {w1 w2:World}{x y:Value}{t:List Int}{s:List (List Nat)}{mk:Value→Value}{en:Ending}(h:Told w1 t s mk en w2)(k2:LfBlk w1 (w.heap.size+1) x y)(e:Below w.heap.size w w1) :
    ∃(a2:Option Addr) (n2 c2:Nat) (a5:Option Addr) (n5 c5:Nat) (W9:World),en=.returned (mk (lfV ⟨a2,n2,c2⟩ ⟨a5,n5,c5⟩))∧(Instr.storeAt 67 (.pointer (some ⟨w.heap.size+1,0,none⟩)) (lfV ⟨a2,n2,c2⟩ ⟨a5,n5,c5⟩)).run Tryz.prog w2=.ok () W9∧LfBlk W9 (w.heap.size+1) (Sl.val ⟨a2,n2,c2⟩) (Sl.val ⟨a5,n5,c5⟩)∧∀mk',Told w t s mk' (.returned (mk' (lfV ⟨a2,n2,c2⟩ ⟨a5,n5,c5⟩))) W9:=by
  obtain⟨hb,⟨a2,n2,c2⟩,⟨a5,n5,c5⟩,l',he,gi,gb,hbs⟩:=h
  have hw:w.heap.size+2≤w1.heap.size:=by have:=k2.lt;omega
  obtain⟨W9,hst,k9,hf⟩:=Zfj (k2.below hb) (Zac e hb) (gi.wide (fun k hk=>Nat.le_trans hw hk)) (gb.wide (fun k hk=>Nat.le_trans hw hk))
  rw [hbs] at hf
  exact⟨a2,n2,c2,a5,n5,c5,W9,he,hst,k9,hf⟩
theorem Zi1 {s : List (List Nat)} {k : Nat} {r : List Nat} (hk : k < s.length) : layS s k r = s.set k r := by unfold layS; rw [if_neg (by omega)]
def mk3 (i c : Int) (x : Value) : Value := .tuple #[x, .int .i64 i, .int .i64 c]
theorem Zon {D:Nat→Prop}(w:World)(u v:Sl)(t:List Int)(l:List Sb)(hi:Gi D w u t)(hg:Gb D w v l)(hm:MayL ⟨t,bss l⟩)(i:Int)(x:Sb)(X:Ans)(hX3:Zax (bss l) i=false→X=⟨bss l,3⟩)(hX1:Zax (bss l) i=true→Zbg x.s.len=false→X=⟨bss l,1⟩)
    (hXL:Zbg x.s.len=true→Zax (bss l) i=true→∃k:Nat,i=(k:Int)∧∀W,Below w.heap.size w W→Calls Tryz.prog 101 #[lfV u v,.int .i64 (k:Int),x.s.val] W fun e w'=>Told W t X.s (mk2 X.e) e w') :
    Calls Tryz.prog 103 #[lfV u v,.int .i64 i,x.s.val] w fun e w'=>Told w t X.s (mk2 X.e) e w':=by
  have hT:=Tb.start u hg
  have HT:=hide hT
  have HCK:=hide (Zcb _ u v t l (hi.below hT.e (Nat.le_refl _)) hT.g hm)
  have HCP:Hid (∀W,Below w.heap.size w W→_):=fun W hW=>(Zb5 W u v t l (hi.below hW (Nat.le_refl _)) (hg.below hW (Nat.le_refl _))).mono (fun e w' h=>h.told (by have:=hm.itl.1;simp only at this;omega) (by have:=hg.len;have:=hg.big;omega))
  have HST:Hid (∀W,Below w.heap.size w W→_):=fun W hW=>ZfA W u v l (hg.below hW (Nat.le_refl _)) i
  have HRW:=hide (fun W=>ZgF W x.s)
  have HX3:=hide hX3
  have HX1:=hide hX1
  have HXL:=hide hXL
  clear hT hi hg hm hX3 hX1 hXL
  obtain⟨a,len,cap⟩:=v
  obtain⟨ua,ul,uc⟩:=u
  obtain⟨⟨xa,xl,xc⟩,xs⟩:=x
  unfold lfV Sl.val at *
  simp only at *
  go_enter Tryz.func103,Tryz.ntmps103
  go_wp2_with fail
  refine HCK.out.mono ?_
  rintro e w1 ⟨rfl,hb⟩
  have T1:=HT.out.below hb
  have c0:=T1.k1.c0
  have c1:=T1.k1.c1
  have HT1:=hide T1
  clear hb T1 HT HCK
  unfold Sl.val at *
  simp only at *
  go_wp2_with fail
  refine(HST.out w1 HT1.out.e).mono ?_
  rintro e w2 ⟨rfl,hb⟩
  have T2:=HT1.out.below hb
  have c0:=T2.k1.c0
  have c1:=T2.k1.c1
  have HT2:=hide T2
  clear hb T2 HT1 HST
  unfold Sl.val at *
  simp only at *
  cases hsb:Zax (bss l) i with
  | false =>
   have HXE:=hide (HX3.out hsb)
   clear HX3 HX1 HXL hsb
   go_wp2_with fail
   refine(HCP.out w2 HT2.out.e).mono ?_
   rintro e w5 htd
   obtain⟨a2,n2,c2,a5,n5,c5,W9,rfl,hst9,k9,hf9⟩:=Told.relay htd HT2.out.k2 HT2.out.e
   have HST9:=hide hst9
   have HK9:=hide k9
   have HF:Hid (Told w t X.s (mk2 X.e) (.returned (mk2 3 (lfV ⟨a2,n2,c2⟩ ⟨a5,n5,c5⟩))) W9):=by rw [HXE.out];exact hf9 _
   clear hst9 k9 hf9 htd HXE HCP
   unfold lfV Sl.val at *
   simp only at *
   go_wp2_with (refine Zab _ rfl rfl 67 (.tmp 6) (.tmp 20) rfl (.pointer (some ⟨w.heap.size+1,0,none⟩)) (.agg #[.slice a2 n2 c2,.slice a5 n5 c5]) rfl rfl W9 HST9.out ?_)
   refine bodyPost_ret (Zan (u:=⟨a2,n2,c2⟩) (v:=⟨a5,n5,c5⟩) rfl HK9.out _ rfl rfl) rfl ?_
   exact HF.out
  | true =>
   go_wp2_with fail
   refine(HRW.out w2).mono ?_
   rintro e w3 ⟨rfl,hw⟩
   obtain rfl:=hw
   cases hrb:Zbg xl with
   | false =>
    have HXE:=hide (HX1.out hsb hrb)
    clear HX3 HX1 HXL hsb hrb
    go_wp2_with fail
    refine(HCP.out w3 HT2.out.e).mono ?_
    rintro e w5 htd
    obtain⟨a2,n2,c2,a5,n5,c5,W9,rfl,hst9,k9,hf9⟩:=Told.relay htd HT2.out.k2 HT2.out.e
    have HST9:=hide hst9
    have HK9:=hide k9
    have HF:Hid (Told w t X.s (mk2 X.e) (.returned (mk2 1 (lfV ⟨a2,n2,c2⟩ ⟨a5,n5,c5⟩))) W9):=by rw [HXE.out];exact hf9 _
    clear hst9 k9 hf9 htd HXE HCP
    unfold lfV Sl.val at *
    simp only at *
    go_wp2_with (refine Zab _ rfl rfl 67 (.tmp 6) (.tmp 25) rfl (.pointer (some ⟨w.heap.size+1,0,none⟩)) (.agg #[.slice a2 n2 c2,.slice a5 n5 c5]) rfl rfl W9 HST9.out ?_)
    refine bodyPost_ret (Zan (u:=⟨a2,n2,c2⟩) (v:=⟨a5,n5,c5⟩) rfl HK9.out _ rfl rfl) rfl ?_
    exact HF.out
   | true =>
    obtain⟨k,rfl,hlay⟩:=HXL.out hrb hsb
    have HLY:=hide (hlay w3 HT2.out.e)
    clear HX3 HX1 HXL hsb hrb hlay HCP
    go_wp2_with fail
    refine HLY.out.mono ?_
    rintro e w5 htd
    obtain⟨a2,n2,c2,a5,n5,c5,W9,rfl,hst9,k9,hf9⟩:=Told.relay htd HT2.out.k2 HT2.out.e
    have HST9:=hide hst9
    have HK9:=hide k9
    have HF:Hid (Told w t X.s (mk2 X.e) (.returned (mk2 X.e (lfV ⟨a2,n2,c2⟩ ⟨a5,n5,c5⟩))) W9):=hf9 _
    clear hst9 k9 hf9 htd HLY
    unfold lfV Sl.val mk2 at *
    simp only at *
    go_wp2_with (refine Zab _ rfl rfl 67 (.tmp 6) (.tmp 30) rfl (.pointer (some ⟨w.heap.size+1,0,none⟩)) (.agg #[.slice a2 n2 c2,.slice a5 n5 c5]) rfl rfl W9 HST9.out ?_)
    refine bodyPost_ret (Zan (u:=⟨a2,n2,c2⟩) (v:=⟨a5,n5,c5⟩) rfl HK9.out _ rfl rfl) rfl ?_
    exact HF.out
theorem Zlc {D:Nat→Prop}(w:World)(u v:Sl)(t:List Int)(l:List Sb)(hi:Gi D w u t)(hg:Gb D w v l)(hm:MayL ⟨t,bss l⟩)(i:Int)(x:Sb)(hx:Cm D w x.s x.bs) :
    Calls Tryz.prog 103 #[lfV u v,.int .i64 i,x.s.val] w fun e w'=>Told w t (setA (bss l) i x.bs).s (mk2 (setA (bss l) i x.bs).e) e w':=by
  have hxl:=hx.len
  refine Zon w u v t l hi hg hm i x _ (fun h=>ZkZ h) (fun h h1=>Zmn h ?_) (fun h1 h=>?_)
  · unfold Zbg at h1
    simp only [Bool.and_eq_false_iff,decide_eq_false_iff_not] at h1
    omega
  · unfold Zbg at h1
    simp only [Bool.and_eq_true,decide_eq_true_eq] at h1
    obtain⟨k,rfl,hk⟩:=Zf9 h
    refine⟨k,rfl,fun W hW=>Zh6 W u v t l (hi.below hW (Nat.le_refl _)) (hg.below hW (Nat.le_refl _)) hm k (by rw [Zah,hg.len] at hk;omega) x (hx.keep (Kept.all hW (Nat.le_refl _))) (by omega) _ (fun h3=>?_) (fun h3=>?_)⟩
    · rw [Zi1 hk] at h3 ⊢
      refine Zla h (by omega) (by omega) ?_
      have:=h3.need
      rw [Int.toNat_natCast]
      simp only at this
      omega
    · rw [Zi1 hk] at h3
      refine Zlb h (by omega) (by omega) ?_
      rw [Int.toNat_natCast]
      rcases Nat.lt_or_ge 508 (need ((bss l).set k x.bs)) with h4 | h4
      · exact h4
      · exact absurd ⟨hm.itl,hm.slots.set hk (by omega) (by omega),h4⟩ h3
theorem ZmP {D:Nat→Prop}(w:World)(u v:Sl)(t:List Int)(l:List Sb)(hi:Gi D w u t)(hg:Gb D w v l)(hm:MayL ⟨t,bss l⟩)(i:Int)(X:Ans)(hX3:Zax (bss l) i=false→X=⟨bss l,3⟩)(hX0:Zax (bss l) i=true→∃k:Nat,i=(k:Int)∧k<v.len∧X=⟨trim ((bss l).set k []),0⟩) :
    Calls Tryz.prog 56 #[lfV u v,.int .i64 i] w fun e w'=>Told w t X.s (mk2 X.e) e w':=by
  have hT:=Tb.start u hg
  have HT:=hide hT
  have HCK:=hide (Zcb _ u v t l (hi.below hT.e (Nat.le_refl _)) hT.g hm)
  have HCP:Hid (∀W,Below w.heap.size w W→_):=fun W hW=>Zb5 W u v t l (hi.below hW (Nat.le_refl _)) (hg.below hW (Nat.le_refl _))
  have HST:Hid (∀W,Below w.heap.size w W→_):=fun W hW=>ZfA W u v l (hg.below hW (Nat.le_refl _)) i
  have HTL:Hid (t.length=4):=hm.itl.1
  have HL:=hide hg.len
  have hlen:v.len≤64:=by have h1:=hm.slots.1;have h2:=hg.len;rw [Zah] at h1;omega
  have HX3:=hide hX3
  have HX0:=hide hX0
  clear hT hi hg hm hX3 hX0
  obtain⟨a,len,cap⟩:=v
  obtain⟨ua,ul,uc⟩:=u
  unfold lfV Sl.val at *
  simp only at *
  go_enter Tryz.func56,Tryz.ntmps56
  go_wp2_with fail
  refine HCK.out.mono ?_
  rintro e w1 ⟨rfl,hb⟩
  have T1:=HT.out.below hb
  have c0:=T1.k1.c0
  have c1:=T1.k1.c1
  have HT1:=hide T1
  clear hb T1 HT HCK
  unfold Sl.val at *
  simp only at *
  go_wp2_with fail
  refine(HCP.out w1 HT1.out.e).mono ?_
  rintro e w2 ⟨hb2,⟨a2,n2,k2⟩,⟨a5,n5,k5⟩,l',rfl,lw,hbs⟩
  obtain⟨W3,hst3,nx⟩:=Nx.start HT1.out hb2 lw
  have HST3:=hide hst3
  have HBS:=hide hbs
  have hn5:n5=len:=by have h1:=OwnB.len lw.ob;have h2:=HL.out;rw [bss_len hbs] at h1;simp only at h1 h2;omega
  subst hn5
  have c0:=nx.k9.c0
  have c1:=nx.k9.c1
  have d0:=nx.k1.c0
  have d1:=nx.k1.c1
  have HNX:=hide nx
  have HS3:=hide (HST.out W3 nx.e)
  clear lw hb2 hbs nx hst3 HT1 HCP HST
  unfold lfV Sl.val at *
  simp only at *
  go_wp2_with (first | refine Zaw _ rfl 67 rfl (.pointer (some ⟨w2.heap.size,0,none⟩)) (w2.alloc (.cells #[.slice none 0 0,.slice none 0 0] 67)) (Za0 w2) ?_ | refine Zab _ rfl rfl 67 (.tmp 7) (.tmp 16) rfl (.pointer (some ⟨w2.heap.size,0,none⟩)) (.agg #[.slice a2 n2 k2,.slice a5 n5 k5]) rfl rfl W3 HST3.out ?_)
  refine HS3.out.mono ?_
  rintro e w4 ⟨rfl,hb4⟩
  have nx4:=HNX.out.below hb4
  have e0:=nx4.k9.c0
  have e1:=nx4.k9.c1
  have HNX4:=hide nx4
  clear hb4 nx4 HNX HS3 HST3 c0 c1 d0 d1
  unfold Sl.val at *
  simp only at *
  cases hsb:Zax (bss l) i with
  | false =>
   obtain⟨W9,hst9,k9,hf9⟩:=HNX4.out.fin (by rw [HTL.out];decide) (by rw [bss_len HBS.out,HL.out];show n5≤1000;omega)
   have HF:Hid (Told w t X.s (mk2 X.e) (.returned (mk2 3 (lfV ⟨a2,n2,k2⟩ ⟨a5,n5,k5⟩))) W9):=by rw [HX3.out hsb,← HBS.out];exact hf9 _
   have HST9:=hide hst9
   have HK9:=hide k9
   clear hst9 k9 hf9 HX3 HX0 hsb HNX4
   unfold lfV Sl.val at *
   simp only at *
   go_wp2_with (refine Zab _ rfl rfl 67 (.tmp 4) (.tmp 21) rfl (.pointer (some ⟨w.heap.size+1,0,none⟩)) (.agg #[.slice a2 n2 k2,.slice a5 n5 k5]) rfl rfl W9 HST9.out ?_)
   refine bodyPost_ret (Zan (u:=⟨a2,n2,k2⟩) (v:=⟨a5,n5,k5⟩) rfl HK9.out _ rfl rfl) rfl ?_
   exact HF.out
  | true =>
   obtain⟨k,rfl,hkn,hX⟩:=HX0.out hsb
   have HXE:=hide hX
   have i0:(k:Int)<(n5:Int):=by omega
   obtain⟨b6,o6,ha6⟩:=OwnB.pos HNX4.out.ob (by show 0<n5;omega)
   replace ha6:a5=some ⟨b6,o6,none⟩:=ha6
   subst ha6
   obtain⟨W5,hst5,nx5⟩:=HNX4.out.setE k hkn
   have HST5:=hide hst5
   have f0:=nx5.k9.c0
   have f1:=nx5.k9.c1
   have HL5:Hid ((l'.set k Sb.zero).length=n5):=by show _=_;rw [List.length_set,bss_len HBS.out];exact HL.out
   have HB5:Hid (bss (l'.set k Sb.zero)=(bss l).set k []):=by show _=_;rw [Zeq,HBS.out];rfl
   obtain⟨l5,hl5⟩:∃l5,l5=l'.set k Sb.zero:=⟨_,rfl⟩
   rw [← hl5] at nx5 HL5 HB5
   have HNX5:=hide nx5
   clear hl5 hst5 nx5 hX HX3 HX0 hsb HNX4
   unfold Sl.val at *
   simp only at *
   go_wp2_with (refine Zab _ rfl rfl 56 (.tmp 25) (.const (.slice none 0 0)) rfl (.pointer (some ⟨b6,o6+k,none⟩)) (.slice none 0 0) rfl rfl W5 HST5.out ?_)
   have HC0:Hid (cutN (bss l5) n5=cutN (bss l5) n5):=rfl
   clear e0 e1 HST5
   go_loopw [8] (fun iv wr=>wr=W5∧∃n:Nat,n≤n5∧iv=.int .i64 (n:Nat)∧Hid (cutN (bss l5) n5=cutN (bss l5) n)) (fun iv _=>(intOf iv).toNat)
   case atStart=>exact ⟨rfl,n5,Nat.le_refl _,rfl,HC0⟩
   case round =>
    obtain⟨rfl,n,hn,rfl,hcu⟩:=hrel
    have HFIN:Hid (cutN (bss l5) n5=n→∃W6 W9,(Instr.storeAt 65 (.pointer (some ⟨w2.heap.size,1,none⟩)) (.slice (some ⟨b6,o6,none⟩) n n)).run Tryz.prog wr=.ok () W6∧LfBlk W6 w2.heap.size (.slice a2 n2 k2) (.slice (some ⟨b6,o6,none⟩) n n)∧(Instr.storeAt 67 (.pointer (some ⟨w.heap.size+1,0,none⟩)) (lfV ⟨a2,n2,k2⟩ ⟨some ⟨b6,o6,none⟩,n,n⟩)).run Tryz.prog W6=.ok () W9∧LfBlk W9 (w.heap.size+1) (.slice a2 n2 k2) (.slice (some ⟨b6,o6,none⟩) n n)∧Told w t X.s (mk2 X.e) (.returned (mk2 0 (lfV ⟨a2,n2,k2⟩ ⟨some ⟨b6,o6,none⟩,n,n⟩))) W9):=by
     intro hc
     have oc:=Own.cut HNX5.out.ob (n:=n) hn
     have oc2:OwnB wr ⟨some ⟨b6,o6,none⟩,n,n⟩ (l5.take n):=by
      unfold OwnB
      have:Za8 (l5.take n)=(Za8 l5).take n:=by simp [Za8,List.map_take]
      rw [this]
      exact oc
     obtain⟨W6,hst6,nx6⟩:=HNX5.out.slots (v2:=⟨some ⟨b6,o6,none⟩,n,n⟩) (l2:=l5.take n) oc2 (fun k hk=>HNX5.out.vi k hk) (fun x hx=>HNX5.out.bs x (List.mem_of_mem_take hx))
     obtain⟨W9,hst9,k9,hf9⟩:=nx6.fin (by rw [HTL.out];decide) (by rw [List.length_take,HL5.out];omega)
     refine⟨W6,W9,hst6,nx6.k9,hst9,k9,?_⟩
     have hs:bss (l5.take n)=trim ((bss l).set k []):=by
      rw [Zlx,HB5.out]
      unfold trim
      rw [← HB5.out,Zah,HL5.out,hc]
     rw [HXE.out,← hs]
     exact hf9 _
    rcases Nat.eq_zero_or_pos n with h0 | h0
    · subst h0
      obtain⟨W6,W9,hst6,k6,hst9,k9,hf9⟩:=HFIN.out hcu.out
      have HST6:=hide hst6
      have HST9:=hide hst9
      have HK9:=hide k9
      have HF:=hide hf9
      have HCUT:=hide (Zda wr (some ⟨b6,o6,none⟩) n5 k5 0 (Nat.zero_le _))
      have g0:=k6.c0
      have g1:=k6.c1
      clear hst6 hst9 k9 hf9 k6 hcu HFIN
      unfold lfV at *
      unfold Sl.val at *
      simp only at *
      go_wp2_with fail
      refine HCUT.out.mono ?_
      rintro e w7 ⟨rfl,hw⟩
      obtain rfl:=hw
      go_wp2_with (first | refine Zab _ rfl rfl 65 (.tmp 47) (.tmp 46) rfl (.pointer (some ⟨w2.heap.size,1,none⟩)) (.slice (some ⟨b6,o6,none⟩) 0 0) rfl rfl W6 HST6.out ?_ | refine Zab _ rfl rfl 67 (.tmp 4) (.tmp 48) rfl (.pointer (some ⟨w.heap.size+1,0,none⟩)) (.agg #[.slice a2 n2 k2,.slice (some ⟨b6,o6,none⟩) 0 0]) rfl rfl W9 HST9.out ?_)
      refine bodyPost_ret (Zan (u:=⟨a2,n2,k2⟩) (v:=⟨some ⟨b6,o6,none⟩,0,0⟩) rfl HK9.out _ rfl rfl) rfl ?_
      exact HF.out
    · obtain⟨m,rfl⟩:∃m,n=m+1:=⟨n-1,by omega⟩
      have hcell:=OwnB.cellAt HNX5.out.ob rfl (i:=m) (by show m<n5;omega)
      have hsl:(l5.getD m Sb.zero).s.len=(sl (bss l5) m).length:=by
       have hm':m<l5.length:=by rw [HL5.out];omega
       rw [ZeX]
       exact(HNX5.out.bs _ (Zcf hm')).1.len.symm
      have hsb:(l5.getD m Sb.zero).bs.length≤1000:=(HNX5.out.bs _ (Zcf (by rw [HL5.out];omega))).2
      rw [ZeX] at hsl
      obtain⟨⟨⟨sa,sn,sc⟩,sbs⟩,hx⟩:∃x,x=l5.getD m Sb.zero:=⟨_,rfl⟩
      have HSL:Hid ((sl (bss l5) m).length=sn):=by show _=_;rw [ZeX,← hsl,← hx]
      rw [← hx] at hcell hsl hsb
      simp only at hcell hsl hsb
      have hsn:sn≤1000:=by omega
      clear hx hsl hsb
      have i1:((m+1:Nat):Int)-1=(m:Int):=by omega
      have i2:(m:Int)<(n5:Int):=by omega
      have i3:(0:Int)<((m+1:Nat):Int):=by omega
      by_cases hz:sn=0
      · subst hz
        have HCN:Hid (cutN (bss l5) n5=cutN (bss l5) m):=by
         have h1:=hcu.out
         rw [cutN,if_pos HSL.out] at h1
         exact h1
        clear hcu HFIN HSL
        unfold Sl.val at *
        simp only at *
        go_wp2_with fail
        go_roundw
        case rel=>exact ⟨trivial,m,by omega,by go_num,HCN⟩
        case measure=>simp only [intOf];omega
      · have hz2:¬(sn:Int)=0:=by omega
        have hz3:((sn:Int) == 0)=false:=by simp [hz]
        have hcn:cutN (bss l5) n5=m+1:=by
         have h1:=hcu.out
         rw [cutN,if_neg (by rw [HSL.out];exact hz)] at h1
         exact h1
        obtain⟨W6,W9,hst6,k6,hst9,k9,hf9⟩:=HFIN.out hcn
        have HST6:=hide hst6
        have HST9:=hide hst9
        have HK9:=hide k9
        have HF:=hide hf9
        have HCUT:=hide (Zda wr (some ⟨b6,o6,none⟩) n5 k5 (m+1) (by have:=Own.lecap HNX5.out.ob;simp only at this;omega))
        have g0:=k6.c0
        have g1:=k6.c1
        clear hst6 hst9 k9 hf9 k6 hcu HFIN hcn HSL
        unfold lfV at *
        unfold Sl.val at *
        simp only at *
        go_wp2_with fail
        refine HCUT.out.mono ?_
        rintro e w7 ⟨rfl,hw⟩
        obtain rfl:=hw
        go_wp2_with (first | refine Zab _ rfl rfl 65 (.tmp 47) (.tmp 46) rfl (.pointer (some ⟨w2.heap.size,1,none⟩)) (.slice (some ⟨b6,o6,none⟩) (m+1) (m+1)) rfl rfl W6 HST6.out ?_ | refine Zab _ rfl rfl 67 (.tmp 4) (.tmp 48) rfl (.pointer (some ⟨w.heap.size+1,0,none⟩)) (.agg #[.slice a2 n2 k2,.slice (some ⟨b6,o6,none⟩) (m+1) (m+1)]) rfl rfl W9 HST9.out ?_)
        refine bodyPost_ret (Zan (u:=⟨a2,n2,k2⟩) (v:=⟨some ⟨b6,o6,none⟩,m+1,m+1⟩) rfl HK9.out _ rfl rfl) rfl ?_
        exact HF.out
theorem Zih {D : Nat → Prop} (w : World) (u v : Sl) (t : List Int) (l : List Sb) (hi : Gi D w u t) (hg : Gb D w v l) (hm : MayL ⟨t, bss l⟩) (i : Int) :
    Calls Tryz.prog 56 #[lfV u v, .int .i64 i] w fun e w' => Told w t (dropA (bss l) i).s (mk2 (dropA (bss l) i).e) e w' := by
  refine ZmP w u v t l hi hg hm i _ (fun h => by unfold dropA; rw [if_pos h]) (fun h => ?_)
  obtain ⟨k, rfl, hk⟩ := Zf9 h
  exact ⟨k, rfl, by rw [Zah, hg.len] at hk; exact hk, by unfold dropA; rw [if_neg (by rw [h]; decide), Int.toNat_natCast]⟩
theorem Zm6 {D:Nat→Prop}(w:World)(u v:Sl)(t:List Int)(l:List Sb)(hi:Gi D w u t)(hg:Gb D w v l)(hm:MayL ⟨t,bss l⟩)(x:Sb)(X:An3)(hX1:Zbg x.s.len=false→X=⟨bss l,-1,1⟩)
    (Y:Ans)(hLY:Zbg x.s.len=true→∀W,Below w.heap.size w W→Calls Tryz.prog 101 #[lfV u v,.int .i64 ((atE (bss l):Nat):Int),x.s.val] W fun e w'=>Told W t Y.s (mk2 Y.e) e w')(hX0:Zbg x.s.len=true→Y.e=0→X=⟨Y.s,((atE (bss l):Nat):Int),0⟩)(hX7:Zbg x.s.len=true→Y.e≠0→X=⟨Y.s,-1,Y.e⟩) :
    Calls Tryz.prog 50 #[lfV u v,x.s.val] w fun e w'=>Told w t X.s (mk3 X.at_ X.e) e w':=by
  have hT:=Tb.start u hg
  have HT:=hide hT
  have HCK:=hide (Zcb _ u v t l (hi.below hT.e (Nat.le_refl _)) hT.g hm)
  have HCP:Hid (∀W,Below w.heap.size w W→_):=fun W hW=>(Zb5 W u v t l (hi.below hW (Nat.le_refl _)) (hg.below hW (Nat.le_refl _))).mono (fun e w' h=>h.told (by have:=hm.itl.1;simp only at this;omega) (by have:=hg.len;have:=hg.big;omega))
  have HIX:Hid (∀W,Below w.heap.size w W→_):=fun W hW=>ZlH W v l (hg.below hW (Nat.le_refl _))
  have HRW:=hide (fun W=>ZgF W x.s)
  have HX1:=hide hX1
  have HX0:=hide hX0
  have HX7:=hide hX7
  have HLY:=hide hLY
  have HL:=hide hg.len
  have hixE:(ixE (bss l) = -1∧atE (bss l)=v.len)∨ixE (bss l)=((atE (bss l):Nat):Int):=by
   unfold ixE
   split
   · rename_i h
     exact .inl ⟨rfl,by rw [h,Zah,hg.len]⟩
   · exact .inr rfl
  have HIE:=hide hixE
  clear hT hi hg hm hX1 hX0 hX7 hLY hixE
  obtain⟨a,len,cap⟩:=v
  obtain⟨ua,ul,uc⟩:=u
  obtain⟨⟨xa,xl,xc⟩,xs⟩:=x
  unfold lfV Sl.val at *
  simp only at *
  go_enter Tryz.func50,Tryz.ntmps50
  go_wp2_with fail
  refine HCK.out.mono ?_
  rintro e w1 ⟨rfl,hb⟩
  have T1:=HT.out.below hb
  have c0:=T1.k1.c0
  have c1:=T1.k1.c1
  have HT1:=hide T1
  clear hb T1 HT HCK
  unfold Sl.val at *
  simp only at *
  go_wp2_with fail
  refine(HRW.out w1).mono ?_
  rintro e w2 ⟨rfl,hw⟩
  obtain rfl:=hw
  cases hrb:Zbg xl with
  | false =>
   have HXE:=hide (HX1.out hrb)
   have HT2:=HT1
   clear HX0 HX7 HLY HX1 hrb HIX HIE
   go_wp2_with fail
   refine(HCP.out w2 HT2.out.e).mono ?_
   rintro e w5 htd
   obtain⟨a2,n2,c2,a5,n5,c5,W9,rfl,hst9,k9,hf9⟩:=Told.relay htd HT2.out.k2 HT2.out.e
   have HST9:=hide hst9
   have HK9:=hide k9
   have HF:Hid (Told w t X.s (mk3 X.at_ X.e) (.returned (mk3 (-1) 1 (lfV ⟨a2,n2,c2⟩ ⟨a5,n5,c5⟩))) W9):=by rw [HXE.out];exact hf9 _
   clear hst9 k9 hf9 htd HXE HCP HT1
   unfold lfV Sl.val at *
   simp only at *
   go_wp2_with (refine Zab _ rfl rfl 67 (.tmp 4) (.tmp 21) rfl (.pointer (some ⟨w.heap.size+1,0,none⟩)) (.agg #[.slice a2 n2 c2,.slice a5 n5 c5]) rfl rfl W9 HST9.out ?_)
   refine bodyPost_ret (Zbr (u:=⟨a2,n2,c2⟩) (v:=⟨a5,n5,c5⟩) rfl HK9.out _ rfl rfl rfl) rfl ?_
   exact HF.out
  | true =>
   have HLY2:=hide (HLY.out hrb w2 HT1.out.e)
   have HX02:=hide (HX0.out hrb)
   have HX72:=hide (HX7.out hrb)
   have HIX2:=hide (HIX.out w2 HT1.out.e)
   clear HLY HX0 HX7 HX1 hrb HIX HCP HRW
   obtain⟨q,hq⟩:∃q,q=atE (bss l):=⟨_,rfl⟩
   rw [← hq] at HLY2 HX02 HIE
   clear hq
   go_wp2_with fail
   refine HIX2.out.mono ?_
   rintro e w3 ⟨rfl,hw⟩
   obtain rfl:=hw
   rcases HIE.out with ⟨he,hql⟩ | he
   · rw [he]
     subst hql
     clear he HIE HIX2
     go_wp2_with fail
     refine HLY2.out.mono ?_
     rintro e w5 ⟨hb5,⟨a2,n2,c2⟩,⟨a5,n5,c5⟩,l5,rfl,gi5,gb5,hbs5⟩
     have T5:=HT1.out.below hb5
     have hsz:=HT1.out.sz
     have hA:=Zaa w5 (.cells #[.slice none 0 0,.slice none 0 0] 67)
     have kn:=Zam w5 (.slice none 0 0) (.slice none 0 0)
     obtain⟨W6,hst6,k6,f6⟩:=ZbD _ _ _ _ kn ⟨a2,n2,c2⟩ ⟨a5,n5,c5⟩
     have hB6:Below w5.heap.size w5 W6:=hA.trans (f6.below hA.size (fun k hk=>by omega))
     have T6:=T5.below hB6
     obtain⟨W9,hst9,k9,hf9⟩:=Zfj T6.k2 T6.e ((gi5.below hB6 (Nat.le_refl _)).wide (fun k hk=>Nat.le_trans hsz hk)) ((gb5.below hB6 (Nat.le_refl _)).wide (fun k hk=>Nat.le_trans hsz hk))
     rw [hbs5] at hf9
     have HST6:=hide hst6
     have HST9:=hide hst9
     have HK9:=hide k9
     have m0:=k6.c0
     have m1:=k6.c1
     clear gi5 gb5 hbs5 hb5 T5 T6 hA kn hst6 k6 f6 hB6 hst9 k9 HT1 HLY2 hsz c0 c1
     unfold mk2 lfV Sl.val at *
     simp only at *
     by_cases hy:Y.e=0
     · have HF:Hid (Told w t X.s (mk3 X.at_ X.e) (.returned (mk3 (q:Int) 0 (lfV ⟨a2,n2,c2⟩ ⟨a5,n5,c5⟩))) W9):=by rw [HX02.out hy];exact hf9 _
       rw [hy]
       clear hf9 HX02 HX72 hy
       go_wp2_with (first | refine Zaw _ rfl 67 rfl (.pointer (some ⟨w5.heap.size,0,none⟩)) (w5.alloc (.cells #[.slice none 0 0,.slice none 0 0] 67)) (Za0 w5) ?_ | refine Zab _ rfl rfl 67 (.tmp 9) (.tmp 35) rfl (.pointer (some ⟨w5.heap.size,0,none⟩)) (.agg #[.slice a2 n2 c2,.slice a5 n5 c5]) rfl rfl W6 HST6.out ?_ | refine Zab _ rfl rfl 67 (.tmp 4) (.tmp 41) rfl (.pointer (some ⟨w.heap.size+1,0,none⟩)) (.agg #[.slice a2 n2 c2,.slice a5 n5 c5]) rfl rfl W9 HST9.out ?_)
       refine bodyPost_ret (Zbr (u:=⟨a2,n2,c2⟩) (v:=⟨a5,n5,c5⟩) rfl HK9.out _ rfl rfl rfl) rfl ?_
       exact HF.out
     · have HF:Hid (Told w t X.s (mk3 X.at_ X.e) (.returned (mk3 (-1) Y.e (lfV ⟨a2,n2,c2⟩ ⟨a5,n5,c5⟩))) W9):=by rw [HX72.out hy];exact hf9 _
       have hy2:(Y.e != 0)=true:=by simp [hy]
       clear hf9 HX02 HX72
       go_wp2_with (first | refine Zaw _ rfl 67 rfl (.pointer (some ⟨w5.heap.size,0,none⟩)) (w5.alloc (.cells #[.slice none 0 0,.slice none 0 0] 67)) (Za0 w5) ?_ | refine Zab _ rfl rfl 67 (.tmp 9) (.tmp 35) rfl (.pointer (some ⟨w5.heap.size,0,none⟩)) (.agg #[.slice a2 n2 c2,.slice a5 n5 c5]) rfl rfl W6 HST6.out ?_ | refine Zab _ rfl rfl 67 (.tmp 4) (.tmp 39) rfl (.pointer (some ⟨w.heap.size+1,0,none⟩)) (.agg #[.slice a2 n2 c2,.slice a5 n5 c5]) rfl rfl W9 HST9.out ?_)
       refine bodyPost_ret (Zbr (u:=⟨a2,n2,c2⟩) (v:=⟨a5,n5,c5⟩) rfl HK9.out _ rfl rfl rfl) rfl ?_
       exact HF.out
   · rw [he]
     have i1:¬(q:Int)<0:=by omega
     clear he HIE HIX2
     go_wp2_with fail
     refine HLY2.out.mono ?_
     rintro e w5 ⟨hb5,⟨a2,n2,c2⟩,⟨a5,n5,c5⟩,l5,rfl,gi5,gb5,hbs5⟩
     have T5:=HT1.out.below hb5
     have hsz:=HT1.out.sz
     have hA:=Zaa w5 (.cells #[.slice none 0 0,.slice none 0 0] 67)
     have kn:=Zam w5 (.slice none 0 0) (.slice none 0 0)
     obtain⟨W6,hst6,k6,f6⟩:=ZbD _ _ _ _ kn ⟨a2,n2,c2⟩ ⟨a5,n5,c5⟩
     have hB6:Below w5.heap.size w5 W6:=hA.trans (f6.below hA.size (fun k hk=>by omega))
     have T6:=T5.below hB6
     obtain⟨W9,hst9,k9,hf9⟩:=Zfj T6.k2 T6.e ((gi5.below hB6 (Nat.le_refl _)).wide (fun k hk=>Nat.le_trans hsz hk)) ((gb5.below hB6 (Nat.le_refl _)).wide (fun k hk=>Nat.le_trans hsz hk))
     rw [hbs5] at hf9
     have HST6:=hide hst6
     have HST9:=hide hst9
     have HK9:=hide k9
     have m0:=k6.c0
     have m1:=k6.c1
     clear gi5 gb5 hbs5 hb5 T5 T6 hA kn hst6 k6 f6 hB6 hst9 k9 HT1 HLY2 hsz c0 c1
     unfold mk2 lfV Sl.val at *
     simp only at *
     by_cases hy:Y.e=0
     · have HF:Hid (Told w t X.s (mk3 X.at_ X.e) (.returned (mk3 (q:Int) 0 (lfV ⟨a2,n2,c2⟩ ⟨a5,n5,c5⟩))) W9):=by rw [HX02.out hy];exact hf9 _
       rw [hy]
       clear hf9 HX02 HX72 hy
       go_wp2_with (first | refine Zaw _ rfl 67 rfl (.pointer (some ⟨w5.heap.size,0,none⟩)) (w5.alloc (.cells #[.slice none 0 0,.slice none 0 0] 67)) (Za0 w5) ?_ | refine Zab _ rfl rfl 67 (.tmp 9) (.tmp 35) rfl (.pointer (some ⟨w5.heap.size,0,none⟩)) (.agg #[.slice a2 n2 c2,.slice a5 n5 c5]) rfl rfl W6 HST6.out ?_ | refine Zab _ rfl rfl 67 (.tmp 4) (.tmp 41) rfl (.pointer (some ⟨w.heap.size+1,0,none⟩)) (.agg #[.slice a2 n2 c2,.slice a5 n5 c5]) rfl rfl W9 HST9.out ?_)
       refine bodyPost_ret (Zbr (u:=⟨a2,n2,c2⟩) (v:=⟨a5,n5,c5⟩) rfl HK9.out _ rfl rfl rfl) rfl ?_
       exact HF.out
     · have HF:Hid (Told w t X.s (mk3 X.at_ X.e) (.returned (mk3 (-1) Y.e (lfV ⟨a2,n2,c2⟩ ⟨a5,n5,c5⟩))) W9):=by rw [HX72.out hy];exact hf9 _
       have hy2:(Y.e != 0)=true:=by simp [hy]
       clear hf9 HX02 HX72
       go_wp2_with (first | refine Zaw _ rfl 67 rfl (.pointer (some ⟨w5.heap.size,0,none⟩)) (w5.alloc (.cells #[.slice none 0 0,.slice none 0 0] 67)) (Za0 w5) ?_ | refine Zab _ rfl rfl 67 (.tmp 9) (.tmp 35) rfl (.pointer (some ⟨w5.heap.size,0,none⟩)) (.agg #[.slice a2 n2 c2,.slice a5 n5 c5]) rfl rfl W6 HST6.out ?_ | refine Zab _ rfl rfl 67 (.tmp 4) (.tmp 39) rfl (.pointer (some ⟨w.heap.size+1,0,none⟩)) (.agg #[.slice a2 n2 c2,.slice a5 n5 c5]) rfl rfl W9 HST9.out ?_)
       refine bodyPost_ret (Zbr (u:=⟨a2,n2,c2⟩) (v:=⟨a5,n5,c5⟩) rfl HK9.out _ rfl rfl rfl) rfl ?_
       exact HF.out
theorem Zkr {D:Nat→Prop}(w:World)(u v:Sl)(t:List Int)(l:List Sb)(hi:Gi D w u t)(hg:Gb D w v l)(hm:MayL ⟨t,bss l⟩)(x:Sb)(hx:Cm D w x.s x.bs) :
    Calls Tryz.prog 50 #[lfV u v,x.s.val] w fun e w'=>Told w t (insA (bss l) x.bs).s (mk3 (insA (bss l) x.bs).at_ (insA (bss l) x.bs).e) e w':=by
  have hxl:=hx.len
  have hrow:Zbg x.s.len=true→1≤x.bs.length∧x.bs.length≤255:=by
   intro h
   unfold Zbg at h
   simp only [Bool.and_eq_true,decide_eq_true_eq] at h
   omega
  have hlay:layS (bss l) (atE (bss l)) x.bs=insS (bss l) x.bs:=rfl
  have hat:atE (bss l)≤v.len:=by
   have h2:=hg.len
   rcases Zb3 (bss l) with ⟨e,_⟩ | ⟨e,_⟩ <;> rw [Zah] at e <;> omega
  by_cases hM:MayL ⟨t,insS (bss l) x.bs⟩
  · have h64:¬(64<(insS (bss l) x.bs).length∨508<need (insS (bss l) x.bs)):=by
     have h1:=hM.slots.1
     have h2:=hM.need
     simp only at h1 h2
     omega
    refine Zm6 w u v t l hi hg hm x _ (fun h=>?_) ⟨insS (bss l) x.bs,0⟩ (fun h W hW=>?_) (fun h _=>?_) (fun h h0=>absurd rfl h0)
    · unfold Zbg at h
      simp only [Bool.and_eq_false_iff,decide_eq_false_iff_not] at h
      unfold insA
      rw [if_pos (by omega)]
    · exact Zh6 W u v t l (hi.below hW (Nat.le_refl _)) (hg.below hW (Nat.le_refl _)) hm _ hat x (hx.keep (Kept.all hW (Nat.le_refl _))) (hrow h).2 _ (fun _=>by rw [hlay]) (fun h3=>absurd hM h3)
    · have h1:=hrow h
      unfold insA
      rw [if_neg (by omega),if_neg h64]
  · refine Zm6 w u v t l hi hg hm x _ (fun h=>?_) ⟨bss l,7⟩ (fun h W hW=>?_) (fun h h0=>by cases h0) (fun h h0=>?_)
    · unfold Zbg at h
      simp only [Bool.and_eq_false_iff,decide_eq_false_iff_not] at h
      unfold insA
      rw [if_pos (by omega)]
    · exact Zh6 W u v t l (hi.below hW (Nat.le_refl _)) (hg.below hW (Nat.le_refl _)) hm _ hat x (hx.keep (Kept.all hW (Nat.le_refl _))) (hrow h).2 _ (fun h3=>absurd h3 hM) (fun _=>rfl)
    · have h1:=hrow h
      have h64:64<(insS (bss l) x.bs).length∨508<need (insS (bss l) x.bs):=by
       rcases Nat.lt_or_ge 64 (insS (bss l) x.bs).length with h4 | h4
       · exact .inl h4
       · rcases Nat.lt_or_ge 508 (need (insS (bss l) x.bs)) with h5 | h5
         · exact .inr h5
         · exact absurd ⟨hm.itl,Zkq hm.slots h1.1 h1.2 h4,h5⟩ hM
      unfold insA
      rw [if_neg (by omega),if_pos h64]
theorem Came.top {a : Option Addr} {len cap:Nat}(h : Came w a len cap xs) (hk : k ≤ len) : Came w (fromA a cap 0) k cap (xs.take k) := by
 refine ⟨h.bs.upto hk, fun e => ?_, by have := h.le; omega, by have := h.big; omega⟩
 unfold fromA at e
 split at e
 · omega
 · cases a with
   | none => exact h.nil rfl
   | some x => simp at e
theorem Ze1 (r:Rw)(a:Option Addr)(len cap:Nat)(w:World)(h:Fs w a len cap r.xs)(hf:r.fits)(hm:r.may=true) :
    Calls Tryz.prog 59 #[r.val (.slice a len cap)] w fun e w'=>∃v,e=.returned v∧Owns w' w.heap.size v (hpB r)∧Below w.heap.size w w':=by
  have HA:=hide (Zaa w (.cells #[.float .f64 r.key,.bool r.dead,.slice a len cap,.int .i64 r.wr,.int .i64 r.cell,.int .i64 r.no] 33))
  have HB:=hide (Zcn r a len cap _ (h.keep HA.out (Nat.le_refl _)) hf hm)
  have HX:=hide (Zai w r (.slice a len cap))
  have hl4:=(Rw.may_parts hm).2.1
  have hbl:=Zb4 r
  obtain⟨n0,hn0⟩:∃n,n=r.bytes.length:=⟨_,rfl⟩
  have hn52:n0≤52:=by omega
  have hn20:20≤n0:=by omega
  have HN0:=hide hn0
  clear h hl4 hbl
  unfold Rw.val at HB ⊢
  go_enter Tryz.func59,Tryz.ntmps59
  go_wp2_with fail
  refine HB.out.mono ?_
  rintro e w1 ⟨v,rfl,ho,hb⟩
  obtain⟨g3,k3,hv3,_,_⟩:=ho.pos (by omega)
  subst hv3
  rw [← hn0] at ho ⊢
  have HO3:Hid (Owns w1 w.heap.size (.slice (some ⟨g3,0,none⟩) (n0+0) k3) (r.bytes ++ List.replicate 0 0)):=by
   show Owns _ _ _ _
   rw [List.replicate_zero,List.append_nil,Nat.add_zero]
   exact ho.lower HA.out.size
  have HB3:=hide (Zac HA.out hb)
  clear ho hb hn0
  go_wp2_with fail
  rename World=>wq
  go_loopw [3] (fun xv wr=>∃(k g c:Nat),n0+k≤52∧xv=.slice (some ⟨g,0,none⟩) (n0+k) c∧Hid (Owns wr w.heap.size (.slice (some ⟨g,0,none⟩) (n0+k) c) (r.bytes ++ List.replicate k 0))∧Hid (Below w.heap.size w wr)) (fun xv _=>52-Zoo xv)
  case atStart=>exact ⟨0,g3,k3,by omega,rfl,HO3,HB3⟩
  case round =>
   obtain⟨k,g,c,hk,rfl,ho,hbr⟩:=hrel
   rcases Nat.lt_or_ge (n0+k) 52 with hlt | hge
   · have j1:(((n0+k:Nat)):Int)<52:=by omega
     have hA:=Zaa wr (.cells (vals [0]).toArray 5)
     have h0:Bytes [0]:=fun y hy=>by simp at hy;omega
     obtain⟨v4,W4,hap,ho4,hb4⟩:=Zca _ 0 w.heap.size _ _ (ho.out.keep hA (Nat.le_refl _)) (some ⟨wr.heap.size,0,none⟩) 1 1 [0] (Zep wr [0] (0,0) h0) (fun e=>by cases e) (by rw [List.length_append,← HN0.out,List.length_replicate];omega) (Nat.le_trans hbr.out.size hA.size)
     rw [List.append_assoc,← List.replicate_succ'] at ho4
     obtain⟨g4,c4,hv4,_,_⟩:=ho4.pos (by rw [List.length_append,← HN0.out];omega)
     subst hv4
     rw [List.length_append,← HN0.out,List.length_replicate] at ho4 hap
     have HAP:Hid (∀ty,(Builtin.append_ #[56,56] ty #[.slice (some ⟨g,0,none⟩) (n0+k) c,.slice (some ⟨wr.heap.size,0,none⟩) 1 1]).run Tryz.prog (wr.alloc (.cells #[.int .u8 0] 5))=.ok (.slice (some ⟨g4,0,none⟩) (n0+(k+1)) c4) W4):=fun ty=>hap
     have HO4:=hide ho4
     have HB4:=hide ((Zac hbr.out hA).trans hb4)
     clear hap ho4 hb4 hA h0 ho hbr
     go_wp2_with (at_builtin;refine Zaj _ rfl 56 (.tmp 9) (.tmp 10) rfl (.slice (some ⟨g,0,none⟩) (n0+k) c) (.slice (some ⟨wr.heap.size,0,none⟩) 1 1) (.slice (some ⟨g4,0,none⟩) (n0+(k+1)) c4) rfl rfl W4 HAP.out ?_)
     go_roundw
     case rel=>exact ⟨k+1,g4,c4,by omega,rfl,HO4,HB4⟩
     case measure=>simp only [Zoo];omega
   · have e0:k=52-r.bytes.length:=by rw [← HN0.out];omega
     have j1:¬(((n0+k:Nat)):Int)<52:=by omega
     have HO5:Hid (Owns wr w.heap.size (.slice (some ⟨g,0,none⟩) (n0+k) c) (hpB r)):=by
      have:=ho.out
      rw [e0] at this ⊢
      exact this
     clear e0 ho
     go_wp2_with fail
     go_ret
     exact⟨_,rfl,HO5.out,hbr.out⟩
def ZaR (xs : List Nat) (w : World) (e : Ending) (w' : World) : Prop :=
  Below w.heap.size w w' ∧ (decH xs = none → e = .returned (.tuple #[ZcI, .bool false])) ∧
    (∀ r, decH xs = some r → r.fits ∧ ∃ a len cap, e = .returned (.tuple #[r.val (.slice a len cap), .bool true]) ∧ Fs w' a len cap r.xs ∧ OwnsV 23 w' w.heap.size (.slice a len cap) (fVals r.xs))
theorem ZaR.no {xs : List Nat} {w w' : World} (hd : decH xs = none) (hb : Below w.heap.size w w') : ZaR xs w (.returned (.tuple #[ZcI, .bool false])) w' :=
  ⟨hb, fun _ => rfl, fun r h => by rw [hd] at h; cases h⟩
theorem Zil : ∀ args w, (callFunc 59 args).run Tryz.prog w = .ok (.enter 59 args) w := Pl.enters Tryz.func59 (by kernel_rfl) (by kernel_rfl)
theorem Zo4 (w0 w:World)(p:Nat)(X:Rw)(a:Option Addr)(len cap:Nat)(pa:Option Addr)(pl pc:Nat)(xs:List Nat)(hW:Below w0.heap.size w0 w)
    {Q:Exit→Act→World→Prop}(hsz:A.tmps.size=40)(hdf:A.defers=[])(s0:A.tmps.getD 0 undef=.slice pa pl pc)(s4:A.tmps.getD 4 undef=.pointer (some ⟨p,0,none⟩))(s5:A.tmps.getD 5 undef=.bool false)
    (hend:∀(u:Nat→Value) w',Below w0.heap.size w0 w'→Q .normal (((((((((((A).put (some 28) (u 28)).put (some 29) (u 29)).put (some 30) (u 30)).put (some 31) (u 31)).put (some 32) (u 32)).put (some 33) (u 33)).put (some 34) (u 34)).put (some 35) (u 35)).put (some 36) (u 36)).put (some 37) (.bool true)) w') :
    (Code.region 4 (Pl.find 4 ((Tryz.f82.body).getD .skip)) true).wp Tryz.prog Q A w:=by
  have hS0:Below w0.heap.size w0 w.drew:=hW.drew
  have hA:=Pl.At.same (v:=.bool false) (d:=5) (Pl.At.same (v:=.pointer (some ⟨p,0,none⟩)) (d:=4) (Pl.At.same (v:=.slice pa pl pc) (d:=0) (Pl.At.here hsz hdf) s0) s4) s5
  refine Pl.qa (S:=fun w'=>Below w0.heap.size w0 w') hA hS0 ?_
  rw [show (Pl.find 4 ((Tryz.f82.body).getD .skip)).size=10 by kernel_rfl]
  refine Pl.q0 0 28 (.bool false) (Pl.q1) (Pl.q2 (.tmp 5)) hS0 ?_
  refine Pl.q0 1 29 (.bool true) (Pl.q1) (Pl.qr 4 (.tmp 28) false) hS0 ?_
  refine Pl.q0 2 30 (.bool true) (Pl.q1) (Pl.q2 (.tmp 29)) hS0 ?_
  refine Pl.q6 3 31 (Pl.q7 2 30 false) hS0 ?_
  refine Pl.q6 4 32 (Pl.q7 2 30 false) hS0 ?_
  refine Pl.q6 5 33 (Pl.q7 2 30 false) hS0 ?_
  refine Pl.q6 6 34 (Pl.q7 2 30 false) hS0 ?_
  refine Pl.q6 7 35 (Pl.q7 2 30 false) hS0 ?_
  refine Pl.q6 8 36 (Pl.q7 2 30 false) hS0 ?_
  refine Pl.q0 9 37 (.bool true) (Pl.q1) (Pl.qk (.tmp 30) (.const (.bool true)) (.tmp 36)) hS0 ?_
  refine Pl.q8 (fun A' hA'=>?_)
  rw [Pl.At.ext hA' ((((((((((hA.put 28 _).put 29 _).put 30 _).put 31 _).put 32 _).put 33 _).put 34 _).put 35 _).put 36 _).put 37 _)]
  exact hend hA'.fn _ hS0
theorem Zo5 (w0 w:World)(p:Nat)(X:Rw)(a:Option Addr)(len cap:Nat)(hx:RwBlk w0 p X (.slice a len cap))(hfa:Fs w0 a len cap X.xs)(hf:X.fits)(pa:Option Addr)(pl pc:Nat)(xs:List Nat)(hc:Came w0 pa pl pc xs)(hm:X.may=true)(hne:¬(bstr (hpB X)).toList=(bstr xs).toList)(hW:Below w0.heap.size w0 w)
    {Q:Exit→Act→World→Prop}(hsz:A.tmps.size=40)(hdf:A.defers=[])(s0:A.tmps.getD 0 undef=.slice pa pl pc)(s4:A.tmps.getD 4 undef=.pointer (some ⟨p,0,none⟩))(s5:A.tmps.getD 5 undef=.bool true)
    (hend:∀(u:Nat→Value) w',Below w0.heap.size w0 w'→Q .normal (((((((((((A).put (some 28) (u 28)).put (some 29) (u 29)).put (some 30) (u 30)).put (some 31) (u 31)).put (some 34) (u 34)).put (some 35) (u 35)).put (some 32) (u 32)).put (some 33) (u 33)).put (some 36) (u 36)).put (some 37) (.bool true)) w') :
    (Code.region 4 (Pl.find 4 ((Tryz.f82.body).getD .skip)) true).wp Tryz.prog Q A w:=by
  have hS0:Below w0.heap.size w0 w.drew:=hW.drew
  have hA:=Pl.At.same (v:=.bool true) (d:=5) (Pl.At.same (v:=.pointer (some ⟨p,0,none⟩)) (d:=4) (Pl.At.same (v:=.slice pa pl pc) (d:=0) (Pl.At.here hsz hdf) s0) s4) s5
  refine Pl.qa (S:=fun w'=>Below w0.heap.size w0 w') hA hS0 ?_
  rw [show (Pl.find 4 ((Tryz.f82.body).getD .skip)).size=10 by kernel_rfl]
  refine Pl.q0 0 28 (.bool true) (Pl.q1) (Pl.q2 (.tmp 5)) hS0 ?_
  refine Pl.q0 1 29 (.bool false) (Pl.q1) (Pl.qr 4 (.tmp 28) true) hS0 ?_
  refine Pl.q0 2 30 (.bool false) (Pl.q1) (Pl.q2 (.tmp 29)) hS0 ?_
  refine Pl.q0 3 31 (X.val (.slice a len cap)) (Pl.q3 2 30 false) (Pl.q4 33 (.tmp 4) (fun w' hS=>ZbO p X (.slice a len cap) ⟨_,_,_,rfl⟩ w' (hx.keep hS))) hS0 ?_
  refine Pl.q0 6 34 (.slice pa pl pc) (Pl.q3 2 30 false) (Pl.q2 (.tmp 0)) hS0 ?_
  refine Pl.q0 7 35 (.string (bstr xs)) (Pl.q3 2 30 false) (Pl.qy 56 9 (.tmp 34) (.slice pa pl pc) (fun w' hS=>Zas pc (hc.bs.keep hS (Nat.le_refl _)))) hS0 ?_
  refine Pl.qc 4 32 59 [(.tmp 31)] #[33] (Pl.q3 2 30 false) Zil (Calls.mono (Ze1 X a len cap w.drew (hfa.keep hS0 (Nat.le_refl _)) hf hm) ?_)
  rintro e w1 ⟨v1,rfl,ho1,hb1⟩
  have hS1:Below w0.heap.size w0 w1:=Zac hS0 hb1
  obtain⟨ba,be,rfl,hbs1,_⟩:=ho1.bs (Zbq hm)
  refine⟨.slice ba (hpB X).length be,rfl,hS1,?_⟩
  refine Pl.qp 5 33 (.string (bstr (hpB X))) w1 (Pl.q3 2 30 false) (Pl.q_39 56 9 (.tmp 32) (Zas be hbs1)) hS1 ?_
  refine Pl.q0 8 36 (.bool true) (Pl.q3 2 30 false) (Pl.qb .neq 9 9 (.tmp 33) (.tmp 35) (.string (bstr (hpB X))) (.string (bstr xs)) (fun w=>by simp [go_sem,eqGuard,hne])) hS1 ?_
  refine Pl.q0 9 37 (.bool true) (Pl.q1) (Pl.qj (.tmp 30) (.const (.bool true)) (.tmp 36)) hS1 ?_
  refine Pl.q8 (fun A' hA'=>?_)
  rw [Pl.At.ext hA' ((((((((((hA.put 28 _).put 29 _).put 30 _).put 31 _).put 34 _).put 35 _).put 32 _).put 33 _).put 36 _).put 37 _)]
  exact hend hA'.fn _ hS1
theorem Zo6 (w0 w:World)(p:Nat)(X:Rw)(a:Option Addr)(len cap:Nat)(hx:RwBlk w0 p X (.slice a len cap))(hfa:Fs w0 a len cap X.xs)(hf:X.fits)(pa:Option Addr)(pl pc:Nat)(xs:List Nat)(hc:Came w0 pa pl pc xs)(hm:X.may=true)(hpx:hpB X=xs)(hW:Below w0.heap.size w0 w)
    {Q:Exit→Act→World→Prop}(hsz:A.tmps.size=40)(hdf:A.defers=[])(s0:A.tmps.getD 0 undef=.slice pa pl pc)(s4:A.tmps.getD 4 undef=.pointer (some ⟨p,0,none⟩))(s5:A.tmps.getD 5 undef=.bool true)
    (hend:∀(u:Nat→Value) w',Below w0.heap.size w0 w'→Q .normal (((((((((((A).put (some 28) (u 28)).put (some 29) (u 29)).put (some 30) (u 30)).put (some 31) (u 31)).put (some 34) (u 34)).put (some 35) (u 35)).put (some 32) (u 32)).put (some 33) (u 33)).put (some 36) (u 36)).put (some 37) (.bool false)) w') :
    (Code.region 4 (Pl.find 4 ((Tryz.f82.body).getD .skip)) true).wp Tryz.prog Q A w:=by
  have hS0:Below w0.heap.size w0 w.drew:=hW.drew
  have hA:=Pl.At.same (v:=.bool true) (d:=5) (Pl.At.same (v:=.pointer (some ⟨p,0,none⟩)) (d:=4) (Pl.At.same (v:=.slice pa pl pc) (d:=0) (Pl.At.here hsz hdf) s0) s4) s5
  refine Pl.qa (S:=fun w'=>Below w0.heap.size w0 w') hA hS0 ?_
  rw [show (Pl.find 4 ((Tryz.f82.body).getD .skip)).size=10 by kernel_rfl]
  refine Pl.q0 0 28 (.bool true) (Pl.q1) (Pl.q2 (.tmp 5)) hS0 ?_
  refine Pl.q0 1 29 (.bool false) (Pl.q1) (Pl.qr 4 (.tmp 28) true) hS0 ?_
  refine Pl.q0 2 30 (.bool false) (Pl.q1) (Pl.q2 (.tmp 29)) hS0 ?_
  refine Pl.q0 3 31 (X.val (.slice a len cap)) (Pl.q3 2 30 false) (Pl.q4 33 (.tmp 4) (fun w' hS=>ZbO p X (.slice a len cap) ⟨_,_,_,rfl⟩ w' (hx.keep hS))) hS0 ?_
  refine Pl.q0 6 34 (.slice pa pl pc) (Pl.q3 2 30 false) (Pl.q2 (.tmp 0)) hS0 ?_
  refine Pl.q0 7 35 (.string (bstr xs)) (Pl.q3 2 30 false) (Pl.qy 56 9 (.tmp 34) (.slice pa pl pc) (fun w' hS=>Zas pc (hc.bs.keep hS (Nat.le_refl _)))) hS0 ?_
  refine Pl.qc 4 32 59 [(.tmp 31)] #[33] (Pl.q3 2 30 false) Zil (Calls.mono (Ze1 X a len cap w.drew (hfa.keep hS0 (Nat.le_refl _)) hf hm) ?_)
  rintro e w1 ⟨v1,rfl,ho1,hb1⟩
  have hS1:Below w0.heap.size w0 w1:=Zac hS0 hb1
  obtain⟨ba,be,rfl,hbs1,_⟩:=ho1.bs (Zbq hm)
  refine⟨.slice ba (hpB X).length be,rfl,hS1,?_⟩
  refine Pl.qp 5 33 (.string (bstr xs)) w1 (Pl.q3 2 30 false) (Pl.q_39 56 9 (.tmp 32) (by rw [← hpx];exact Zas be hbs1)) hS1 ?_
  refine Pl.q0 8 36 (.bool false) (Pl.q3 2 30 false) (Pl.qb .neq 9 9 (.tmp 33) (.tmp 35) (.string (bstr xs)) (.string (bstr xs)) (fun w=>by simp [go_sem,eqGuard])) hS1 ?_
  refine Pl.q0 9 37 (.bool false) (Pl.q1) (Pl.qj (.tmp 30) (.const (.bool true)) (.tmp 36)) hS1 ?_
  refine Pl.q8 (fun A' hA'=>?_)
  rw [Pl.At.ext hA' ((((((((((hA.put 28 _).put 29 _).put 30 _).put 31 _).put 34 _).put 35 _).put 32 _).put 33 _).put 36 _).put 37 _)]
  exact hend hA'.fn _ hS1
theorem ZjZ {xs : List Nat} {n k : Nat} (h : k < n) : (xs.take n).getD k 0 = xs.getD k 0 := by
  simp only [List.getD, List.getElem?_take, if_pos h]
theorem Zgx (h : xs.length ≠ 52) : decH xs = none := by
 unfold decH
 rw [if_neg (fun e => h e.1)]
theorem Zgy (h : 4 < xs.getD 19 0) : decH xs = none := by
 unfold decH
 rw [if_neg (fun e => by have := e.2; omega)]
theorem ZjO (h : decB (xs.take (20 + 8 * xs.getD 19 0)) = none) : decH xs = none := by
 unfold decH
 split
 · rw [h]
 · rfl
theorem ZmM {r : Rw} (h : decB (xs.take (20 + 8 * xs.getD 19 0)) = some r) (hn : ¬ hpB r = xs) : decH xs = none := by
 unfold decH
 split
 · rw [h]
   exact if_neg hn
 · rfl
theorem Zig (h1 : xs.length = 52) (h4 : xs.getD 19 0 ≤ 4) {r : Rw} (h : decB (xs.take (20 + 8 * xs.getD 19 0)) = some r) (hn : hpB r = xs) : decH xs = some r := by
 unfold decH
 rw [if_pos ⟨h1, h4⟩, h]
 exact if_pos hn
theorem ZlC (a:Option Addr)(len cap:Nat)(xs:List Nat)(w:World)(h:Came w a len cap xs)(hl:len≠52) :
    Calls Tryz.prog 82 #[.slice a len cap] w (ZaR xs w):=by
  have hsf:∀(w:World) (a:Addr) (m:Mode) (x:Nat),(store a (.float .f64 x) m).run Tryz.prog w=stored Tryz.prog w a (.float .f64 x) m:=fun w a m x=>run_store Tryz.prog w a _ m rfl
  have HZ:=hide (Zai w zeroR (.slice none 0 0))
  have HW:=hide (Zaa w (.cells #[.float .f64 0,.bool false,.slice none 0 0,.int .i64 0,.int .i64 0,.int .i64 0] 33))
  have HN:=hide (Zgx (xs:=xs) (by rw [h.bs.1];exact hl))
  have i1:(len:Int)≠52:=by omega
  clear h
  go_enter Tryz.func82,Tryz.ntmps82
  go_wp2_with fail
  refine bodyPost_ret (ZaN rfl HZ.out _ _ rfl rfl ⟨_,_,_,rfl⟩) rfl ?_
  exact ZaR.no HN.out HW.out
theorem Zkb (a:Option Addr)(cap:Nat)(xs:List Nat)(w:World)(h:Came w a 52 cap xs)(h4:4<xs.getD 19 0) :
    Calls Tryz.prog 82 #[.slice a 52 cap] w (ZaR xs w):=by
  have hsf:∀(w:World) (a:Addr) (m:Mode) (x:Nat),(store a (.float .f64 x) m).run Tryz.prog w=stored Tryz.prog w a (.float .f64 x) m:=fun w a m x=>run_store Tryz.prog w a _ m rfl
  have HZ:=hide (Zai w zeroR (.slice none 0 0))
  have HW:=hide (Zaa w (.cells #[.float .f64 0,.bool false,.slice none 0 0,.int .i64 0,.int .i64 0,.int .i64 0] 33))
  have HN:=hide (Zgy (xs:=xs) h4)
  obtain⟨b,off,rfl,c19⟩:=(h.bs.keep HW.out (Nat.le_refl _)).2.2 19 (by omega)
  generalize xs.getD 19 0=n at *
  have i2:(4:Int)<(n:Int):=by omega
  clear h
  go_enter Tryz.func82,Tryz.ntmps82
  go_wp2_with fail
  refine bodyPost_ret (ZaN rfl HZ.out _ _ rfl rfl ⟨_,_,_,rfl⟩) rfl ?_
  exact ZaR.no HN.out HW.out
theorem Zkc (a:Option Addr)(cap:Nat)(xs:List Nat)(w:World)(h:Came w a 52 cap xs)(h4:xs.getD 19 0≤4) :
    Calls Tryz.prog 82 #[.slice a 52 cap] w (ZaR xs w):=by
  have hsf:∀(w:World) (a:Addr) (m:Mode) (x:Nat),(store a (.float .f64 x) m).run Tryz.prog w=stored Tryz.prog w a (.float .f64 x) m:=fun w a m x=>run_store Tryz.prog w a _ m rfl
  have HZ:=hide (Zai w zeroR (.slice none 0 0))
  have HW:=hide (Zaa w (.cells #[.float .f64 0,.bool false,.slice none 0 0,.int .i64 0,.int .i64 0,.int .i64 0] 33))
  have HXL:Hid (xs.length=52):=h.bs.1
  have HXB:=hide h.bs.2.1
  have HC:=hide h
  have HNO:=hide (ZjO (xs:=xs))
  have HNE:Hid (∀r,decB (xs.take (20+8*xs.getD 19 0))=some r→¬hpB r=xs→decH xs=none):=fun r=>ZmM
  have HYES:Hid (∀r,decB (xs.take (20+8*xs.getD 19 0))=some r→hpB r=xs→decH xs=some r):=fun r=>Zig h.bs.1 h4
  obtain⟨b,off,rfl,c19⟩:=(h.bs.keep HW.out (Nat.le_refl _)).2.2 19 (by omega)
  have HT:=hide ((HC.out.keep HW.out (Nat.le_refl _)).top (k:=20+8*xs.getD 19 0) (by omega))
  have HG:Hid ((xs.take (20+8*xs.getD 19 0)).getD 19 0≤4):=by show _≤_;rw [ZjZ (by omega)];exact h4
  generalize xs.getD 19 0=n at *
  have i2:¬(4:Int)<(n:Int):=by omega
  have hfa:fromA (some ⟨b,off,none⟩) cap 0=some ⟨b,off,none⟩:=by unfold fromA;have:=HC.out.le;rw [if_neg (by omega)];rfl
  rw [hfa] at HT
  have HD:=hide (Zgi (some ⟨b,off,none⟩) (20+8*n) cap (xs.take (20+8*n)) _ HT.out (by omega) HG.out (by omega))
  have hcap:52≤cap:=HC.out.le
  have hsl:∀w:World,(Instr.sliceAt 56 (.slice (some ⟨b,off,none⟩) 52 cap) none (some (.int .i64 (20+8*(n:Int)))) none).run Tryz.prog w=.ok (.slice (some ⟨b,off,none⟩) (20+8*n) cap) w:=by
   intro w
   have:=Zf8 (some ⟨b,off,none⟩) 52 cap (20+8*n) (by omega) w
   rw [hfa,show ((20+8*n:Nat):Int)=20+8*(n:Int) by omega] at this
   exact this
  have hw1:IntKind.i64.wrap (8*(n:Int))=8*(n:Int):=by rw [IntKind.wrap_i64];omega
  have hw2:IntKind.i64.wrap (20+8*(n:Int))=20+8*(n:Int):=by rw [IntKind.wrap_i64];omega
  have hw3:IntKind.i64.wrap (n:Int)=(n:Int):=by rw [IntKind.wrap_i64];omega
  clear h hfa HT HG
  go_enter Tryz.func82,Tryz.ntmps82
  go_wp2_with fail
  refine HD.out.mono ?_
  intro e w1 hr
  have HB1:=hide (Zac HW.out hr.1)
  have HZ1:=hide (HZ.out.keep hr.1)
  have HC1:=hide (HC.out.keep HB1.out (Nat.le_refl _))
  cases hd:decB (xs.take (20+8*n)) with
  | none =>
   have HN:=hide (HNO.out hd)
   have hre:=hr.2.1 hd
   subst hre
   have HZV:=hide Zlp
   have HXN:=hide (Zai w1 zeroR (.slice none 0 0))
   have HFN:=hide (ZjY (w1.alloc (.cells #[.float .f64 zeroR.key,.bool zeroR.dead,.slice none 0 0,.int .i64 zeroR.wr,.int .i64 zeroR.cell,.int .i64 zeroR.no] 33)))
   have HBN:=hide (Zaa w1 (.cells #[.float .f64 zeroR.key,.bool zeroR.dead,.slice none 0 0,.int .i64 zeroR.wr,.int .i64 zeroR.cell,.int .i64 zeroR.no] 33))
   clear hr hd HNO HNE HYES HD c19
   unfold ZcI
   have HBX:Hid (Below w.heap.size w (w1.alloc (.cells #[.float .f64 zeroR.key,.bool zeroR.dead,.slice none 0 0,.int .i64 zeroR.wr,.int .i64 zeroR.cell,.int .i64 zeroR.no] 33))):=Zac HB1.out HBN.out
   have HZX:=hide (HZ1.out.keep HBN.out)
   have HCX:=hide (HC1.out.keep HBN.out (Nat.le_refl _))
   unfold zeroR at HBX HZX HCX HXN HFN HBN
   simp only at HBX HZX HCX HXN HFN HBN
   generalize hWX:w1.alloc (.cells #[.float .f64 0,.bool false,.slice none 0 0,.int .i64 0,.int .i64 0,.int .i64 0] 33)=WX at HBX HZX HCX HXN HFN
   have HWX:=hide hWX
   clear hWX
   go_wp2_with fail
   rw [HWX.out]
   refine Pl.q9 (ops:=Pl.find 4 ((Tryz.f82.body).getD .skip)) ?_
   refine Zo4 WX WX w1.heap.size zeroR none 0 0 (some ⟨b,off,none⟩) 52 cap xs (Below.refl _ _) (by rfl) (by rfl) (by rfl) (by rfl) (by rfl) ?_
   intro u2 w4 hb4
   simp only [Act.put,List.setIfInBounds_toArray,List.set_cons_zero,List.set_cons_succ]
   have HW4:=hide (Zac HBX.out hb4)
   have HZ4:=hide (HZX.out.keep hb4)
   have z0:=HZ4.out.c0
   have z1:=HZ4.out.c1
   have z2:=HZ4.out.c2
   have z3:=HZ4.out.c3
   have z4:=HZ4.out.c4
   have z5:=HZ4.out.c5
   have f0:=HZ4.out.fz
   clear hb4
   go_wp2_with fail
   show bodyPost Tryz.prog Tryz.f82 _ Exit.ret _ (setRw w4 w.heap.size zeroR (.slice none 0 0))
   refine ZbS rfl HZ4.out zeroR (.slice none 0 0) (.bool false) ⟨_,_,_,rfl⟩ (by rfl) (by rfl) (by rfl) ?_
   exact ZaR.no HN.out (Zar HW4.out (Nat.le_refl _) _ _)
  | some r =>
   obtain⟨hrf,ra,rl,rc,hre,hfs,hown⟩:=hr.2.2 r hd
   subst hre
   have hmay:=Zef hd
   have HNE1:=hide (HNE.out r hd)
   have HYES1:=hide (HYES.out r hd)
   have HFit:=hide hrf
   have hbn:=Zaa w1 (.cells #[.float .f64 r.key,.bool r.dead,.slice ra rl rc,.int .i64 r.wr,.int .i64 r.cell,.int .i64 r.no] 33)
   have HBX:=hide (Zac HB1.out hbn)
   have HZX:=hide (HZ1.out.keep hbn)
   have HCX:=hide (HC1.out.keep hbn (Nat.le_refl _))
   have HXN:=hide (Zai w1 r (.slice ra rl rc))
   have HFN:=hide (hfs.keep hbn (Nat.le_refl _))
   have HON:=hide ((hown.lower (b':=w.heap.size) HW.out.size).keep hbn (Nat.le_refl _))
   have HXL5:Hid (rl=r.xs.length):=(hfs.len).symm
   have hx4:=(Rw.may_parts hmay).2.1
   unfold Rw.val
   generalize hWX:w1.alloc (.cells #[.float .f64 r.key,.bool r.dead,.slice ra rl rc,.int .i64 r.wr,.int .i64 r.cell,.int .i64 r.no] 33)=WX at HBX HZX HCX HXN HFN HON
   have HWX:=hide hWX
   clear hWX hr hd HNO HNE HYES HD c19 hrf hfs hown hbn
   go_wp2_with fail
   rw [HWX.out]
   refine Pl.q9 (ops:=Pl.find 4 ((Tryz.f82.body).getD .skip)) ?_
   by_cases hpx:hpB r=xs
   · have HY:=hide (HYES1.out hpx)
     refine Zo6 WX WX w1.heap.size r ra rl rc HXN.out HFN.out HFit.out (some ⟨b,off,none⟩) 52 cap xs HCX.out hmay hpx (Below.refl _ _) (by rfl) (by rfl) (by rfl) (by rfl) (by rfl) ?_
     intro u2 w4 hb4
     simp only [Act.put,List.setIfInBounds_toArray,List.set_cons_zero,List.set_cons_succ]
     have HW4:=hide (Zac HBX.out hb4)
     have HZ4:=hide (HZX.out.keep hb4)
     have HX4:=hide (HXN.out.keep hb4)
     have HO4:=hide (HON.out.keep hb4 (Nat.le_refl _))
     have z0:=HZ4.out.c0
     have z1:=HZ4.out.c1
     have z2:=HZ4.out.c2
     have z3:=HZ4.out.c3
     have z4:=HZ4.out.c4
     have z5:=HZ4.out.c5
     have f0:=HZ4.out.fz
     simp only [zeroR] at z0 z1 z3 z4 z5
     have x0:=HX4.out.c0
     have x1:=HX4.out.c1
     have x2:=HX4.out.c2
     have x3:=HX4.out.c3
     have x4:=HX4.out.c4
     have x5:=HX4.out.c5
     clear hb4 hpx hmay
     go_wp2_with fail
     show bodyPost Tryz.prog Tryz.f82 _ Exit.ret _ (setRw w4 w.heap.size r (.slice ra rl rc))
     refine ZbS rfl HZ4.out r (.slice ra rl rc) (.bool true) ⟨_,_,_,rfl⟩ (by rfl) (by rfl) (by rfl) ?_
     refine⟨Zar HW4.out (Nat.le_refl _) _ _,(fun h=>by rw [HY.out] at h;cases h),fun q h=>?_⟩
     rw [HY.out] at h
     simp only [Option.some.injEq] at h
     subst h
     exact⟨HFit.out,ra,rl,rc,rfl,(HO4.out.setRw HZ4.out _ _).fsAt HFit.out.xs (by omega),HO4.out.setRw HZ4.out _ _⟩
   · have HN:=hide (HNE1.out hpx)
     have hne:¬(bstr (hpB r)).toList=(bstr xs).toList:=beq_eq_false_iff_ne.1 (Zhk (Zbq hmay) HXB.out hpx)
     refine Zo5 WX WX w1.heap.size r ra rl rc HXN.out HFN.out HFit.out (some ⟨b,off,none⟩) 52 cap xs HCX.out hmay hne (Below.refl _ _) (by rfl) (by rfl) (by rfl) (by rfl) (by rfl) ?_
     intro u2 w4 hb4
     simp only [Act.put,List.setIfInBounds_toArray,List.set_cons_zero,List.set_cons_succ]
     clear hpx hne hmay
     have HW4:=hide (Zac HBX.out hb4)
     have HZ4:=hide (HZX.out.keep hb4)
     have z0:=HZ4.out.c0
     have z1:=HZ4.out.c1
     have z2:=HZ4.out.c2
     have z3:=HZ4.out.c3
     have z4:=HZ4.out.c4
     have z5:=HZ4.out.c5
     have f0:=HZ4.out.fz
     simp only [zeroR] at z0 z1 z3 z4 z5
     clear hb4
     go_wp2_with fail
     show bodyPost Tryz.prog Tryz.f82 _ Exit.ret _ (setRw w4 w.heap.size zeroR (.slice none 0 0))
     refine ZbS rfl HZ4.out zeroR (.slice none 0 0) (.bool false) ⟨_,_,_,rfl⟩ (by rfl) (by rfl) (by rfl) ?_
     exact ZaR.no HN.out (Zar HW4.out (Nat.le_refl _) _ _)
theorem ZlB (a : Option Addr) (len cap : Nat) (xs : List Nat) (w : World) (h : Came w a len cap xs) :
    Calls Tryz.prog 82 #[.slice a len cap] w (ZaR xs w) := by
  by_cases hl : len = 52
  · subst hl
    rcases Nat.lt_or_ge 4 (xs.getD 19 0) with h4 | h4
    · exact Zkb a cap xs w h h4
    · exact Zkc a cap xs w h h4
  · exact ZlC a len cap xs w h hl
end Go.Proofs.YtdojdcncncgncaaGreat
