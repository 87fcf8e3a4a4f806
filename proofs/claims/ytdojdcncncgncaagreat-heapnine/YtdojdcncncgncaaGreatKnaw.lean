/-
  Lemmas.
-/
import Derived.Test.YtdojdcncncgncaaGreatKnav
import Derived.Test.YtdojdcncncgncaaGreatKnar
import Derived.Test.YtdojdcncncgncaaGreatKnas
import Derived.Test.YtdojdcncncgncaaGreatKnam
namespace Go.Proofs.YtdojdcncncgncaaGreat
open Go.RowKit
set_option linter.unusedVariables false
set_option maxRecDepth 100000
set_option maxHeartbeats 4000000
variable {xs:List Nat}{w:World}
theorem Zgp.told {w':World}{t:List Int}{l:List Sb}{e:Ending}(h:Zgp w t l e w')(ht:t.length≤1000000)(hl:l.length≤1000):Told w t (bss l) (fun x=>x) e w':=by
 obtain⟨hb,u',v',l',he,lw,hbs⟩:=h
 exact⟨hb,u',v',l',he,(lw.gi ht).wide (fun k hk=>by omega),(lw.gb (by rw [bss_len hbs];exact hl)).wide (fun k hk=>by omega),hbs⟩
theorem Told.relay {w1 w2:World}{x y:Value}{t:List Int}{s:List (List Nat)}{mk:Value→Value}{en:Ending}(h:Told w1 t s mk en w2)(k2:LfBlk w1 (w.heap.size+1) x y)(e:Below w.heap.size w w1) :
    ∃(a2:Option Addr) (n2 c2:Nat) (a5:Option Addr) (n5 c5:Nat) (W9:World),en=.returned (mk (lfV ⟨a2,n2,c2⟩ ⟨a5,n5,c5⟩))∧(Instr.storeAt 67 (.pointer (some ⟨w.heap.size+1,0,none⟩)) (lfV ⟨a2,n2,c2⟩ ⟨a5,n5,c5⟩)).run Tryz.prog w2=.ok () W9∧LfBlk W9 (w.heap.size+1) (Sl.val ⟨a2,n2,c2⟩) (Sl.val ⟨a5,n5,c5⟩)∧∀mk',Told w t s mk' (.returned (mk' (lfV ⟨a2,n2,c2⟩ ⟨a5,n5,c5⟩))) W9:=by
  obtain⟨hb,⟨a2,n2,c2⟩,⟨a5,n5,c5⟩,l',he,gi,gb,hbs⟩:=h
  have hw:w.heap.size+2≤w1.heap.size:=by have:=k2.lt;omega
  obtain⟨W9,hst,k9,hf⟩:=Zeg (k2.below hb) (Zac e hb) (gi.wide (fun k hk=>Nat.le_trans hw hk)) (gb.wide (fun k hk=>Nat.le_trans hw hk))
  rw [hbs] at hf
  exact⟨a2,n2,c2,a5,n5,c5,W9,he,hst,k9,hf⟩
theorem ZgK {s : List (List Nat)} {k : Nat} {r : List Nat} (hk : k < s.length) : layS s k r = s.set k r := by unfold layS; rw [if_neg (by omega)]
def mk3 (i c : Int) (x : Value) : Value := .tuple #[x, .int .i64 i, .int .i64 c]
theorem Zmg {D:Nat→Prop}(w:World)(u v:Sl)(t:List Int)(l:List Sb)(hi:Gi D w u t)(hg:Gb D w v l)(hm:MayL ⟨t,bss l⟩)(i:Int)(x:Sb)(X:Ans)(hX3:Zav (bss l) i=false→X=⟨bss l,3⟩)(hX1:Zav (bss l) i=true→ZaS x.s.len=false→X=⟨bss l,1⟩)
    (hXL:ZaS x.s.len=true→Zav (bss l) i=true→∃k:Nat,i=(k:Int)∧∀W,Below w.heap.size w W→Calls Tryz.prog 101 #[lfV u v,.int .i64 (k:Int),x.s.val] W fun e w'=>Told W t X.s (mk2 X.e) e w') :
    Calls Tryz.prog 103 #[lfV u v,.int .i64 i,x.s.val] w fun e w'=>Told w t X.s (mk2 X.e) e w':=by
  have hT:=Tb.start u hg
  have HT:=hide hT
  have HCK:=hide (Zb9 _ u v t l (hi.below hT.e (Nat.le_refl _)) hT.g hm)
  have HCP:Hid (∀W,Below w.heap.size w W→_):=fun W hW=>(Zbi W u v t l (hi.below hW (Nat.le_refl _)) (hg.below hW (Nat.le_refl _))).mono (fun e w' h=>h.told (by have:=hm.itl.1;simp only at this;omega) (by have:=hg.len;have:=hg.big;omega))
  have HST:Hid (∀W,Below w.heap.size w W→_):=fun W hW=>Zey W u v l (hg.below hW (Nat.le_refl _)) i
  have HRW:=hide (fun W=>Zfr W x.s)
  have HX3:=hide hX3
  have HX1:=hide hX1
  have HXL:=hide hXL
  clear hT hi hg hm hX3 hX1 hXL
  obtain⟨a,len,cap⟩:=v
  obtain⟨ua,ul,uc⟩:=u
  obtain⟨⟨xa,xl,xc⟩,xs⟩:=x
  unfold lfV Sl.val at *
  simp only at *
  go_enter Tryz.func103,Tryz.ntmps103
  go_wp2_with fail
  refine HCK.out.mono ?_
  rintro e w1 ⟨rfl,hb⟩
  have T1:=HT.out.below hb
  have c0:=T1.k1.c0
  have c1:=T1.k1.c1
  have HT1:=hide T1
  clear hb T1 HT HCK
  unfold Sl.val at *
  simp only at *
  go_wp2_with fail
  refine(HST.out w1 HT1.out.e).mono ?_
  rintro e w2 ⟨rfl,hb⟩
  have T2:=HT1.out.below hb
  have c0:=T2.k1.c0
  have c1:=T2.k1.c1
  have HT2:=hide T2
  clear hb T2 HT1 HST
  unfold Sl.val at *
  simp only at *
  cases hsb:Zav (bss l) i with
  | false =>
   have HXE:=hide (HX3.out hsb)
   clear HX3 HX1 HXL hsb
   go_wp2_with fail
   refine(HCP.out w2 HT2.out.e).mono ?_
   rintro e w5 htd
   obtain⟨a2,n2,c2,a5,n5,c5,W9,rfl,hst9,k9,hf9⟩:=Told.relay htd HT2.out.k2 HT2.out.e
   have HST9:=hide hst9
   have HK9:=hide k9
   have HF:Hid (Told w t X.s (mk2 X.e) (.returned (mk2 3 (lfV ⟨a2,n2,c2⟩ ⟨a5,n5,c5⟩))) W9):=by rw [HXE.out];exact hf9 _
   clear hst9 k9 hf9 htd HXE HCP
   unfold lfV Sl.val at *
   simp only at *
   go_wp2_with (refine Zab _ rfl rfl 67 (.tmp 6) (.tmp 20) rfl (.pointer (some ⟨w.heap.size+1,0,none⟩)) (.agg #[.slice a2 n2 c2,.slice a5 n5 c5]) rfl rfl W9 HST9.out ?_)
   refine bodyPost_ret (Zal (u:=⟨a2,n2,c2⟩) (v:=⟨a5,n5,c5⟩) rfl HK9.out _ rfl rfl) rfl ?_
   exact HF.out
  | true =>
   go_wp2_with fail
   refine(HRW.out w2).mono ?_
   rintro e w3 ⟨rfl,hw⟩
   obtain rfl:=hw
   cases hrb:ZaS xl with
   | false =>
    have HXE:=hide (HX1.out hsb hrb)
    clear HX3 HX1 HXL hsb hrb
    go_wp2_with fail
    refine(HCP.out w3 HT2.out.e).mono ?_
    rintro e w5 htd
    obtain⟨a2,n2,c2,a5,n5,c5,W9,rfl,hst9,k9,hf9⟩:=Told.relay htd HT2.out.k2 HT2.out.e
    have HST9:=hide hst9
    have HK9:=hide k9
    have HF:Hid (Told w t X.s (mk2 X.e) (.returned (mk2 1 (lfV ⟨a2,n2,c2⟩ ⟨a5,n5,c5⟩))) W9):=by rw [HXE.out];exact hf9 _
    clear hst9 k9 hf9 htd HXE HCP
    unfold lfV Sl.val at *
    simp only at *
    go_wp2_with (refine Zab _ rfl rfl 67 (.tmp 6) (.tmp 25) rfl (.pointer (some ⟨w.heap.size+1,0,none⟩)) (.agg #[.slice a2 n2 c2,.slice a5 n5 c5]) rfl rfl W9 HST9.out ?_)
    refine bodyPost_ret (Zal (u:=⟨a2,n2,c2⟩) (v:=⟨a5,n5,c5⟩) rfl HK9.out _ rfl rfl) rfl ?_
    exact HF.out
   | true =>
    obtain⟨k,rfl,hlay⟩:=HXL.out hrb hsb
    have HLY:=hide (hlay w3 HT2.out.e)
    clear HX3 HX1 HXL hsb hrb hlay HCP
    go_wp2_with fail
    refine HLY.out.mono ?_
    rintro e w5 htd
    obtain⟨a2,n2,c2,a5,n5,c5,W9,rfl,hst9,k9,hf9⟩:=Told.relay htd HT2.out.k2 HT2.out.e
    have HST9:=hide hst9
    have HK9:=hide k9
    have HF:Hid (Told w t X.s (mk2 X.e) (.returned (mk2 X.e (lfV ⟨a2,n2,c2⟩ ⟨a5,n5,c5⟩))) W9):=hf9 _
    clear hst9 k9 hf9 htd HLY
    unfold lfV Sl.val mk2 at *
    simp only at *
    go_wp2_with (refine Zab _ rfl rfl 67 (.tmp 6) (.tmp 30) rfl (.pointer (some ⟨w.heap.size+1,0,none⟩)) (.agg #[.slice a2 n2 c2,.slice a5 n5 c5]) rfl rfl W9 HST9.out ?_)
    refine bodyPost_ret (Zal (u:=⟨a2,n2,c2⟩) (v:=⟨a5,n5,c5⟩) rfl HK9.out _ rfl rfl) rfl ?_
    exact HF.out
theorem Zjn {D:Nat→Prop}(w:World)(u v:Sl)(t:List Int)(l:List Sb)(hi:Gi D w u t)(hg:Gb D w v l)(hm:MayL ⟨t,bss l⟩)(i:Int)(x:Sb)(hx:Cm D w x.s x.bs) :
    Calls Tryz.prog 103 #[lfV u v,.int .i64 i,x.s.val] w fun e w'=>Told w t (setA (bss l) i x.bs).s (mk2 (setA (bss l) i x.bs).e) e w':=by
  have hxl:=hx.len
  refine Zmg w u v t l hi hg hm i x _ (fun h=>Zjl h) (fun h h1=>Zkq h ?_) (fun h1 h=>?_)
  · unfold ZaS at h1
    simp only [Bool.and_eq_false_iff,decide_eq_false_iff_not] at h1
    omega
  · unfold ZaS at h1
    simp only [Bool.and_eq_true,decide_eq_true_eq] at h1
    obtain⟨k,rfl,hk⟩:=Zex h
    refine⟨k,rfl,fun W hW=>ZfT W u v t l (hi.below hW (Nat.le_refl _)) (hg.below hW (Nat.le_refl _)) hm k (by rw [Zag,hg.len] at hk;omega) x (hx.keep (Kept.all hW (Nat.le_refl _))) (by omega) _ (fun h3=>?_) (fun h3=>?_)⟩
    · rw [ZgK hk] at h3 ⊢
      refine Zl0 h (by omega) (by omega) ?_
      have:=h3.need
      rw [Int.toNat_natCast]
      simp only at this
      omega
    · rw [ZgK hk] at h3
      refine Zjm h (by omega) (by omega) ?_
      rw [Int.toNat_natCast]
      rcases Nat.lt_or_ge 508 (need ((bss l).set k x.bs)) with h4 | h4
      · exact h4
      · exact absurd ⟨hm.itl,hm.slots.set hk (by omega) (by omega),h4⟩ h3
theorem ZkO {D:Nat→Prop}(w:World)(u v:Sl)(t:List Int)(l:List Sb)(hi:Gi D w u t)(hg:Gb D w v l)(hm:MayL ⟨t,bss l⟩)(i:Int)(X:Ans)(hX3:Zav (bss l) i=false→X=⟨bss l,3⟩)(hX0:Zav (bss l) i=true→∃k:Nat,i=(k:Int)∧k<v.len∧X=⟨trim ((bss l).set k []),0⟩) :
    Calls Tryz.prog 56 #[lfV u v,.int .i64 i] w fun e w'=>Told w t X.s (mk2 X.e) e w':=by
  have hT:=Tb.start u hg
  have HT:=hide hT
  have HCK:=hide (Zb9 _ u v t l (hi.below hT.e (Nat.le_refl _)) hT.g hm)
  have HCP:Hid (∀W,Below w.heap.size w W→_):=fun W hW=>Zbi W u v t l (hi.below hW (Nat.le_refl _)) (hg.below hW (Nat.le_refl _))
  have HST:Hid (∀W,Below w.heap.size w W→_):=fun W hW=>Zey W u v l (hg.below hW (Nat.le_refl _)) i
  have HTL:Hid (t.length=4):=hm.itl.1
  have HL:=hide hg.len
  have hlen:v.len≤64:=by have h1:=hm.slots.1;have h2:=hg.len;rw [Zag] at h1;omega
  have HX3:=hide hX3
  have HX0:=hide hX0
  clear hT hi hg hm hX3 hX0
  obtain⟨a,len,cap⟩:=v
  obtain⟨ua,ul,uc⟩:=u
  unfold lfV Sl.val at *
  simp only at *
  go_enter Tryz.func56,Tryz.ntmps56
  go_wp2_with fail
  refine HCK.out.mono ?_
  rintro e w1 ⟨rfl,hb⟩
  have T1:=HT.out.below hb
  have c0:=T1.k1.c0
  have c1:=T1.k1.c1
  have HT1:=hide T1
  clear hb T1 HT HCK
  unfold Sl.val at *
  simp only at *
  go_wp2_with fail
  refine(HCP.out w1 HT1.out.e).mono ?_
  rintro e w2 ⟨hb2,⟨a2,n2,k2⟩,⟨a5,n5,k5⟩,l',rfl,lw,hbs⟩
  obtain⟨W3,hst3,nx⟩:=Nx.start HT1.out hb2 lw
  have HST3:=hide hst3
  have HBS:=hide hbs
  have hn5:n5=len:=by have h1:=OwnB.len lw.ob;have h2:=HL.out;rw [bss_len hbs] at h1;simp only at h1 h2;omega
  subst hn5
  have c0:=nx.k9.c0
  have c1:=nx.k9.c1
  have d0:=nx.k1.c0
  have d1:=nx.k1.c1
  have HNX:=hide nx
  have HS3:=hide (HST.out W3 nx.e)
  clear lw hb2 hbs nx hst3 HT1 HCP HST
  unfold lfV Sl.val at *
  simp only at *
  go_wp2_with (first | refine Zas _ rfl 67 rfl (.pointer (some ⟨w2.heap.size,0,none⟩)) (w2.alloc (.cells #[.slice none 0 0,.slice none 0 0] 67)) (Zat w2) ?_ | refine Zab _ rfl rfl 67 (.tmp 7) (.tmp 16) rfl (.pointer (some ⟨w2.heap.size,0,none⟩)) (.agg #[.slice a2 n2 k2,.slice a5 n5 k5]) rfl rfl W3 HST3.out ?_)
  refine HS3.out.mono ?_
  rintro e w4 ⟨rfl,hb4⟩
  have nx4:=HNX.out.below hb4
  have e0:=nx4.k9.c0
  have e1:=nx4.k9.c1
  have HNX4:=hide nx4
  clear hb4 nx4 HNX HS3 HST3 c0 c1 d0 d1
  unfold Sl.val at *
  simp only at *
  cases hsb:Zav (bss l) i with
  | false =>
   obtain⟨W9,hst9,k9,hf9⟩:=HNX4.out.fin (by rw [HTL.out];decide) (by rw [bss_len HBS.out,HL.out];show n5≤1000;omega)
   have HF:Hid (Told w t X.s (mk2 X.e) (.returned (mk2 3 (lfV ⟨a2,n2,k2⟩ ⟨a5,n5,k5⟩))) W9):=by rw [HX3.out hsb,← HBS.out];exact hf9 _
   have HST9:=hide hst9
   have HK9:=hide k9
   clear hst9 k9 hf9 HX3 HX0 hsb HNX4
   unfold lfV Sl.val at *
   simp only at *
   go_wp2_with (refine Zab _ rfl rfl 67 (.tmp 4) (.tmp 21) rfl (.pointer (some ⟨w.heap.size+1,0,none⟩)) (.agg #[.slice a2 n2 k2,.slice a5 n5 k5]) rfl rfl W9 HST9.out ?_)
   refine bodyPost_ret (Zal (u:=⟨a2,n2,k2⟩) (v:=⟨a5,n5,k5⟩) rfl HK9.out _ rfl rfl) rfl ?_
   exact HF.out
  | true =>
   obtain⟨k,rfl,hkn,hX⟩:=HX0.out hsb
   have HXE:=hide hX
   have i0:(k:Int)<(n5:Int):=by omega
   obtain⟨b6,o6,ha6⟩:=OwnB.pos HNX4.out.ob (by show 0<n5;omega)
   replace ha6:a5=some ⟨b6,o6,none⟩:=ha6
   subst ha6
   obtain⟨W5,hst5,nx5⟩:=HNX4.out.setE k hkn
   have HST5:=hide hst5
   have f0:=nx5.k9.c0
   have f1:=nx5.k9.c1
   have HL5:Hid ((l'.set k Sb.zero).length=n5):=by show _=_;rw [List.length_set,bss_len HBS.out];exact HL.out
   have HB5:Hid (bss (l'.set k Sb.zero)=(bss l).set k []):=by show _=_;rw [Zdr,HBS.out];rfl
   obtain⟨l5,hl5⟩:∃l5,l5=l'.set k Sb.zero:=⟨_,rfl⟩
   rw [← hl5] at nx5 HL5 HB5
   have HNX5:=hide nx5
   clear hl5 hst5 nx5 hX HX3 HX0 hsb HNX4
   unfold Sl.val at *
   simp only at *
   go_wp2_with (refine Zab _ rfl rfl 56 (.tmp 25) (.const (.slice none 0 0)) rfl (.pointer (some ⟨b6,o6+k,none⟩)) (.slice none 0 0) rfl rfl W5 HST5.out ?_)
   have HC0:Hid (cutN (bss l5) n5=cutN (bss l5) n5):=rfl
   clear e0 e1 HST5
   go_loopw [8] (fun iv wr=>wr=W5∧∃n:Nat,n≤n5∧iv=.int .i64 (n:Nat)∧Hid (cutN (bss l5) n5=cutN (bss l5) n)) (fun iv _=>(intOf iv).toNat)
   case atStart=>exact ⟨rfl,n5,Nat.le_refl _,rfl,HC0⟩
   case round =>
    obtain⟨rfl,n,hn,rfl,hcu⟩:=hrel
    have HFIN:Hid (cutN (bss l5) n5=n→∃W6 W9,(Instr.storeAt 65 (.pointer (some ⟨w2.heap.size,1,none⟩)) (.slice (some ⟨b6,o6,none⟩) n n)).run Tryz.prog wr=.ok () W6∧LfBlk W6 w2.heap.size (.slice a2 n2 k2) (.slice (some ⟨b6,o6,none⟩) n n)∧(Instr.storeAt 67 (.pointer (some ⟨w.heap.size+1,0,none⟩)) (lfV ⟨a2,n2,k2⟩ ⟨some ⟨b6,o6,none⟩,n,n⟩)).run Tryz.prog W6=.ok () W9∧LfBlk W9 (w.heap.size+1) (.slice a2 n2 k2) (.slice (some ⟨b6,o6,none⟩) n n)∧Told w t X.s (mk2 X.e) (.returned (mk2 0 (lfV ⟨a2,n2,k2⟩ ⟨some ⟨b6,o6,none⟩,n,n⟩))) W9):=by
     intro hc
     have oc:=Own.cut HNX5.out.ob (n:=n) hn
     have oc2:OwnB wr ⟨some ⟨b6,o6,none⟩,n,n⟩ (l5.take n):=by
      unfold OwnB
      have:Zaz (l5.take n)=(Zaz l5).take n:=by simp [Zaz,List.map_take]
      rw [this]
      exact oc
     obtain⟨W6,hst6,nx6⟩:=HNX5.out.slots (v2:=⟨some ⟨b6,o6,none⟩,n,n⟩) (l2:=l5.take n) oc2 (fun k hk=>HNX5.out.vi k hk) (fun x hx=>HNX5.out.bs x (List.mem_of_mem_take hx))
     obtain⟨W9,hst9,k9,hf9⟩:=nx6.fin (by rw [HTL.out];decide) (by rw [List.length_take,HL5.out];omega)
     refine⟨W6,W9,hst6,nx6.k9,hst9,k9,?_⟩
     have hs:bss (l5.take n)=trim ((bss l).set k []):=by
      rw [Zj5,HB5.out]
      unfold trim
      rw [← HB5.out,Zag,HL5.out,hc]
     rw [HXE.out,← hs]
     exact hf9 _
    rcases Nat.eq_zero_or_pos n with h0 | h0
    · subst h0
      obtain⟨W6,W9,hst6,k6,hst9,k9,hf9⟩:=HFIN.out hcu.out
      have HST6:=hide hst6
      have HST9:=hide hst9
      have HK9:=hide k9
      have HF:=hide hf9
      have HCUT:=hide (Zcw wr (some ⟨b6,o6,none⟩) n5 k5 0 (Nat.zero_le _))
      have g0:=k6.c0
      have g1:=k6.c1
      clear hst6 hst9 k9 hf9 k6 hcu HFIN
      unfold lfV at *
      unfold Sl.val at *
      simp only at *
      go_wp2_with fail
      refine HCUT.out.mono ?_
      rintro e w7 ⟨rfl,hw⟩
      obtain rfl:=hw
      go_wp2_with (first | refine Zab _ rfl rfl 65 (.tmp 47) (.tmp 46) rfl (.pointer (some ⟨w2.heap.size,1,none⟩)) (.slice (some ⟨b6,o6,none⟩) 0 0) rfl rfl W6 HST6.out ?_ | refine Zab _ rfl rfl 67 (.tmp 4) (.tmp 48) rfl (.pointer (some ⟨w.heap.size+1,0,none⟩)) (.agg #[.slice a2 n2 k2,.slice (some ⟨b6,o6,none⟩) 0 0]) rfl rfl W9 HST9.out ?_)
      refine bodyPost_ret (Zal (u:=⟨a2,n2,k2⟩) (v:=⟨some ⟨b6,o6,none⟩,0,0⟩) rfl HK9.out _ rfl rfl) rfl ?_
      exact HF.out
    · obtain⟨m,rfl⟩:∃m,n=m+1:=⟨n-1,by omega⟩
      have hcell:=OwnB.cellAt HNX5.out.ob rfl (i:=m) (by show m<n5;omega)
      have hsl:(l5.getD m Sb.zero).s.len=(sl (bss l5) m).length:=by
       have hm':m<l5.length:=by rw [HL5.out];omega
       rw [ZdX]
       exact(HNX5.out.bs _ (ZbD hm')).1.len.symm
      have hsb:(l5.getD m Sb.zero).bs.length≤1000:=(HNX5.out.bs _ (ZbD (by rw [HL5.out];omega))).2
      rw [ZdX] at hsl
      obtain⟨⟨⟨sa,sn,sc⟩,sbs⟩,hx⟩:∃x,x=l5.getD m Sb.zero:=⟨_,rfl⟩
      have HSL:Hid ((sl (bss l5) m).length=sn):=by show _=_;rw [ZdX,← hsl,← hx]
      rw [← hx] at hcell hsl hsb
      simp only at hcell hsl hsb
      have hsn:sn≤1000:=by omega
      clear hx hsl hsb
      have i1:((m+1:Nat):Int)-1=(m:Int):=by omega
      have i2:(m:Int)<(n5:Int):=by omega
      have i3:(0:Int)<((m+1:Nat):Int):=by omega
      by_cases hz:sn=0
      · subst hz
        have HCN:Hid (cutN (bss l5) n5=cutN (bss l5) m):=by
         have h1:=hcu.out
         rw [cutN,if_pos HSL.out] at h1
         exact h1
        clear hcu HFIN HSL
        unfold Sl.val at *
        simp only at *
        go_wp2_with fail
        go_roundw
        case rel=>exact ⟨trivial,m,by omega,by go_num,HCN⟩
        case measure=>simp only [intOf];omega
      · have hz2:¬(sn:Int)=0:=by omega
        have hz3:((sn:Int) == 0)=false:=by simp [hz]
        have hcn:cutN (bss l5) n5=m+1:=by
         have h1:=hcu.out
         rw [cutN,if_neg (by rw [HSL.out];exact hz)] at h1
         exact h1
        obtain⟨W6,W9,hst6,k6,hst9,k9,hf9⟩:=HFIN.out hcn
        have HST6:=hide hst6
        have HST9:=hide hst9
        have HK9:=hide k9
        have HF:=hide hf9
        have HCUT:=hide (Zcw wr (some ⟨b6,o6,none⟩) n5 k5 (m+1) (by have:=Own.lecap HNX5.out.ob;simp only at this;omega))
        have g0:=k6.c0
        have g1:=k6.c1
        clear hst6 hst9 k9 hf9 k6 hcu HFIN hcn HSL
        unfold lfV at *
        unfold Sl.val at *
        simp only at *
        go_wp2_with fail
        refine HCUT.out.mono ?_
        rintro e w7 ⟨rfl,hw⟩
        obtain rfl:=hw
        go_wp2_with (first | refine Zab _ rfl rfl 65 (.tmp 47) (.tmp 46) rfl (.pointer (some ⟨w2.heap.size,1,none⟩)) (.slice (some ⟨b6,o6,none⟩) (m+1) (m+1)) rfl rfl W6 HST6.out ?_ | refine Zab _ rfl rfl 67 (.tmp 4) (.tmp 48) rfl (.pointer (some ⟨w.heap.size+1,0,none⟩)) (.agg #[.slice a2 n2 k2,.slice (some ⟨b6,o6,none⟩) (m+1) (m+1)]) rfl rfl W9 HST9.out ?_)
        refine bodyPost_ret (Zal (u:=⟨a2,n2,k2⟩) (v:=⟨some ⟨b6,o6,none⟩,m+1,m+1⟩) rfl HK9.out _ rfl rfl) rfl ?_
        exact HF.out
theorem Zg0 {D : Nat → Prop} (w : World) (u v : Sl) (t : List Int) (l : List Sb) (hi : Gi D w u t) (hg : Gb D w v l) (hm : MayL ⟨t, bss l⟩) (i : Int) :
    Calls Tryz.prog 56 #[lfV u v, .int .i64 i] w fun e w' => Told w t (Zcf (bss l) i).s (mk2 (Zcf (bss l) i).e) e w' := by
  refine ZkO w u v t l hi hg hm i _ (fun h => by unfold Zcf; rw [if_pos h]) (fun h => ?_)
  obtain ⟨k, rfl, hk⟩ := Zex h
  exact ⟨k, rfl, by rw [Zag, hg.len] at hk; exact hk, by unfold Zcf; rw [if_neg (by rw [h]; decide), Int.toNat_natCast]⟩
theorem Zk5 {D:Nat→Prop}(w:World)(u v:Sl)(t:List Int)(l:List Sb)(hi:Gi D w u t)(hg:Gb D w v l)(hm:MayL ⟨t,bss l⟩)(x:Sb)(X:An3)(hX1:ZaS x.s.len=false→X=⟨bss l,-1,1⟩)
    (Y:Ans)(hLY:ZaS x.s.len=true→∀W,Below w.heap.size w W→Calls Tryz.prog 101 #[lfV u v,.int .i64 ((atE (bss l):Nat):Int),x.s.val] W fun e w'=>Told W t Y.s (mk2 Y.e) e w')(hX0:ZaS x.s.len=true→Y.e=0→X=⟨Y.s,((atE (bss l):Nat):Int),0⟩)(hX7:ZaS x.s.len=true→Y.e≠0→X=⟨Y.s,-1,Y.e⟩) :
    Calls Tryz.prog 50 #[lfV u v,x.s.val] w fun e w'=>Told w t X.s (mk3 X.at_ X.e) e w':=by
  have hT:=Tb.start u hg
  have HT:=hide hT
  have HCK:=hide (Zb9 _ u v t l (hi.below hT.e (Nat.le_refl _)) hT.g hm)
  have HCP:Hid (∀W,Below w.heap.size w W→_):=fun W hW=>(Zbi W u v t l (hi.below hW (Nat.le_refl _)) (hg.below hW (Nat.le_refl _))).mono (fun e w' h=>h.told (by have:=hm.itl.1;simp only at this;omega) (by have:=hg.len;have:=hg.big;omega))
  have HIX:Hid (∀W,Below w.heap.size w W→_):=fun W hW=>ZjM W v l (hg.below hW (Nat.le_refl _))
  have HRW:=hide (fun W=>Zfr W x.s)
  have HX1:=hide hX1
  have HX0:=hide hX0
  have HX7:=hide hX7
  have HLY:=hide hLY
  have HL:=hide hg.len
  have hixE:(ixE (bss l) = -1∧atE (bss l)=v.len)∨ixE (bss l)=((atE (bss l):Nat):Int):=by
   unfold ixE
   split
   · rename_i h
     exact .inl ⟨rfl,by rw [h,Zag,hg.len]⟩
   · exact .inr rfl
  have HIE:=hide hixE
  clear hT hi hg hm hX1 hX0 hX7 hLY hixE
  obtain⟨a,len,cap⟩:=v
  obtain⟨ua,ul,uc⟩:=u
  obtain⟨⟨xa,xl,xc⟩,xs⟩:=x
  unfold lfV Sl.val at *
  simp only at *
  go_enter Tryz.func50,Tryz.ntmps50
  go_wp2_with fail
  refine HCK.out.mono ?_
  rintro e w1 ⟨rfl,hb⟩
  have T1:=HT.out.below hb
  have c0:=T1.k1.c0
  have c1:=T1.k1.c1
  have HT1:=hide T1
  clear hb T1 HT HCK
  unfold Sl.val at *
  simp only at *
  go_wp2_with fail
  refine(HRW.out w1).mono ?_
  rintro e w2 ⟨rfl,hw⟩
  obtain rfl:=hw
  cases hrb:ZaS xl with
  | false =>
   have HXE:=hide (HX1.out hrb)
   have HT2:=HT1
   clear HX0 HX7 HLY HX1 hrb HIX HIE
   go_wp2_with fail
   refine(HCP.out w2 HT2.out.e).mono ?_
   rintro e w5 htd
   obtain⟨a2,n2,c2,a5,n5,c5,W9,rfl,hst9,k9,hf9⟩:=Told.relay htd HT2.out.k2 HT2.out.e
   have HST9:=hide hst9
   have HK9:=hide k9
   have HF:Hid (Told w t X.s (mk3 X.at_ X.e) (.returned (mk3 (-1) 1 (lfV ⟨a2,n2,c2⟩ ⟨a5,n5,c5⟩))) W9):=by rw [HXE.out];exact hf9 _
   clear hst9 k9 hf9 htd HXE HCP HT1
   unfold lfV Sl.val at *
   simp only at *
   go_wp2_with (refine Zab _ rfl rfl 67 (.tmp 4) (.tmp 21) rfl (.pointer (some ⟨w.heap.size+1,0,none⟩)) (.agg #[.slice a2 n2 c2,.slice a5 n5 c5]) rfl rfl W9 HST9.out ?_)
   refine bodyPost_ret (ZaX (u:=⟨a2,n2,c2⟩) (v:=⟨a5,n5,c5⟩) rfl HK9.out _ rfl rfl rfl) rfl ?_
   exact HF.out
  | true =>
   have HLY2:=hide (HLY.out hrb w2 HT1.out.e)
   have HX02:=hide (HX0.out hrb)
   have HX72:=hide (HX7.out hrb)
   have HIX2:=hide (HIX.out w2 HT1.out.e)
   clear HLY HX0 HX7 HX1 hrb HIX HCP HRW
   obtain⟨q,hq⟩:∃q,q=atE (bss l):=⟨_,rfl⟩
   rw [← hq] at HLY2 HX02 HIE
   clear hq
   go_wp2_with fail
   refine HIX2.out.mono ?_
   rintro e w3 ⟨rfl,hw⟩
   obtain rfl:=hw
   rcases HIE.out with ⟨he,hql⟩ | he
   · rw [he]
     subst hql
     clear he HIE HIX2
     go_wp2_with fail
     refine HLY2.out.mono ?_
     rintro e w5 ⟨hb5,⟨a2,n2,c2⟩,⟨a5,n5,c5⟩,l5,rfl,gi5,gb5,hbs5⟩
     have T5:=HT1.out.below hb5
     have hsz:=HT1.out.sz
     have hA:=Zaa w5 (.cells #[.slice none 0 0,.slice none 0 0] 67)
     have kn:=Zak w5 (.slice none 0 0) (.slice none 0 0)
     obtain⟨W6,hst6,k6,f6⟩:=Zbp _ _ _ _ kn ⟨a2,n2,c2⟩ ⟨a5,n5,c5⟩
     have hB6:Below w5.heap.size w5 W6:=hA.trans (f6.below hA.size (fun k hk=>by omega))
     have T6:=T5.below hB6
     obtain⟨W9,hst9,k9,hf9⟩:=Zeg T6.k2 T6.e ((gi5.below hB6 (Nat.le_refl _)).wide (fun k hk=>Nat.le_trans hsz hk)) ((gb5.below hB6 (Nat.le_refl _)).wide (fun k hk=>Nat.le_trans hsz hk))
     rw [hbs5] at hf9
     have HST6:=hide hst6
     have HST9:=hide hst9
     have HK9:=hide k9
     have m0:=k6.c0
     have m1:=k6.c1
     clear gi5 gb5 hbs5 hb5 T5 T6 hA kn hst6 k6 f6 hB6 hst9 k9 HT1 HLY2 hsz c0 c1
     unfold mk2 lfV Sl.val at *
     simp only at *
     by_cases hy:Y.e=0
     · have HF:Hid (Told w t X.s (mk3 X.at_ X.e) (.returned (mk3 (q:Int) 0 (lfV ⟨a2,n2,c2⟩ ⟨a5,n5,c5⟩))) W9):=by rw [HX02.out hy];exact hf9 _
       rw [hy]
       clear hf9 HX02 HX72 hy
       go_wp2_with (first | refine Zas _ rfl 67 rfl (.pointer (some ⟨w5.heap.size,0,none⟩)) (w5.alloc (.cells #[.slice none 0 0,.slice none 0 0] 67)) (Zat w5) ?_ | refine Zab _ rfl rfl 67 (.tmp 9) (.tmp 35) rfl (.pointer (some ⟨w5.heap.size,0,none⟩)) (.agg #[.slice a2 n2 c2,.slice a5 n5 c5]) rfl rfl W6 HST6.out ?_ | refine Zab _ rfl rfl 67 (.tmp 4) (.tmp 41) rfl (.pointer (some ⟨w.heap.size+1,0,none⟩)) (.agg #[.slice a2 n2 c2,.slice a5 n5 c5]) rfl rfl W9 HST9.out ?_)
       refine bodyPost_ret (ZaX (u:=⟨a2,n2,c2⟩) (v:=⟨a5,n5,c5⟩) rfl HK9.out _ rfl rfl rfl) rfl ?_
       exact HF.out
     · have HF:Hid (Told w t X.s (mk3 X.at_ X.e) (.returned (mk3 (-1) Y.e (lfV ⟨a2,n2,c2⟩ ⟨a5,n5,c5⟩))) W9):=by rw [HX72.out hy];exact hf9 _
       have hy2:(Y.e != 0)=true:=by simp [hy]
       clear hf9 HX02 HX72
       go_wp2_with (first | refine Zas _ rfl 67 rfl (.pointer (some ⟨w5.heap.size,0,none⟩)) (w5.alloc (.cells #[.slice none 0 0,.slice none 0 0] 67)) (Zat w5) ?_ | refine Zab _ rfl rfl 67 (.tmp 9) (.tmp 35) rfl (.pointer (some ⟨w5.heap.size,0,none⟩)) (.agg #[.slice a2 n2 c2,.slice a5 n5 c5]) rfl rfl W6 HST6.out ?_ | refine Zab _ rfl rfl 67 (.tmp 4) (.tmp 39) rfl (.pointer (some ⟨w.heap.size+1,0,none⟩)) (.agg #[.slice a2 n2 c2,.slice a5 n5 c5]) rfl rfl W9 HST9.out ?_)
       refine bodyPost_ret (ZaX (u:=⟨a2,n2,c2⟩) (v:=⟨a5,n5,c5⟩) rfl HK9.out _ rfl rfl rfl) rfl ?_
       exact HF.out
   · rw [he]
     have i1:¬(q:Int)<0:=by omega
     clear he HIE HIX2
     go_wp2_with fail
     refine HLY2.out.mono ?_
     rintro e w5 ⟨hb5,⟨a2,n2,c2⟩,⟨a5,n5,c5⟩,l5,rfl,gi5,gb5,hbs5⟩
     have T5:=HT1.out.below hb5
     have hsz:=HT1.out.sz
     have hA:=Zaa w5 (.cells #[.slice none 0 0,.slice none 0 0] 67)
     have kn:=Zak w5 (.slice none 0 0) (.slice none 0 0)
     obtain⟨W6,hst6,k6,f6⟩:=Zbp _ _ _ _ kn ⟨a2,n2,c2⟩ ⟨a5,n5,c5⟩
     have hB6:Below w5.heap.size w5 W6:=hA.trans (f6.below hA.size (fun k hk=>by omega))
     have T6:=T5.below hB6
     obtain⟨W9,hst9,k9,hf9⟩:=Zeg T6.k2 T6.e ((gi5.below hB6 (Nat.le_refl _)).wide (fun k hk=>Nat.le_trans hsz hk)) ((gb5.below hB6 (Nat.le_refl _)).wide (fun k hk=>Nat.le_trans hsz hk))
     rw [hbs5] at hf9
     have HST6:=hide hst6
     have HST9:=hide hst9
     have HK9:=hide k9
     have m0:=k6.c0
     have m1:=k6.c1
     clear gi5 gb5 hbs5 hb5 T5 T6 hA kn hst6 k6 f6 hB6 hst9 k9 HT1 HLY2 hsz c0 c1
     unfold mk2 lfV Sl.val at *
     simp only at *
     by_cases hy:Y.e=0
     · have HF:Hid (Told w t X.s (mk3 X.at_ X.e) (.returned (mk3 (q:Int) 0 (lfV ⟨a2,n2,c2⟩ ⟨a5,n5,c5⟩))) W9):=by rw [HX02.out hy];exact hf9 _
       rw [hy]
       clear hf9 HX02 HX72 hy
       go_wp2_with (first | refine Zas _ rfl 67 rfl (.pointer (some ⟨w5.heap.size,0,none⟩)) (w5.alloc (.cells #[.slice none 0 0,.slice none 0 0] 67)) (Zat w5) ?_ | refine Zab _ rfl rfl 67 (.tmp 9) (.tmp 35) rfl (.pointer (some ⟨w5.heap.size,0,none⟩)) (.agg #[.slice a2 n2 c2,.slice a5 n5 c5]) rfl rfl W6 HST6.out ?_ | refine Zab _ rfl rfl 67 (.tmp 4) (.tmp 41) rfl (.pointer (some ⟨w.heap.size+1,0,none⟩)) (.agg #[.slice a2 n2 c2,.slice a5 n5 c5]) rfl rfl W9 HST9.out ?_)
       refine bodyPost_ret (ZaX (u:=⟨a2,n2,c2⟩) (v:=⟨a5,n5,c5⟩) rfl HK9.out _ rfl rfl rfl) rfl ?_
       exact HF.out
     · have HF:Hid (Told w t X.s (mk3 X.at_ X.e) (.returned (mk3 (-1) Y.e (lfV ⟨a2,n2,c2⟩ ⟨a5,n5,c5⟩))) W9):=by rw [HX72.out hy];exact hf9 _
       have hy2:(Y.e != 0)=true:=by simp [hy]
       clear hf9 HX02 HX72
       go_wp2_with (first | refine Zas _ rfl 67 rfl (.pointer (some ⟨w5.heap.size,0,none⟩)) (w5.alloc (.cells #[.slice none 0 0,.slice none 0 0] 67)) (Zat w5) ?_ | refine Zab _ rfl rfl 67 (.tmp 9) (.tmp 35) rfl (.pointer (some ⟨w5.heap.size,0,none⟩)) (.agg #[.slice a2 n2 c2,.slice a5 n5 c5]) rfl rfl W6 HST6.out ?_ | refine Zab _ rfl rfl 67 (.tmp 4) (.tmp 39) rfl (.pointer (some ⟨w.heap.size+1,0,none⟩)) (.agg #[.slice a2 n2 c2,.slice a5 n5 c5]) rfl rfl W9 HST9.out ?_)
       refine bodyPost_ret (ZaX (u:=⟨a2,n2,c2⟩) (v:=⟨a5,n5,c5⟩) rfl HK9.out _ rfl rfl rfl) rfl ?_
       exact HF.out
theorem Zi7 {D:Nat→Prop}(w:World)(u v:Sl)(t:List Int)(l:List Sb)(hi:Gi D w u t)(hg:Gb D w v l)(hm:MayL ⟨t,bss l⟩)(x:Sb)(hx:Cm D w x.s x.bs) :
    Calls Tryz.prog 50 #[lfV u v,x.s.val] w fun e w'=>Told w t (insA (bss l) x.bs).s (mk3 (insA (bss l) x.bs).at_ (insA (bss l) x.bs).e) e w':=by
  have hxl:=hx.len
  have hrow:ZaS x.s.len=true→1≤x.bs.length∧x.bs.length≤255:=by
   intro h
   unfold ZaS at h
   simp only [Bool.and_eq_true,decide_eq_true_eq] at h
   omega
  have hlay:layS (bss l) (atE (bss l)) x.bs=insS (bss l) x.bs:=rfl
  have hat:atE (bss l)≤v.len:=by
   have h2:=hg.len
   rcases Zbf (bss l) with ⟨e,_⟩ | ⟨e,_⟩ <;> rw [Zag] at e <;> omega
  by_cases hM:MayL ⟨t,insS (bss l) x.bs⟩
  · have h64:¬(64<(insS (bss l) x.bs).length∨508<need (insS (bss l) x.bs)):=by
     have h1:=hM.slots.1
     have h2:=hM.need
     simp only at h1 h2
     omega
    refine Zk5 w u v t l hi hg hm x _ (fun h=>?_) ⟨insS (bss l) x.bs,0⟩ (fun h W hW=>?_) (fun h _=>?_) (fun h h0=>absurd rfl h0)
    · unfold ZaS at h
      simp only [Bool.and_eq_false_iff,decide_eq_false_iff_not] at h
      unfold insA
      rw [if_pos (by omega)]
    · exact ZfT W u v t l (hi.below hW (Nat.le_refl _)) (hg.below hW (Nat.le_refl _)) hm _ hat x (hx.keep (Kept.all hW (Nat.le_refl _))) (hrow h).2 _ (fun _=>by rw [hlay]) (fun h3=>absurd hM h3)
    · have h1:=hrow h
      unfold insA
      rw [if_neg (by omega),if_neg h64]
  · refine Zk5 w u v t l hi hg hm x _ (fun h=>?_) ⟨bss l,7⟩ (fun h W hW=>?_) (fun h h0=>by cases h0) (fun h h0=>?_)
    · unfold ZaS at h
      simp only [Bool.and_eq_false_iff,decide_eq_false_iff_not] at h
      unfold insA
      rw [if_pos (by omega)]
    · exact ZfT W u v t l (hi.below hW (Nat.le_refl _)) (hg.below hW (Nat.le_refl _)) hm _ hat x (hx.keep (Kept.all hW (Nat.le_refl _))) (hrow h).2 _ (fun h3=>absurd h3 hM) (fun _=>rfl)
    · have h1:=hrow h
      have h64:64<(insS (bss l) x.bs).length∨508<need (insS (bss l) x.bs):=by
       rcases Nat.lt_or_ge 64 (insS (bss l) x.bs).length with h4 | h4
       · exact .inl h4
       · rcases Nat.lt_or_ge 508 (need (insS (bss l) x.bs)) with h5 | h5
         · exact .inr h5
         · exact absurd ⟨hm.itl,Zi6 hm.slots h1.1 h1.2 h4,h5⟩ hM
      unfold insA
      rw [if_neg (by omega),if_pos h64]
theorem Came.top {a : Option Addr} {len cap k : Nat} (h : Came w a len cap xs) (hk : k ≤ len) : Came w (fromA a cap 0) k cap (xs.take k) := by
 refine ⟨h.bs.upto hk, fun e => ?_, by have := h.le; omega, by have := h.big; omega⟩
 unfold fromA at e
 split at e
 · omega
 · cases a with
   | none => exact h.nil rfl
   | some x => simp at e
def Zch (xs : List Nat) (w : World) (e : Ending) (w' : World) : Prop :=
  Below w.heap.size w w' ∧ (decH xs = none → e = .returned (.tuple #[ZdQ, .bool false])) ∧
    (∀ r, decH xs = some r → r.fits ∧ ∃ a len cap, e = .returned (.tuple #[r.val (.slice a len cap), .bool true]) ∧ Fs w' a len cap r.xs ∧ OwnsV 23 w' w.heap.size (.slice a len cap) (fVals r.xs))
theorem Zch.no {xs : List Nat} {w w' : World} (hd : decH xs = none) (hb : Below w.heap.size w w') : Zch xs w (.returned (.tuple #[ZdQ, .bool false])) w' :=
  ⟨hb, fun _ => rfl, fun r h => by rw [hd] at h; cases h⟩
theorem Zig (h : xs.length ≠ 52) : decH xs = none := by
 unfold decH
 rw [if_neg (fun e => h e.1)]
theorem Zih (h : 4 < xs.getD 19 0) : decH xs = none := by
 unfold decH
 rw [if_neg (fun e => by have := e.2; omega)]
theorem ZkM (h : decB (xs.take (20 + 8 * xs.getD 19 0)) = none) : decH xs = none := by
 unfold decH
 split
 · rw [h]
 · rfl
theorem ZjB (h1 : xs.length = 52) (h4 : xs.getD 19 0 ≤ 4) {r : Rw} (h : decB (xs.take (20 + 8 * xs.getD 19 0)) = some r) (hn : hpB r = xs) : decH xs = some r := by
 unfold decH
 rw [if_pos ⟨h1, h4⟩, h]
 exact if_pos hn
end Go.Proofs.YtdojdcncncgncaaGreat
