/-
  Lemmas.
-/
import Derived.Test.YtdojdcncncgncaaGreatKobc
import Derived.Deep.CutBlock
import Derived.Sort.WalkA
import Derived.Sort.LotD3
import Derived.Test.YtdojdcncncgncaaGreatKoaj
namespace Go.Proofs.YtdojdcncncgncaaGreat
open Go.RowKit
set_option linter.unusedVariables false
set_option maxRecDepth 100000
set_option maxHeartbeats 4000000
variable {w0 W:World}{blk off m hi first root:Nat}{d:Array Int}{xs:List Nat}
theorem ZlK (w : World) (x : Sl) (hx : x.len ≤ 1000000) : Calls Tryz.prog 92 #[x.val] w fun e w' => e = .returned (.bool (decide (x.len = 0))) ∧ w' = w := by
 obtain ⟨a, n, c⟩ := x
 unfold Sl.val
 simp only
 by_cases h : n = 0
 · subst h
   go_enter Tryz.func92, Tryz.ntmps92
   go_wp2_with fail
   go_ret
   exact ⟨rfl, rfl⟩
 · have i1 : ¬ (n : Int) = 0 := by omega
   have i2 : ((n : Int) == 0) = false := by simp [h]
   rw [decide_eq_false h]
   go_enter Tryz.func92, Tryz.ntmps92
   go_wp2_with fail
   go_ret
   exact ⟨by simp, rfl⟩
theorem Zki {D:Nat→Prop}(w:World)(v:Sl)(l:List Sb)(h:Gb D w v l) :
    Calls Tryz.prog 99 #[v.val,.func (.func 92) #[] #[]] w fun e w'=>e=.returned (.int .i64 (ixE (bss l)))∧w'=w:=by
  obtain⟨a,len,cap⟩:=v
  have HG:=hide h
  have HL:Hid ((bss l).length=len):=by show _=_;rw [Zah];exact h.len
  have hbig:len≤1000:=h.big
  clear h
  unfold Sl.val
  simp only
  go_enter Tryz.func99,Tryz.ntmps99
  go_wp2_with fail
  go_loopw [8] (fun iv wr=>wr=w∧∃i:Nat,i≤len∧iv=.int .i64 (i:Nat)∧Hid (∀j,j<i→(sl (bss l) j).length≠0)) (fun iv _=>len-(intOf iv).toNat)
  case atStart=>exact ⟨rfl,0,Nat.zero_le _,rfl,fun _ h=>absurd h (Nat.not_lt_zero _)⟩
  case round =>
   obtain⟨rfl,i,hi,rfl,hix⟩:=hrel
   rcases Nat.lt_or_ge i len with hlt | hge
   · have i1:(i:Int)<(len:Int):=by omega
     obtain⟨bb,oo,ha,c0⟩:=HG.out.cell i hlt
     replace ha:a=some ⟨bb,oo,none⟩:=ha
     subst ha
     obtain⟨_,hsl,h1000⟩:=HG.out.at hlt
     obtain⟨⟨sa,sn,sc⟩,hsb⟩:∃s,s=(l.getD i Sb.zero).s:=⟨_,rfl⟩
     rw [← hsb] at c0 hsl
     have HCL:=hide (ZlK wr ⟨sa,sn,sc⟩ (by show sn≤_;have:sn=_:=hsl;omega))
     unfold Sl.val at c0 HCL
     simp only at c0 hsl HCL
     have HS:=hide hsl
     clear hsb hsl h1000
     by_cases h0:sn=0
     · rw [decide_eq_true h0] at HCL
       have HE:Hid (ixE (bss l)=(i:Int)):=by
        have e:=ZhY (s:=bss l) (n:=i) hix.out (.inr ⟨by rw [HL.out];exact hlt,by rw [← HS.out];exact h0⟩)
        show _=_
        unfold ixE
        rw [e,if_neg (by rw [HL.out];omega)]
       clear hix HS h0
       go_wp2_with fail
       refine HCL.out.mono ?_
       rintro e w1 ⟨rfl,hw⟩
       obtain rfl:=hw.symm
       go_wp2_with fail
       go_ret
       exact⟨by rw [HE.out];rfl,rfl⟩
     · rw [decide_eq_false h0] at HCL
       have HE:Hid (∀j,j<i+1→(sl (bss l) j).length≠0):=by
        intro j hj
        by_cases e:j=i
        · rw [e,← HS.out];exact h0
        · exact hix.out j (by omega)
       clear hix HS h0
       go_wp2_with fail
       refine HCL.out.mono ?_
       rintro e w1 ⟨rfl,hw⟩
       obtain rfl:=hw.symm
       go_wp2_with fail
       go_roundw
       case rel=>exact ⟨trivial,i+1,by omega,by go_num,HE⟩
       case measure=>simp only [intOf];omega
   · have i1:¬(i:Int)<(len:Int):=by omega
     have HE:Hid (ixE (bss l) = -1):=by
      have e:=ZhY (s:=bss l) (n:=(bss l).length) (fun j hj=>hix.out j (by rw [HL.out] at hj;omega)) (.inl rfl)
      show _=_
      unfold ixE
      rw [if_pos e]
     clear hix
     go_wp2_with fail
     go_ret
     exact⟨by rw [HE.out];rfl,rfl⟩
theorem ZlM (w : World) (x : Nat) : Calls Tryz.prog 141 #[.int .u8 (x : Int)] w fun e w' => e = .returned (.bool (!(x == 0))) ∧ w' = w := by
 by_cases h : x = 0
 · subst h
   go_enter Tryz.func141, Tryz.ntmps141
   go_wp2_with fail
   go_ret
   exact ⟨rfl, rfl⟩
 · have i1 : ¬ (x : Int) = 0 := by omega
   have i2 : (x == 0) = false := by simp [h]
   rw [i2]
   go_enter Tryz.func141, Tryz.ntmps141
   go_wp2_with fail
   go_ret
   exact ⟨by simp [h], rfl⟩
theorem Zkj (w:World)(a:Option Addr)(len cap:Nat)(xs:List Nat)(h:Bs w a len xs)(hbig:len≤1000000) :
    Calls Tryz.prog 158 #[.slice a len cap,.func (.func 141) #[] #[]] w fun e w'=>(∃z,e=.returned (.int .i64 z)∧decide (0≤z) = !(nul xs))∧w'=w:=by
  have HG:=hide h
  have HL:=hide h.1
  clear h
  go_enter Tryz.func158,Tryz.ntmps158
  go_wp2_with fail
  go_loopw [8] (fun iv wr=>wr=w∧∃i:Nat,i≤len∧iv=.int .i64 (i:Nat)∧Hid (∀j,j<i→xs.getD j 0=0)) (fun iv _=>len-(intOf iv).toNat)
  case atStart=>exact ⟨rfl,0,Nat.zero_le _,rfl,fun _ h=>absurd h (Nat.not_lt_zero _)⟩
  case round =>
   obtain⟨rfl,i,hi,rfl,hix⟩:=hrel
   rcases Nat.lt_or_ge i len with hlt | hge
   · have i1:(i:Int)<(len:Int):=by omega
     obtain⟨bb,oo,ha,c0⟩:=HG.out.2.2 i hlt
     subst ha
     obtain⟨x,hx⟩:∃x,x=xs.getD i 0:=⟨_,rfl⟩
     rw [← hx] at c0
     have HX:=hide hx
     have HCL:=hide (ZlM wr x)
     clear hx
     by_cases h0:x=0
     · rw [h0] at HCL c0
       have HE:Hid (∀j,j<i+1→xs.getD j 0=0):=by
        intro j hj
        by_cases e:j=i
        · rw [e,← HX.out];exact h0
        · exact hix.out j (by omega)
       clear hix HX h0
       go_wp2_with fail
       refine HCL.out.mono ?_
       rintro e w1 ⟨rfl,hw⟩
       obtain rfl:=hw.symm
       go_wp2_with fail
       go_roundw
       case rel=>exact ⟨trivial,i+1,by omega,by go_num,HE⟩
       case measure=>simp only [intOf];omega
     · have hb:(!(x == 0))=true:=by simp [h0]
       rw [hb] at HCL
       have HE:Hid (decide (0≤(i:Int)) = !(nul xs)):=by
        show _=_
        rw [Zog (i:=i) (by rw [HL.out];exact hlt) (by rw [← HX.out];exact h0)]
        simp
       clear hix HX h0 hb
       go_wp2_with fail
       refine HCL.out.mono ?_
       rintro e w1 ⟨rfl,hw⟩
       obtain rfl:=hw.symm
       go_wp2_with fail
       go_ret
       exact⟨⟨_,rfl,HE.out⟩,rfl⟩
   · have i1:¬(i:Int)<(len:Int):=by omega
     have HE:Hid (decide (0≤(-1:Int)) = !(nul xs)):=by
      show _=_
      rw [Znn (fun j hj=>hix.out j (by rw [HL.out] at hj;omega))]
      rfl
     clear hix
     go_wp2_with fail
     go_ret
     exact⟨⟨_,rfl,HE.out⟩,rfl⟩
theorem ZiF {D : Nat → Prop} (w : World) (v : Sl) (l : List Sb) (h : Gb D w v l) :
    Calls Tryz.prog 91 #[v.val, .func (.func 92) #[] #[]] w fun e w' => e = .returned (.bool (decide (0 ≤ ixE (bss l)))) ∧ w' = w := by
  have HX := hide (Zki w v l h)
  clear h
  generalize ixE (bss l) = z at *
  unfold Sl.val at *
  by_cases hz : 0 ≤ z
  · rw [decide_eq_true hz]
    go_enter Tryz.func91, Tryz.ntmps91
    go_wp2_with fail
    refine HX.out.mono ?_
    rintro e w1 ⟨rfl, hw⟩
    obtain rfl := hw.symm
    go_wp2_with fail
    go_ret
    exact ⟨by simp, rfl⟩
  · rw [decide_eq_false hz]
    go_enter Tryz.func91, Tryz.ntmps91
    go_wp2_with fail
    refine HX.out.mono ?_
    rintro e w1 ⟨rfl, hw⟩
    obtain rfl := hw.symm
    go_wp2_with fail
    go_ret
    exact ⟨by simp [hz], rfl⟩
theorem ZiG (w:World)(a:Option Addr)(len cap:Nat)(xs:List Nat)(h:Bs w a len xs)(hbig:len≤1000000) :
    Calls Tryz.prog 140 #[.slice a len cap,.func (.func 141) #[] #[]] w fun e w'=>e=.returned (.bool (!(nul xs)))∧w'=w:=by
  have HX:=hide (Zkj w a len cap xs h hbig)
  clear h
  generalize nul xs=n at *
  go_enter Tryz.func140,Tryz.ntmps140
  go_wp2_with fail
  refine HX.out.mono ?_
  rintro e w1 ⟨⟨z,rfl,hz⟩,hw⟩
  obtain rfl:=hw.symm
  have HZ:=hide hz
  clear HX hz
  go_wp2_with fail
  go_ret
  exact⟨by rw [← HZ.out];rfl,rfl⟩
def ZnI (f : Lf) (e : Ending) : Prop := (MayL f ∧ e = .returned (.bool false)) ∨ (¬ MayL f ∧ e = .returned (.bool true))
theorem Zji {D:Nat→Prop}(w:World)(u v:Sl)(t:List Int)(l:List Sb)(hi:Gi D w u t)(hg:Gb D w v l) :
    Calls Tryz.prog 70 #[lfV u v] w fun e w'=>ZnI ⟨t,bss l⟩ e∧Below w.heap.size w w':=by
  have hA:=Zaa w (.cells #[u.val,v.val] 67)
  have hk:=Zam w u.val v.val
  have c0:=hk.c0
  have c1:=hk.c1
  have HC:=hide (ZdC _ u v t l (hi.below hA (Nat.le_refl _)) (hg.below hA (Nat.le_refl _)))
  have HA:=hide hA
  clear hi hg hA hk
  obtain⟨a,len,cap⟩:=v
  obtain⟨ua,ul,uc⟩:=u
  unfold lfV Sl.val at *
  simp only at *
  go_enter Tryz.func70,Tryz.ntmps70
  go_wp2_with fail
  refine HC.out.mono ?_
  rintro e w1 ⟨hck,hb⟩
  have HB:=hide (Zac HA.out hb)
  clear hb HC HA
  rcases hck with ⟨hm,rfl⟩ | ⟨hm,rfl⟩
  · have HM:=hide hm
    clear hm
    go_wp2_with fail
    go_ret
    exact⟨.inl ⟨HM.out,rfl⟩,HB.out⟩
  · have HM:=hide hm
    clear hm
    go_wp2_with fail
    go_ret
    exact⟨.inr ⟨HM.out,rfl⟩,HB.out⟩
def IxNl (l : List Lf) (e : Ending) : Prop := ((∀ f ∈ l, MayL f) ∧ e = .returned (.int .i64 (-1))) ∨ ((¬ ∀ f ∈ l, MayL f) ∧ ∃ i : Nat, e = .returned (.int .i64 (i : Nat)))
theorem Zkk (w:World)(s:Sl)(L:List Lb)(h:Gl (fun _=>True) w s L) :
    Calls Tryz.prog 47 #[s.val,.func (.func 70) #[] #[]] w fun e w'=>IxNl (lfs L) e∧Below w.heap.size w w':=by
  obtain⟨a,len,cap⟩:=s
  have HE:=hide h
  have hl:L.length=len:=h.len
  have hbig:len≤900:=h.big
  have H0:=hide (Below.refl w.heap.size w)
  clear h
  have HL:=hide hl
  clear hl
  unfold Sl.val
  simp only
  go_enter Tryz.func47,Tryz.ntmps47
  go_wp2_with fail
  go_loopw [8] (fun iv wr=>∃i:Nat,i≤len∧iv=.int .i64 (i:Nat)∧Hid (∀j,j<i→MayL (lf (lfs L) j))∧Hid (Below w.heap.size w wr)) (fun iv _=>len-(intOf iv).toNat)
  case atStart=>exact ⟨0,Nat.zero_le _,rfl,fun j hj=>absurd hj (Nat.not_lt_zero _),H0⟩
  case round =>
   obtain⟨i,hi,rfl,hix,hbr⟩:=hrel
   rcases Nat.lt_or_ge i len with hlt | hge
   · have i1:(i:Int)<(len:Int):=by omega
     have hr:=HE.out.below hbr.out (Nat.le_refl _)
     have hlt':i<(Sl.mk a len cap).len:=hlt
     obtain⟨b1,off,ha,c0,c1⟩:=hr.cell i hlt'
     replace ha:a=some ⟨b1,off,none⟩:=ha
     subst ha
     have hit:=hr.at hlt'
     have hfe:=Zck L i
     obtain⟨x,hx⟩:∃x,x=L.getD i Lb.zero:=⟨_,rfl⟩
     rw [← hx] at c0 c1 hit hfe
     have HCL:=hide (Zji wr x.u x.v x.t x.l hit.1 hit.2)
     have HLD:=hide (ZaU (b:=b1) (o:=off+i*2) c0 c1)
     have HFE:Hid (lf (lfs L) i=⟨x.t,bss x.l⟩):=hfe
     clear c0 c1 hit hr hx hfe
     go_wp2_with (refine Zaq _ rfl 67 (.tmp 14) rfl (.pointer (some ⟨b1,off+i*2,none⟩)) (lfV x.u x.v) rfl HLD.out ?_)
     refine HCL.out.mono ?_
     rintro e w1 ⟨hns,hb1⟩
     have HB1:=hide (Zac hbr.out hb1)
     clear hb1 HCL HLD
     rcases hns with ⟨hm,rfl⟩ | ⟨hm,rfl⟩
     · have HN:Hid (∀j,j<i+1→MayL (lf (lfs L) j)):=by
        intro j hj
        by_cases e:j=i
        · rw [e,HFE.out];exact hm
        · exact hix.out j (by omega)
       clear hm hix HFE
       go_wp2_with fail
       go_roundw
       case rel=>exact ⟨i+1,by omega,by go_num,HN,HB1⟩
       case measure=>simp only [intOf];omega
     · have HF:Hid (¬ ∀f∈lfs L,MayL f):=fun hh=>hm (by rw [← HFE.out];exact hh _ (Zbc (by rw [ZaA,HL.out];exact hlt)))
       clear hm hix HFE
       go_wp2_with fail
       go_ret
       exact⟨.inr ⟨HF.out,i,rfl⟩,HB1.out⟩
   · have i1:¬(i:Int)<(len:Int):=by omega
     have HF:Hid (∀f∈lfs L,MayL f):=by
      intro f hf
      obtain⟨j,hj,rfl⟩:=List.getElem_of_mem hf
      have:=hix.out j (by rw [ZaA,HL.out] at hj;omega)
      rwa [Zdm hj] at this
     clear hix
     go_wp2_with fail
     go_ret
     exact⟨.inl ⟨HF.out,rfl⟩,hbr.out⟩
theorem ZiH (w:World)(s:Sl)(L:List Lb)(h:Gl (fun _=>True) w s L) :
    Calls Tryz.prog 69 #[s.val,.func (.func 70) #[] #[]] w fun e w'=>(((∀f∈lfs L,MayL f)∧e=.returned (.bool false))∨((¬ ∀f∈lfs L,MayL f)∧e=.returned (.bool true)))∧Below w.heap.size w w':=by
  have HX:=hide (Zkk w s L h)
  clear h
  unfold Sl.val at *
  go_enter Tryz.func69,Tryz.ntmps69
  go_wp2_with fail
  refine HX.out.mono ?_
  rintro e w1 ⟨hx,hb⟩
  have HB:=hide hb
  clear hb HX
  rcases hx with ⟨hm,rfl⟩ | ⟨hm,i,rfl⟩
  · have HM:=hide hm
    clear hm
    go_wp2_with fail
    go_ret
    exact⟨.inl ⟨HM.out,rfl⟩,HB.out⟩
  · have HM:=hide hm
    have hi0:(0:Int)≤(i:Int):=by omega
    clear hm
    go_wp2_with fail
    go_ret
    exact⟨.inr ⟨HM.out,rfl⟩,HB.out⟩
theorem Zmk {f:Lf}(hm:MayL f)(h52:∀x∈f.slots,x ≠ []→x.length=52){y:List Nat}(hy:y.length=52) :
    (insA f.slots y).e=0↔if 0≤ixE f.slots then need f.slots+52≤508 else need f.slots+52<508:=by
  unfold insA
  rw [if_neg (by omega)]
  rcases Zb3 f.slots with ⟨he,hall⟩ | ⟨he,hz,hbe⟩
  · have hx:ixE f.slots = -1:=by unfold ixE;rw [if_pos he]
    rw [hx,if_neg (show ¬(0:Int) ≤ -1 by decide)]
    have hins:insS f.slots y=f.slots ++ [y]:=by unfold insS;rw [if_pos he]
    have hn:need (f.slots ++ [y])=need f.slots+53:=by unfold need;rw [Zfw,hy];omega
    have hlen:needS f.slots=53*f.slots.length:=by
     have h:∀(s:List (List Nat)),(∀x∈s,x.length=52)→needS s=53*s.length:=by
      intro s
      induction s with
      | nil=>intro _;rfl
      | cons x t ih =>
       intro hh
       have h1:=hh x List.mem_cons_self
       have h2:=ih (fun z hz=>hh z (List.mem_cons_of_mem _ hz))
       simp only [needS,List.length_cons,h1,h2]
       omega
     refine h _ (fun x hx=>h52 x hx ?_)
     obtain⟨i,hi,rfl⟩:=List.getElem_of_mem hx
     have:=hall i hi
     rw [ZcM hi] at this
     intro e
     rw [e] at this
     exact this rfl
    have hneed:=hm.need
    have hd:need f.slots=18+needS f.slots:=rfl
    rw [hins,hn]
    simp only [List.length_append,List.length_cons,List.length_nil]
    by_cases hr:508<need f.slots+53
    · rw [if_pos (.inr hr)]
      constructor
      · intro h;exact absurd h (show ¬(7:Int)=0 by decide)
      · intro h;omega
    · rw [if_neg (by omega)]
      constructor
      · intro _;omega
      · intro _;rfl
  · have hx:ixE f.slots=((atE f.slots:Nat):Int):=by unfold ixE;rw [if_neg (by omega)]
    rw [hx,if_pos (show (0:Int)≤((atE f.slots:Nat):Int) by omega)]
    have hins:insS f.slots y=f.slots.set (atE f.slots) y:=by unfold insS;rw [if_neg (by omega)]
    have hset:=Zcm f.slots (atE f.slots) y he
    rw [hz,hy] at hset
    have hn:need (f.slots.set (atE f.slots) y)=need f.slots+52:=by unfold need;omega
    have hlen:=hm.slots.1
    rw [hins,hn,List.length_set]
    by_cases hr:508<need f.slots+52
    · rw [if_pos (.inr hr)]
      constructor
      · intro h;exact absurd h (show ¬(7:Int)=0 by decide)
      · intro h;omega
    · rw [if_neg (by omega)]
      constructor
      · intro _;omega
      · intro _;rfl
theorem Zhz {D:Nat→Prop}(w:World)(u v:Sl)(t:List Int)(l:List Sb)(hi:Gi D w u t)(hg:Gb D w v l)(hm:MayL ⟨t,bss l⟩)(h52:∀x∈bss l,x ≠ []→x.length=52)(y:List Nat)(hy:y.length=52) :
    Calls Tryz.prog 48 #[lfV u v] w fun e w'=>e=.returned (.bool (decide ((insA (bss l) y).e=0)))∧Below w.heap.size w w':=by
  have hri:=Zmk hm h52 hy
  have hA:=Zaa w (.cells #[u.val,v.val] 67)
  have hk:=Zam w u.val v.val
  have c0:=hk.c0
  have c1:=hk.c1
  have HE:=hide (ZiF _ v l (hg.below hA (Nat.le_refl _)))
  have HR:=hide (Zml _ u v t l (hi.below hA (Nat.le_refl _)) (hg.below hA (Nat.le_refl _)) hm)
  have HA:=hide hA
  have hn5:need (bss l)≤508:=hm.need
  obtain⟨n,hn⟩:∃n,n=need (bss l):=⟨_,rfl⟩
  have hri2:(insA (bss l) y).e=0↔if 0≤ixE (bss l) then need (bss l)+52≤508 else need (bss l)+52<508:=hri
  rw [← hn] at hri2 hn5 HR
  obtain⟨r,hr⟩:∃r:Bool,r=decide ((insA (bss l) y).e=0):=⟨_,rfl⟩
  rw [← hr]
  have HRI:Hid ((0≤ixE (bss l)→r=decide (n+52≤508))∧(¬0≤ixE (bss l)→r=decide (n+52<508))):=by
   refine⟨fun h=>?_,fun h=>?_⟩
   · rw [if_pos h] at hri2;rw [hr];exact decide_eq_decide.2 hri2
   · rw [if_neg h] at hri2;rw [hr];exact decide_eq_decide.2 hri2
  clear hi hg hA hk hri hri2 hn hr hm h52
  obtain⟨a,len,cap⟩:=v
  obtain⟨ua,ul,uc⟩:=u
  unfold lfV Sl.val at *
  simp only at *
  generalize ixE (bss l)=z at *
  by_cases hz:0≤z
  · rw [decide_eq_true hz] at HE
    have HR3:=hide (HRI.out.1 hz)
    clear HRI hz
    go_enter Tryz.func48,Tryz.ntmps48
    go_wp2_with fail
    refine HE.out.mono ?_
    rintro e w1 ⟨rfl,hw⟩
    obtain rfl:=hw.symm
    go_wp2_with fail
    refine HR.out.mono ?_
    rintro e w2 ⟨rfl,hb⟩
    have HB:=hide (Zac HA.out hb)
    clear hb
    go_wp2_with fail
    go_ret
    refine⟨?_,HB.out⟩
    rw [HR3.out]
    refine congrArg (fun b=>Ending.returned (Value.bool b)) (?_:decide ((52:Int)≤508-(n:Int))=_)
    exact decide_eq_decide.2 (by omega)
  · rw [decide_eq_false hz] at HE
    have HR3:=hide (HRI.out.2 hz)
    clear HRI hz
    go_enter Tryz.func48,Tryz.ntmps48
    go_wp2_with fail
    refine HE.out.mono ?_
    rintro e w1 ⟨rfl,hw⟩
    obtain rfl:=hw.symm
    go_wp2_with fail
    refine HR.out.mono ?_
    rintro e w2 ⟨rfl,hb⟩
    have HB:=hide (Zac HA.out hb)
    clear hb
    go_wp2_with fail
    go_ret
    refine⟨?_,HB.out⟩
    rw [HR3.out]
    refine congrArg (fun b=>Ending.returned (Value.bool b)) (?_:decide ((52:Int)<508-(n:Int))=_)
    exact decide_eq_decide.2 (by omega)
def rmI : Option Nat → Int
  | none => -1
  | some i => i
theorem Zkl (w:World)(s:Sl)(L:List Lb)(h:Gl (fun _=>True) w s L)(hm:MayH (lfs L))(y:List Nat)(hy:y.length=52) :
    Calls Tryz.prog 47 #[s.val,.func (.func 48) #[] #[]] w fun e w'=>e=.returned (.int .i64 (rmI (roomH y (lfs L) 0)))∧Below w.heap.size w w':=by
  obtain⟨a,len,cap⟩:=s
  have HE:=hide h
  have hl:L.length=len:=h.len
  have hbig:len≤900:=h.big
  have H0:=hide (Below.refl w.heap.size w)
  clear h
  have HL:=hide hl
  have HM:Hid (∀f∈lfs L,MayL f∧∀x∈f.slots,x ≠ []→x.length=52):=fun f hf=>⟨hm.leaf f hf,fun x hx hn=>by
   cases hd:decH x with
   | none=>exact absurd hd (hm.rows f hf x hx hn)
   | some r=>exact (Zb6 hd).1⟩
  clear hl hm
  obtain⟨R,hR⟩:∃R,R=rmI (roomH y (lfs L) 0):=⟨_,rfl⟩
  rw [← hR]
  have HR:=hide hR
  clear hR
  unfold Sl.val
  simp only
  go_enter Tryz.func47,Tryz.ntmps47
  go_wp2_with fail
  go_loopw [8] (fun iv wr=>∃i:Nat,i≤len∧iv=.int .i64 (i:Nat)∧Hid (∀j,j<i→(insA (lf (lfs L) j).slots y).e≠0)∧Hid (Below w.heap.size w wr)) (fun iv _=>len-(intOf iv).toNat)
  case atStart=>exact ⟨0,Nat.zero_le _,rfl,fun j hj=>absurd hj (Nat.not_lt_zero _),H0⟩
  case round =>
   obtain⟨i,hi,rfl,hix,hbr⟩:=hrel
   rcases Nat.lt_or_ge i len with hlt | hge
   · have i1:(i:Int)<(len:Int):=by omega
     have hr:=HE.out.below hbr.out (Nat.le_refl _)
     have hlt':i<(Sl.mk a len cap).len:=hlt
     obtain⟨b1,off,ha,c0,c1⟩:=hr.cell i hlt'
     replace ha:a=some ⟨b1,off,none⟩:=ha
     subst ha
     have hit:=hr.at hlt'
     have hfe:=Zck L i
     obtain⟨x,hx⟩:∃x,x=L.getD i Lb.zero:=⟨_,rfl⟩
     rw [← hx] at c0 c1 hit hfe
     have HFE:Hid (lf (lfs L) i=⟨x.t,bss x.l⟩):=hfe
     have hmf:=HM.out _ (Zbc (l:=lfs L) (i:=i) (by rw [ZaA,HL.out];exact hlt))
     rw [HFE.out] at hmf
     have HCL:=hide (Zhz wr x.u x.v x.t x.l hit.1 hit.2 hmf.1 hmf.2 y hy)
     have HLD:=hide (ZaU (b:=b1) (o:=off+i*2) c0 c1)
     clear c0 c1 hit hr hx hfe hmf
     cases hon:decide ((insA (bss x.l) y).e=0) with
     | true =>
      rw [hon] at HCL
      have HF:Hid (R=(i:Int)):=by
       show _=_
       rw [HR.out,Zmj (l:=lfs L) (j:=i) (by rw [ZaA,HL.out];exact hlt) (by rw [HFE.out];exact of_decide_eq_true hon) (fun k hk=>hix.out k hk)]
       rfl
      clear hix HFE hon
      go_wp2_with (refine Zaq _ rfl 67 (.tmp 14) rfl (.pointer (some ⟨b1,off+i*2,none⟩)) (lfV x.u x.v) rfl HLD.out ?_)
      refine HCL.out.mono ?_
      rintro e w1 ⟨rfl,hb1⟩
      have HB1:=hide (Zac hbr.out hb1)
      clear hb1 HCL HLD
      go_wp2_with fail
      go_ret
      exact⟨by rw [HF.out];rfl,HB1.out⟩
     | false =>
      rw [hon] at HCL
      have HN:Hid (∀j,j<i+1→(insA (lf (lfs L) j).slots y).e≠0):=by
       intro j hj
       by_cases e:j=i
       · rw [e,HFE.out];exact of_decide_eq_false hon
       · exact hix.out j (by omega)
      clear hix HFE hon
      go_wp2_with (refine Zaq _ rfl 67 (.tmp 14) rfl (.pointer (some ⟨b1,off+i*2,none⟩)) (lfV x.u x.v) rfl HLD.out ?_)
      refine HCL.out.mono ?_
      rintro e w1 ⟨rfl,hb1⟩
      have HB1:=hide (Zac hbr.out hb1)
      clear hb1 HCL HLD
      go_wp2_with fail
      go_roundw
      case rel=>exact ⟨i+1,by omega,by go_num,HN,HB1⟩
      case measure=>simp only [intOf];omega
   · have i1:¬(i:Int)<(len:Int):=by omega
     have HF:Hid (R = -1):=by
      show _=_
      rw [HR.out,ZcC.2 (fun k hk=>hix.out k (by rw [ZaA,HL.out] at hk;omega))]
      rfl
     clear hix
     go_wp2_with fail
     go_ret
     exact⟨by rw [HF.out];rfl,hbr.out⟩
theorem Zof (h : nul xs = true) : xs = List.replicate xs.length 0 := by
 rw [List.eq_replicate_iff]
 refine ⟨rfl, fun x hx => ?_⟩
 unfold nul at h
 have := List.all_eq_true.1 h x hx
 simpa using this
theorem Zjj (n : Nat) : nul (List.replicate n 0) = true := by
 unfold nul
 rw [List.all_eq_true]
 intro x hx
 rw [(List.mem_replicate.1 hx).2]
 rfl
theorem ZmN (hn:nul (xs.drop (20+8*xs.getD 19 0))=false):decH xs=none:=by
 cases hd:decH xs with
 | none=>rfl
 | some r =>
  obtain⟨h1,h2,h3,h4⟩:=Zb6 hd
  have hm:=Zef h3
  have h19:=Zkh hm
  rw [h4] at h19
  have hl:=Zb4 r
  have:xs.drop (20+8*xs.getD 19 0)=List.replicate (52-r.bytes.length) 0:=by
   rw [h19,← h4,← hl]
   unfold hpB
   rw [List.drop_left]
  rw [this,Zjj] at hn
  cases hn
theorem ZnL (hx : Bytes xs) (h1 : xs.length = 52) (h4 : xs.getD 19 0 ≤ 4) (hn : nul (xs.drop (20 + 8 * xs.getD 19 0)) = true) {r : Rw} (h : decB (xs.take (20 + 8 * xs.getD 19 0)) = some r) : decH xs = some r := by
 refine Zig h1 h4 h ?_
 have hc := Zg0 (fun x hh => hx x (List.mem_of_mem_take hh)) h
 have hz := Zof hn
 unfold hpB
 rw [hc, List.length_take, Nat.min_eq_left (by omega)]
 rw [List.length_drop, h1] at hz
 rw [← hz, List.take_append_drop]
theorem ZkT (a:Option Addr)(len cap:Nat)(xs:List Nat)(w:World)(h:Came w a len cap xs)(hl:len≠52) :
    Calls Tryz.prog 110 #[.slice a len cap] w (ZaR xs w):=by
  have hsf:∀(w:World) (a:Addr) (m:Mode) (x:Nat),(store a (.float .f64 x) m).run Tryz.prog w=stored Tryz.prog w a (.float .f64 x) m:=fun w a m x=>run_store Tryz.prog w a _ m rfl
  have HZ:=hide (Zai w zeroR (.slice none 0 0))
  have HW:=hide (Zaa w (.cells #[.float .f64 0,.bool false,.slice none 0 0,.int .i64 0,.int .i64 0,.int .i64 0] 33))
  have HN:=hide (Zgx (xs:=xs) (by rw [h.bs.1];exact hl))
  have i1:¬(len:Int)=52:=by omega
  have i2:((len:Int) == 52)=false:=beq_eq_false_iff_ne.2 i1
  clear h
  go_enter Tryz.func110,Tryz.ntmps110
  go_wp2_with fail
  refine bodyPost_ret (ZaN rfl HZ.out _ _ rfl rfl ⟨_,_,_,rfl⟩) rfl ?_
  exact ZaR.no HN.out HW.out
theorem Zju (a:Option Addr)(cap:Nat)(xs:List Nat)(w:World)(h:Came w a 52 cap xs)(h4:4<xs.getD 19 0) :
    Calls Tryz.prog 110 #[.slice a 52 cap] w (ZaR xs w):=by
  have hsf:∀(w:World) (a:Addr) (m:Mode) (x:Nat),(store a (.float .f64 x) m).run Tryz.prog w=stored Tryz.prog w a (.float .f64 x) m:=fun w a m x=>run_store Tryz.prog w a _ m rfl
  have HZ:=hide (Zai w zeroR (.slice none 0 0))
  have HW:=hide (Zaa w (.cells #[.float .f64 0,.bool false,.slice none 0 0,.int .i64 0,.int .i64 0,.int .i64 0] 33))
  have HN:=hide (Zgy (xs:=xs) h4)
  have hb:xs.getD 19 0<256:=by
   have hl:=h.bs.1
   have:=h.bs.2.1 (xs.getD 19 0) (by simp [List.getD,show 19<xs.length by omega])
   omega
  obtain⟨b,off,rfl,c19⟩:=(h.bs.keep HW.out (Nat.le_refl _)).2.2 19 (by omega)
  generalize xs.getD 19 0=n at *
  have i2:(52:Int)<20+8*(n:Int):=by omega
  have hw1:IntKind.i64.wrap (8*(n:Int))=8*(n:Int):=by rw [IntKind.wrap_i64];omega
  have hw2:IntKind.i64.wrap (20+8*(n:Int))=20+8*(n:Int):=by rw [IntKind.wrap_i64];omega
  have hw3:IntKind.i64.wrap (n:Int)=(n:Int):=by rw [IntKind.wrap_i64];omega
  clear h
  go_enter Tryz.func110,Tryz.ntmps110
  go_wp2_with fail
  refine bodyPost_ret (ZaN rfl HZ.out _ _ rfl rfl ⟨_,_,_,rfl⟩) rfl ?_
  exact ZaR.no HN.out HW.out
theorem Zjv (a:Option Addr)(cap:Nat)(xs:List Nat)(w:World)(h:Came w a 52 cap xs)(h4:xs.getD 19 0≤4) :
    Calls Tryz.prog 110 #[.slice a 52 cap] w (ZaR xs w):=by
  have hsf:∀(w:World) (a:Addr) (m:Mode) (x:Nat),(store a (.float .f64 x) m).run Tryz.prog w=stored Tryz.prog w a (.float .f64 x) m:=fun w a m x=>run_store Tryz.prog w a _ m rfl
  have HZ:=hide (Zai w zeroR (.slice none 0 0))
  have HW:=hide (Zaa w (.cells #[.float .f64 0,.bool false,.slice none 0 0,.int .i64 0,.int .i64 0,.int .i64 0] 33))
  have HXL:Hid (xs.length=52):=h.bs.1
  have HXB:=hide h.bs.2.1
  have HC:=hide h
  have HNO:=hide (ZjO (xs:=xs))
  have HNZ:=hide (ZmN (xs:=xs))
  have HYES:Hid (nul (xs.drop (20+8*xs.getD 19 0))=true→∀r,decB (xs.take (20+8*xs.getD 19 0))=some r→decH xs=some r):=fun hn r hr=>ZnL HXB.out HXL.out h4 hn hr
  have hbs:=h.bs.keep HW.out (Nat.le_refl _)
  have hfrom:=hbs.from (cap:=cap) (k:=20+8*xs.getD 19 0) (by omega) h.le
  have HCN:=hide (ZiG _ _ _ (cap-(20+8*xs.getD 19 0)) _ hfrom (by omega))
  obtain⟨b,off,rfl,c19⟩:=hbs.2.2 19 (by omega)
  have HT:=hide ((HC.out.keep HW.out (Nat.le_refl _)).top (k:=20+8*xs.getD 19 0) (by omega))
  clear hbs hfrom
  generalize xs.getD 19 0=n at *
  have i2:¬(52:Int)<20+8*(n:Int):=by omega
  have hfa:fromA (some ⟨b,off,none⟩) cap 0=some ⟨b,off,none⟩:=by unfold fromA;have:=HC.out.le;rw [if_neg (by omega)];rfl
  rw [hfa] at HT
  have HD:=hide (ZiJ (some ⟨b,off,none⟩) (20+8*n) cap (xs.take (20+8*n)) _ HT.out (by omega))
  have hcap:52≤cap:=HC.out.le
  have hsl:∀w:World,(Instr.sliceAt 56 (.slice (some ⟨b,off,none⟩) 52 cap) none (some (.int .i64 (20+8*(n:Int)))) none).run Tryz.prog w=.ok (.slice (some ⟨b,off,none⟩) (20+8*n) cap) w:=by
   intro w
   have:=Zf8 (some ⟨b,off,none⟩) 52 cap (20+8*n) (by omega) w
   rw [hfa,show ((20+8*n:Nat):Int)=20+8*(n:Int) by omega] at this
   exact this
  obtain⟨fa,hfe⟩:∃fa,fa=fromA (some ⟨b,off,none⟩) cap (20+8*n):=⟨_,rfl⟩
  obtain⟨fl,hfl⟩:∃fl,fl=52-(20+8*n):=⟨_,rfl⟩
  obtain⟨fc,hfc⟩:∃fc,fc=cap-(20+8*n):=⟨_,rfl⟩
  have hsf2:∀w:World,(Instr.sliceAt 56 (.slice (some ⟨b,off,none⟩) 52 cap) (some (.int .i64 (20+8*(n:Int)))) none none).run Tryz.prog w=.ok (.slice fa fl fc) w:=by
   intro w
   have:=ZcE (some ⟨b,off,none⟩) 52 cap (20+8*n) (by omega) w
   rw [← hfe,← hfl,← hfc,show ((20+8*n:Nat):Int)=20+8*(n:Int) by omega] at this
   exact this
  rw [← hfe,← hfl,← hfc] at HCN
  have hw1:IntKind.i64.wrap (8*(n:Int))=8*(n:Int):=by rw [IntKind.wrap_i64];omega
  have hw2:IntKind.i64.wrap (20+8*(n:Int))=20+8*(n:Int):=by rw [IntKind.wrap_i64];omega
  have hw3:IntKind.i64.wrap (n:Int)=(n:Int):=by rw [IntKind.wrap_i64];omega
  clear h hfa HT hfe hfl hfc
  cases hnu:nul (xs.drop (20+8*n)) with
  | false =>
   rw [hnu] at HCN
   have HN:=hide (HNZ.out hnu)
   clear hnu HNZ HYES HNO HD
   go_enter Tryz.func110,Tryz.ntmps110
   go_wp2_with fail
   refine HCN.out.mono ?_
   rintro e w1 ⟨rfl,hw⟩
   obtain rfl:=hw.symm
   go_wp2_with fail
   refine bodyPost_ret (ZaN rfl HZ.out _ _ rfl rfl ⟨_,_,_,rfl⟩) rfl ?_
   exact ZaR.no HN.out HW.out
  | true =>
   rw [hnu] at HCN
   have HYES2:=hide (HYES.out hnu)
   clear hnu HNZ HYES
   go_enter Tryz.func110,Tryz.ntmps110
   go_wp2_with fail
   refine HCN.out.mono ?_
   rintro e w1 ⟨rfl,hw⟩
   obtain rfl:=hw.symm
   go_wp2_with fail
   refine HD.out.mono ?_
   intro e w1 hr
   have HB1:=hide (Zac HW.out hr.1)
   have HZ1:=hide (HZ.out.keep hr.1)
   cases hd:decB (xs.take (20+8*n)) with
   | none =>
    have HN:=hide (HNO.out hd)
    have hre:=hr.2.1 hd
    subst hre
    have HBN:=hide (Zaa w1 (.cells #[.float .f64 zeroR.key,.bool zeroR.dead,.slice none 0 0,.int .i64 zeroR.wr,.int .i64 zeroR.cell,.int .i64 zeroR.no] 33))
    clear hr hd HNO HYES2 HD c19 HCN
    unfold ZcI
    have HBX:Hid (Below w.heap.size w (w1.alloc (.cells #[.float .f64 zeroR.key,.bool zeroR.dead,.slice none 0 0,.int .i64 zeroR.wr,.int .i64 zeroR.cell,.int .i64 zeroR.no] 33))):=Zac HB1.out HBN.out
    have HZX:=hide (HZ1.out.keep HBN.out)
    unfold zeroR at HBX HZX HBN
    simp only at HBX HZX HBN
    have HXN:=hide (Zai w1 zeroR (.slice none 0 0))
    unfold zeroR at HXN
    simp only at HXN
    generalize hWX:w1.alloc (.cells #[.float .f64 0,.bool false,.slice none 0 0,.int .i64 0,.int .i64 0,.int .i64 0] 33)=WX at HBX HZX HXN
    have HWX:=hide hWX
    clear hWX
    have z0:=HZX.out.c0
    have z1:=HZX.out.c1
    have z2:=HZX.out.c2
    have z3:=HZX.out.c3
    have z4:=HZX.out.c4
    have z5:=HZX.out.c5
    have f0:=HZX.out.fz
    have x0:=HXN.out.c0
    have x1:=HXN.out.c1
    have x2:=HXN.out.c2
    have x3:=HXN.out.c3
    have x4:=HXN.out.c4
    have x5:=HXN.out.c5
    simp only at z0 z1 z3 z4 z5 x0 x1 x3 x4 x5
    go_upto_region 7 with fail
    rw [HWX.out]
    go_wp2_with fail
    show bodyPost Tryz.prog Tryz.f110 _ Exit.ret _ (setRw WX w.heap.size zeroR (.slice none 0 0))
    refine ZbS rfl HZX.out zeroR (.slice none 0 0) (.bool false) ⟨_,_,_,rfl⟩ (by rfl) (by rfl) (by rfl) ?_
    exact ZaR.no HN.out (Zar HBX.out (Nat.le_refl _) _ _)
   | some r =>
    obtain⟨hrf,ra,rl,rc,hre,hfs,hown⟩:=hr.2.2 r hd
    subst hre
    have HY:=hide (HYES2.out r hd)
    have HFit:=hide hrf
    have hbn:=Zaa w1 (.cells #[.float .f64 r.key,.bool r.dead,.slice ra rl rc,.int .i64 r.wr,.int .i64 r.cell,.int .i64 r.no] 33)
    have HBX:=hide (Zac HB1.out hbn)
    have HZX:=hide (HZ1.out.keep hbn)
    have HXN:=hide (Zai w1 r (.slice ra rl rc))
    have HON:=hide ((hown.lower (b':=w.heap.size) HW.out.size).keep hbn (Nat.le_refl _))
    have hmay:=Zef hd
    have hx4:=(Rw.may_parts hmay).2.1
    have hxl5:rl=r.xs.length:=(hfs.len).symm
    have HXL5:Hid (r.xs.length≤100):=by show _≤_;omega
    unfold Rw.val
    generalize hWX:w1.alloc (.cells #[.float .f64 r.key,.bool r.dead,.slice ra rl rc,.int .i64 r.wr,.int .i64 r.cell,.int .i64 r.no] 33)=WX at HBX HZX HXN HON
    have HWX:=hide hWX
    clear hWX hr hd HNO HYES2 HD c19 HCN hrf hfs hown hbn hmay hx4 hxl5
    have z0:=HZX.out.c0
    have z1:=HZX.out.c1
    have z2:=HZX.out.c2
    have z3:=HZX.out.c3
    have z4:=HZX.out.c4
    have z5:=HZX.out.c5
    have f0:=HZX.out.fz
    simp only [zeroR] at z0 z1 z3 z4 z5
    have x0:=HXN.out.c0
    have x1:=HXN.out.c1
    have x2:=HXN.out.c2
    have x3:=HXN.out.c3
    have x4:=HXN.out.c4
    have x5:=HXN.out.c5
    go_upto_region 7 with fail
    rw [HWX.out]
    go_wp2_with fail
    show bodyPost Tryz.prog Tryz.f110 _ Exit.ret _ (setRw WX w.heap.size r (.slice ra rl rc))
    refine ZbS rfl HZX.out r (.slice ra rl rc) (.bool true) ⟨_,_,_,rfl⟩ (by rfl) (by rfl) (by rfl) ?_
    refine⟨Zar HBX.out (Nat.le_refl _) _ _,(fun h=>by rw [HY.out] at h;cases h),fun q h=>?_⟩
    rw [HY.out] at h
    simp only [Option.some.injEq] at h
    subst h
    exact⟨HFit.out,ra,rl,rc,rfl,(HON.out.setRw HZX.out _ _).fsAt HFit.out.xs (by have:=HXL5.out;omega),HON.out.setRw HZX.out _ _⟩
theorem ZkS (a : Option Addr) (len cap : Nat) (xs : List Nat) (w : World) (h : Came w a len cap xs) :
    Calls Tryz.prog 110 #[.slice a len cap] w (ZaR xs w) := by
  by_cases hl : len = 52
  · subst hl
    rcases Nat.lt_or_ge 4 (xs.getD 19 0) with h4 | h4
    · exact Zju a cap xs w h h4
    · exact Zjv a cap xs w h h4
  · exact ZkT a len cap xs w h hl
open Go.RowKit Go.Sort
def uE (x : Int) : Value := .int .u64 x
structure Sq (w0 : World) (blk off m : Nat) (W : World) (d : Array Int) : Prop where
  size : d.size = m
  holds : Holds uE W blk off d
  frm : Frm (fun k => k = blk) w0 W
theorem Sq.cell {w0 W : World} {blk off m : Nat} {d : Array Int} (h : Sq w0 blk off m W d) (t : Nat) (ht : t < m) : W.cell? ⟨blk, off + t, none⟩ = some (.int .u64 d[t]!) := (h.holds t (by rw [h.size]; exact ht)).1
theorem Sq.fz {w0 W : World} {blk off m : Nat} {d : Array Int} (h : Sq w0 blk off m W d) (t : Nat) (ht : t < m) : W.frozen? ⟨blk, off + t, none⟩ = false := (h.holds t (by rw [h.size]; exact ht)).2
theorem Sq.drewN {w0 W : World} {blk off m : Nat} {d : Array Int} (h : Sq w0 blk off m W d) (q : Nat) : Sq w0 blk off m (W.drewN q) d :=
  ⟨h.size, h.holds, ⟨h.frm.os, h.frm.tape, h.frm.output, h.frm.size, h.frm.block⟩⟩
theorem Sq.drew1 {w0 W : World} {blk off m : Nat} {d : Array Int} (h : Sq w0 blk off m W d) : Sq w0 blk off m W.drew d := h.drewN 1
theorem Sq.lt {w0 W : World} {blk off m : Nat} {d : Array Int} (h : Sq w0 blk off m W d) (hm : 0 < m) : blk < W.heap.size := World.block_lt_of_cell? W _ (h.cell 0 hm)
theorem Sq.below {W':World}(h : Sq w0 blk off m W d) (hb : Below W.heap.size W W') : Sq w0 blk off m W' d := by
 refine ⟨h.size, fun t ht => ?_, h.frm.trans (G := fun _ => False) (Frm.ofBelow hb) (fun _ _ h => h.elim)⟩
 have hl : blk < W.heap.size := World.block_lt_of_cell? W _ (h.holds t ht).1
 refine ⟨(hb.cell (p := ⟨blk, off + t, none⟩) hl).trans (h.holds t ht).1, ?_⟩
 rw [← (h.holds t ht).2]
 simp only [World.frozen?, hb.block blk hl]
theorem Sq.swap (h : Sq w0 blk off m W d) (q i j : Nat) (hi : i < m) (hj : j < m) : Sq w0 blk off m (((W.drewN q).setCell ⟨blk, off + i, none⟩ (.int .u64 d[j]!)).setCell ⟨blk, off + j, none⟩ (.int .u64 d[i]!)) (swp d i j) := by
 have hd := h.drewN q
 generalize W.drewN q = V at hd
 have hs := hd.size
 have e : (V.setCell ⟨blk, off + i, none⟩ (.int .u64 d[j]!)).setCell ⟨blk, off + j, none⟩ (.int .u64 d[i]!) = putRow uE V blk off (swp d i j) := by
  have := putRow_swp uE V blk off d i j (by omega) (by omega)
  rw [putRow_self uE V blk off d hd.holds] at this
  exact this
 refine ⟨by rw [size_swp]; exact hs, ?_, (hd.frm.setCell rfl _).setCell rfl _⟩
 rw [e]
 exact holds_putRow uE V blk off d _ hd.holds (by rw [size_swp])
theorem Zae (x y : Int) (w : World) : Calls Tryz.prog 168 #[.int .u64 x, .int .u64 y] w fun e w' => e = .returned (.bool (ltInt x y)) ∧ w' = w := by
 have hN : ∀ (z : Int) (w : World), Calls Tryz.prog 182 #[.int .u64 z] w fun e w' => e = .returned (.bool false) ∧ w' = w := by
  intro z w
  go_enter Tryz.func182, Tryz.ntmps182
  go_wp2_with fail
  go_ret
  exact ⟨by simp, rfl⟩
 go_enter Tryz.func168, Tryz.ntmps168
 go_wp2_with (go_at_call 182; refine (hN _ _).mono ?_; rintro e w' ⟨rfl, rfl⟩)
 go_ret
 exact ⟨rfl, rfl⟩
theorem Zko (w0 W:World)(blk off m cap a b:Nat)(d:Array Int)(h:Sq w0 blk off m W d)(hab:a≤b)(hb:b≤m)(hm:m<1000000) :
    Calls Tryz.prog 162 #[.slice (some ⟨blk,off,none⟩) m cap,.int .i64 (a:Nat),.int .i64 (b:Nat)] W fun e W'=>e=.returned (.tuple #[])∧Sq w0 blk off m W' (insertionSort ltInt d a b):=by
  have HS:=hide h
  clear h
  go_enter Tryz.func162,Tryz.ntmps162
  go_wp2_with fail
  go_loopw [6] (fun vi wr=>∃(i:Nat) (dk:Array Int),vi=.int .i64 (i:Nat)∧a<i∧i≤b+1∧Hid (Sq w0 blk off m wr dk)∧Hid (insOuter ltInt a b i dk=insOuter ltInt a b (a+1) d)) (fun vi _=>b+1-(intOf vi).toNat)
  case atStart=>exact ⟨a+1,d,by go_num,by omega,by omega,HS,rfl⟩
  case round =>
   obtain⟨i,dk,rfl,hai,hib,hsk,hO⟩:=hrel
   rcases Nat.lt_or_ge i b with hlt | hge
   · have j1:(i:Int)<(b:Int):=by omega
     go_wp2_with fail
     go_loopw [7] (fun vj wr2=>∃(j:Nat) (dj:Array Int),vj=.int .i64 (j:Nat)∧a≤j∧j≤i∧Hid (Sq w0 blk off m wr2 dj)∧Hid (insInner ltInt a j dj=insInner ltInt a i dk)) (fun vj _=>(intOf vj).toNat)
     case atStart=>exact ⟨i,dk,rfl,by omega,Nat.le_refl _,hsk,rfl⟩
     case round =>
      rename World=>wr2
      obtain⟨j,dj,rfl,haj,hji,hsj,hI⟩:=hrel
      have OUT:(j≤a∨ltInt dj[j]! dj[j-1]! = false)→Hid (insOuter ltInt a b (i+1) dj=insOuter ltInt a b (a+1) d):=fun hs=>by
       show _=_
       rw [← hO.out,insOuter_go _ _ _ _ _ hlt,← hI.out,insInner_stop _ _ _ _ hs]
      by_cases hja:a<j
      · obtain⟨G,hG⟩:∃G:Nat→Int,∀t,G t=dj[t]!:=⟨fun t=>dj[t]!,fun _=>rfl⟩
        have hcw:∀t,t<m→wr2.cell? ⟨blk,off+t,none⟩=some (.int .u64 (G t)):=fun t ht=>by rw [hG];exact hsj.out.cell t ht
        have hfw:∀t,t<m→wr2.frozen? ⟨blk,off+t,none⟩=false:=hsj.out.fz
        have HG:Hid (∀t,G t=dj[t]!):=hG
        have j2:(a:Int)<(j:Int):=by omega
        have HO2:=hide OUT
        clear hG OUT
        cases hl:ltInt (G j) (G (j-1)) with
        | true =>
         have HL:Hid (insInner ltInt a (j-1) (swp dj j (j-1))=insInner ltInt a i dk):=by
          show _=_
          rw [← hI.out,insInner_go ltInt a j dj hja (by rw [← HG.out,← HG.out];exact hl)]
         have HW:∀q,Hid (Sq w0 blk off m (((wr2.drewN q).setCell ⟨blk,off+j,none⟩ (.int .u64 (G (j-1)))).setCell ⟨blk,off+(j-1),none⟩ (.int .u64 (G j))) (swp dj j (j-1))):=fun q=>by
          rw [HG.out,HG.out]
          exact hsj.out.swap q j (j-1) (by omega) (by omega)
         clear hI hsj HO2
         go_wp2_with fail
         go_quiet (first | (go_at_call 168;refine Calls.quiet_of_same (Zae _ _ _)))
         go_wp2_with fail
         go_region
         all_goals go_wp2_with fail
         go_roundw
         case rel=>exact ⟨j-1,swp dj j (j-1),by congr 1;omega,by omega,by omega,HW (nq+1),HL⟩
         case measure=>simp only [intOf];omega
        | false =>
         have HO3:Hid (insOuter ltInt a b (i+1) dj=insOuter ltInt a b (a+1) d):=HO2.out (.inr (by rw [← HG.out,← HG.out];exact hl))
         have HW:∀q,Hid (Sq w0 blk off m (wr2.drewN q) dj):=fun q=>hsj.out.drewN q
         clear hI hsj HO2
         go_wp2_with fail
         go_quiet (first | (go_at_call 168;refine Calls.quiet_of_same (Zae _ _ _)))
         go_wp2_with fail
         go_roundw
         case rel=>exact ⟨i+1,dj,by go_num,by omega,by omega,HW nq,HO3⟩
         case measure=>simp only [intOf];omega
      · have j2:¬(a:Int)<(j:Int):=by omega
        have HO3:=OUT (.inl (by omega))
        have HW:∀q,Hid (Sq w0 blk off m (wr2.drewN q) dj):=fun q=>hsj.out.drewN q
        clear OUT hI hsj
        go_wp2_with fail
        go_quiet (first | (go_at_call 168;refine Calls.quiet_of_same (Zae _ _ _)))
        go_wp2_with fail
        go_roundw
        case rel=>exact ⟨i+1,dj,by go_num,by omega,by omega,HW nq,HO3⟩
        case measure=>simp only [intOf];omega
   · have j1:¬(i:Int)<(b:Int):=by omega
     have HE:Hid (dk=insertionSort ltInt d a b):=by
      show _=_
      unfold insertionSort
      rw [← hO.out,insOuter_stop _ _ _ _ _ (by omega)]
     go_wp2_with fail
     go_end0
     exact⟨rfl,by rw [← HE.out];exact hsk.out⟩
open Go.RowKit Go.Sort
section
variable {α : Type} [Inhabited α] (lt : α → α → Bool)
theorem Zld {hi first root : Nat} {d : Array α} (h : hi ≤ 2 * root + 1) : siftDown lt hi first root d = d := by
  rw [siftDown, dif_pos h]
theorem Zjy {hi first root : Nat} {d : Array α} (h1 : ¬ hi ≤ 2 * root + 1) (h2 : 2 * root + 2 < hi) (hl : lt d[first + 2 * root + 1]! d[first + 2 * root + 2]! = true) :
    siftDown lt hi first root d = if lt d[first + root]! d[first + 2 * root + 2]! = true then siftDown lt hi first (2 * root + 2) (swp d (first + root) (first + 2 * root + 2)) else d := by
  have hl' : lt d[first + (2 * root + 1)]! d[first + (2 * root + 1) + 1]! = true := hl
  rw [siftDown, dif_neg h1, if_pos (by rw [hl']; simpa using h2)]
  have e : first + (2 * root + 2) = first + 2 * root + 2 := rfl
  rw [e]
  cases h3 : lt d[first + root]! d[first + 2 * root + 2]! <;> simp [h2]
theorem Zhg {d : Array α} (h1 : ¬ hi ≤ 2 * root + 1) (h2 : ¬ 2 * root + 2 < hi ∨ lt d[first + 2 * root + 1]! d[first + 2 * root + 2]! = false) :
    siftDown lt hi first root d = if lt d[first + root]! d[first + 2 * root + 1]! = true then siftDown lt hi first (2 * root + 1) (swp d (first + root) (first + 2 * root + 1)) else d := by
  have hc : ¬ ((decide (2 * root + 1 + 1 < hi) && lt d[first + (2 * root + 1)]! d[first + (2 * root + 1) + 1]!) = true) := by
   have e : first + (2 * root + 1) + 1 = first + 2 * root + 2 := rfl
   have e' : first + (2 * root + 1) = first + 2 * root + 1 := rfl
   rcases h2 with h | h
   · rw [decide_eq_false (by omega)]; simp
   · rw [e, e', h]; simp
  rw [siftDown, dif_neg h1, if_neg hc]
  have e' : first + (2 * root + 1) = first + 2 * root + 1 := rfl
  rw [e']
  cases h3 : lt d[first + root]! d[first + 2 * root + 1]! <;> simp
end
theorem Zf7 (w0 W:World)(blk off m cap lo hi first:Nat)(d:Array Int)(h:Sq w0 blk off m W d)(hf:first+hi≤m)(hm:m<1000000)(hlo:lo<1000000) :
    Calls Tryz.prog 179 #[.slice (some ⟨blk,off,none⟩) m cap,.int .i64 (lo:Nat),.int .i64 (hi:Nat),.int .i64 (first:Nat)] W fun e W'=>e=.returned (.tuple #[])∧Sq w0 blk off m W' (siftDown ltInt hi first lo d):=by
  have HS:=hide h
  clear h
  go_enter Tryz.func179,Tryz.ntmps179
  go_wp2_with fail
  go_loopw [8] (fun vi wr=>∃(r:Nat) (dk:Array Int),vi=.int .i64 (r:Nat)∧r<1000000∧Hid (Sq w0 blk off m wr dk)∧Hid (siftDown ltInt hi first r dk=siftDown ltInt hi first lo d)) (fun vi _=>hi-(intOf vi).toNat)
  case atStart=>exact ⟨lo,d,rfl,hlo,HS,rfl⟩
  case round =>
   obtain⟨r,dk,rfl,hr,hsk,hO⟩:=hrel
   by_cases hleaf:hi≤2*r+1
   · have HE:Hid (dk=siftDown ltInt hi first lo d):=by
      show _=_
      rw [← hO.out,Zld _ hleaf]
     go_wp2_with fail
     go_end0
     exact⟨rfl,by rw [← HE.out];exact hsk.out⟩
   · obtain⟨G,hG⟩:∃G:Nat→Int,∀t,G t=dk[t]!:=⟨fun t=>dk[t]!,fun _=>rfl⟩
     have hcw:∀t,t<m→wr.cell? ⟨blk,off+t,none⟩=some (.int .u64 (G t)):=fun t ht=>by rw [hG];exact hsk.out.cell t ht
     have hfw:∀t,t<m→wr.frozen? ⟨blk,off+t,none⟩=false:=hsk.out.fz
     have HG:Hid (∀t,G t=dk[t]!):=hG
     have HSQ:=hsk
     clear hG
     have i1:first+r<m:=by omega
     have i2:first+2*r+1<m:=by omega
     have n2:¬((hi:Int)≤2*(r:Int)+1):=by omega
     by_cases h2:2*r+2<hi
     · have i3:first+2*r+2<m:=by omega
       have j2:(2*(r:Int)+1+1)<(hi:Int):=by omega
       cases hl:ltInt (G (first+2*r+1)) (G (first+2*r+2)) with
       | true =>
        have hx:=Zjy ltInt (d:=dk) (first:=first) hleaf h2 (by rw [← HG.out,← HG.out];exact hl)
        rw [hO.out,← HG.out,← HG.out] at hx
        cases hk:ltInt (G (first+r)) (G (first+2*r+2)) with
        | true =>
         rw [hk,if_pos rfl] at hx
         have HX:=hide hx
         clear hx hO hsk
         go_wp2_with fail
         go_quiet (first | (go_at_call 168;refine Calls.quiet_of_same (Zae _ _ _)))
         go_wp2_with fail
         have hsq_:Sq w0 blk off m (wr.drewN nq) dk:=HSQ.out.drewN nq
         have hcw_:∀t,t<m→(wr.drewN nq).cell? ⟨blk,off+t,none⟩=some (.int .u64 (G t)):=hcw
         have hfw_:∀t,t<m→(wr.drewN nq).frozen? ⟨blk,off+t,none⟩=false:=hfw
         clear HSQ hcw hfw
         generalize wr.drewN nq=wr2 at hsq_ hcw_ hfw_ ⊢
         clear nq
         have HSQ:=hide hsq_
         have hcw:=hcw_
         have hfw:=hfw_
         clear hsq_ hcw_ hfw_
         go_quiet (first | (go_at_call 168;refine Calls.quiet_of_same (Zae _ _ _)))
         go_wp2_with fail
         have HSW:Hid (∀q,Sq w0 blk off m (((wr2.drewN q).setCell ⟨blk,off+(first+r),none⟩ (.int .u64 (G (first+2*r+2)))).setCell ⟨blk,off+(first+2*r+2),none⟩ (.int .u64 (G (first+r)))) (swp dk (first+r) (first+2*r+2))):=fun q=>by
          rw [HG.out,HG.out]
          exact HSQ.out.swap q _ _ i1 (by omega)
         clear HSQ HG
         go_region
         all_goals go_wp2_with fail
         go_roundw
         case rel=>exact ⟨2*r+2,_,by go_num,by omega,HSW.out _,hide HX.out.symm⟩
         case measure=>simp only [intOf];omega
        | false =>
         rw [hk,if_neg (by decide)] at hx
         have HX:=hide hx
         clear hx hO hsk HG
         go_wp2_with fail
         go_quiet (first | (go_at_call 168;refine Calls.quiet_of_same (Zae _ _ _)))
         go_wp2_with fail
         have hsq_:Sq w0 blk off m (wr.drewN nq) dk:=HSQ.out.drewN nq
         have hcw_:∀t,t<m→(wr.drewN nq).cell? ⟨blk,off+t,none⟩=some (.int .u64 (G t)):=hcw
         have hfw_:∀t,t<m→(wr.drewN nq).frozen? ⟨blk,off+t,none⟩=false:=hfw
         clear HSQ hcw hfw
         generalize wr.drewN nq=wr2 at hsq_ hcw_ hfw_ ⊢
         clear nq
         have HSQ:=hide hsq_
         have hcw:=hcw_
         have hfw:=hfw_
         clear hsq_ hcw_ hfw_
         go_quiet (first | (go_at_call 168;refine Calls.quiet_of_same (Zae _ _ _)))
         go_wp2_with fail
         have HEND:Hid (∀q,Sq w0 blk off m (wr2.drewN q) dk):=HSQ.out.drewN
         (try simp only [Exit.inBlock,Exit.then]);refine bodyPost_ret (results_none rfl _ _ _) rfl ?_
         exact⟨rfl,by rw [HX.out];exact HEND.out _⟩
       | false =>
        have hx:=Zhg ltInt (d:=dk) (first:=first) hleaf (.inr (by rw [← HG.out,← HG.out];exact hl))
        rw [hO.out,← HG.out,← HG.out] at hx
        cases hk:ltInt (G (first+r)) (G (first+2*r+1)) with
        | true =>
         rw [hk,if_pos rfl] at hx
         have HX:=hide hx
         clear hx hO hsk
         go_wp2_with fail
         go_quiet (first | (go_at_call 168;refine Calls.quiet_of_same (Zae _ _ _)))
         go_wp2_with fail
         have hsq_:Sq w0 blk off m (wr.drewN nq) dk:=HSQ.out.drewN nq
         have hcw_:∀t,t<m→(wr.drewN nq).cell? ⟨blk,off+t,none⟩=some (.int .u64 (G t)):=hcw
         have hfw_:∀t,t<m→(wr.drewN nq).frozen? ⟨blk,off+t,none⟩=false:=hfw
         clear HSQ hcw hfw
         generalize wr.drewN nq=wr2 at hsq_ hcw_ hfw_ ⊢
         clear nq
         have HSQ:=hide hsq_
         have hcw:=hcw_
         have hfw:=hfw_
         clear hsq_ hcw_ hfw_
         go_quiet (first | (go_at_call 168;refine Calls.quiet_of_same (Zae _ _ _)))
         go_wp2_with fail
         have HSW:Hid (∀q,Sq w0 blk off m (((wr2.drewN q).setCell ⟨blk,off+(first+r),none⟩ (.int .u64 (G (first+2*r+1)))).setCell ⟨blk,off+(first+2*r+1),none⟩ (.int .u64 (G (first+r)))) (swp dk (first+r) (first+2*r+1))):=fun q=>by
          rw [HG.out,HG.out]
          exact HSQ.out.swap q _ _ i1 (by omega)
         clear HSQ HG
         go_region
         all_goals go_wp2_with fail
         go_roundw
         case rel=>exact ⟨2*r+1,_,by go_num,by omega,HSW.out _,hide HX.out.symm⟩
         case measure=>simp only [intOf];omega
        | false =>
         rw [hk,if_neg (by decide)] at hx
         have HX:=hide hx
         clear hx hO hsk HG
         go_wp2_with fail
         go_quiet (first | (go_at_call 168;refine Calls.quiet_of_same (Zae _ _ _)))
         go_wp2_with fail
         have hsq_:Sq w0 blk off m (wr.drewN nq) dk:=HSQ.out.drewN nq
         have hcw_:∀t,t<m→(wr.drewN nq).cell? ⟨blk,off+t,none⟩=some (.int .u64 (G t)):=hcw
         have hfw_:∀t,t<m→(wr.drewN nq).frozen? ⟨blk,off+t,none⟩=false:=hfw
         clear HSQ hcw hfw
         generalize wr.drewN nq=wr2 at hsq_ hcw_ hfw_ ⊢
         clear nq
         have HSQ:=hide hsq_
         have hcw:=hcw_
         have hfw:=hfw_
         clear hsq_ hcw_ hfw_
         go_quiet (first | (go_at_call 168;refine Calls.quiet_of_same (Zae _ _ _)))
         go_wp2_with fail
         have HEND:Hid (∀q,Sq w0 blk off m (wr2.drewN q) dk):=HSQ.out.drewN
         (try simp only [Exit.inBlock,Exit.then]);refine bodyPost_ret (results_none rfl _ _ _) rfl ?_
         exact⟨rfl,by rw [HX.out];exact HEND.out _⟩
     · have j2:decide ((2*(r:Int)+1+1)<(hi:Int))=false:=decide_eq_false (by omega)
       have hx:=Zhg ltInt (d:=dk) (first:=first) hleaf (.inl h2)
       rw [hO.out,← HG.out,← HG.out] at hx
       cases hk:ltInt (G (first+r)) (G (first+2*r+1)) with
       | true =>
        rw [hk,if_pos rfl] at hx
        have HX:=hide hx
        clear hx hO hsk
        go_wp2_with fail
        go_quiet (first | (go_at_call 168;refine Calls.quiet_of_same (Zae _ _ _)))
        go_wp2_with fail
        have hsq_:Sq w0 blk off m (wr.drewN nq) dk:=HSQ.out.drewN nq
        have hcw_:∀t,t<m→(wr.drewN nq).cell? ⟨blk,off+t,none⟩=some (.int .u64 (G t)):=hcw
        have hfw_:∀t,t<m→(wr.drewN nq).frozen? ⟨blk,off+t,none⟩=false:=hfw
        clear HSQ hcw hfw
        generalize wr.drewN nq=wr2 at hsq_ hcw_ hfw_ ⊢
        clear nq
        have HSQ:=hide hsq_
        have hcw:=hcw_
        have hfw:=hfw_
        clear hsq_ hcw_ hfw_
        go_quiet (first | (go_at_call 168;refine Calls.quiet_of_same (Zae _ _ _)))
        go_wp2_with fail
        have HSW:Hid (∀q,Sq w0 blk off m (((wr2.drewN q).setCell ⟨blk,off+(first+r),none⟩ (.int .u64 (G (first+2*r+1)))).setCell ⟨blk,off+(first+2*r+1),none⟩ (.int .u64 (G (first+r)))) (swp dk (first+r) (first+2*r+1))):=fun q=>by
         rw [HG.out,HG.out]
         exact HSQ.out.swap q _ _ i1 (by omega)
        clear HSQ HG
        go_region
        all_goals go_wp2_with fail
        go_roundw
        case rel=>exact ⟨2*r+1,_,by go_num,by omega,HSW.out _,hide HX.out.symm⟩
        case measure=>simp only [intOf];omega
       | false =>
        rw [hk,if_neg (by decide)] at hx
        have HX:=hide hx
        clear hx hO hsk HG
        go_wp2_with fail
        go_quiet (first | (go_at_call 168;refine Calls.quiet_of_same (Zae _ _ _)))
        go_wp2_with fail
        have hsq_:Sq w0 blk off m (wr.drewN nq) dk:=HSQ.out.drewN nq
        have hcw_:∀t,t<m→(wr.drewN nq).cell? ⟨blk,off+t,none⟩=some (.int .u64 (G t)):=hcw
        have hfw_:∀t,t<m→(wr.drewN nq).frozen? ⟨blk,off+t,none⟩=false:=hfw
        clear HSQ hcw hfw
        generalize wr.drewN nq=wr2 at hsq_ hcw_ hfw_ ⊢
        clear nq
        have HSQ:=hide hsq_
        have hcw:=hcw_
        have hfw:=hfw_
        clear hsq_ hcw_ hfw_
        go_quiet (first | (go_at_call 168;refine Calls.quiet_of_same (Zae _ _ _)))
        go_wp2_with fail
        have HEND:Hid (∀q,Sq w0 blk off m (wr2.drewN q) dk):=HSQ.out.drewN
        (try simp only [Exit.inBlock,Exit.then]);refine bodyPost_ret (results_none rfl _ _ _) rfl ?_
        exact⟨rfl,by rw [HX.out];exact HEND.out _⟩
theorem ZiW (w0 W:World)(blk off m cap a b:Nat)(d:Array Int)(h:Sq w0 blk off m W d)(hab:a<b)(hb:b≤m)(hm:m<1000000) :
    Calls Tryz.prog 163 #[.slice (some ⟨blk,off,none⟩) m cap,.int .i64 (a:Nat),.int .i64 (b:Nat)] W fun e W'=>e=.returned (.tuple #[])∧Sq w0 blk off m W' (heapSort ltInt d a b):=by
  have HS:=hide h
  clear h
  obtain⟨n,hn⟩:∃n:Nat,b=a+n:=⟨b-a,by omega⟩
  have hn1:1≤n:=by omega
  have hnm:a+n≤m:=by omega
  have HSIFT:Hid (∀(V:World) (dk:Array Int) (lo hi:Nat),Sq w0 blk off m V dk→hi≤n→lo<1000000→_):=fun V dk lo hi hq hh hl=>Zf7 w0 V blk off m cap lo hi a dk hq (by omega) hm hl
  have HRES:Hid (heapSort ltInt d a b=heapPop ltInt a n (heapBuild ltInt n a ((n-1) / 2+1) d)):=by
   show _=_
   unfold heapSort
   rw [hn,show a+n-a=n by omega]
  have q1:((b:Int)-(a:Int))=(n:Int):=by omega
  obtain⟨p,hp⟩:∃p:Nat,p=(n-1) / 2:=⟨_,rfl⟩
  have hpn:p<1000000:=by omega
  have HP:=hide hp
  rw [← hp] at HRES
  clear hn hp
  go_enter Tryz.func163,Tryz.ntmps163
  go_wp2_with fail
  go_loopw [9] (fun vi wr=>∃(k:Nat) (z:Int) (dk:Array Int),vi=.int .i64 z∧Hid (z=(k:Int)-1)∧k≤p+1∧Hid (Sq w0 blk off m wr dk)∧Hid (heapBuild ltInt n a k dk=heapBuild ltInt n a (p+1) d)) (fun vi _=>(intOf vi+1).toNat)
  case atStart=>exact ⟨p+1,_,d,rfl,(show Hid _ from by show _=_;have:=HP.out;omega),Nat.le_refl _,HS,rfl⟩
  case round =>
   obtain⟨k,z,dk,rfl,hz,hk,hsk,hO⟩:=hrel
   cases k with
   | succ k =>
    obtain rfl:z=(k:Int):=by have:=hz.out;omega
    have hcall:=hide (HSIFT.out wr dk k n hsk.out (Nat.le_refl _) (by omega))
    have HO:Hid (heapBuild ltInt n a k (siftDown ltInt n a k dk)=heapBuild ltInt n a (p+1) d):=hO
    clear hz hO hsk
    go_wp2_with fail
    refine hcall.out.mono ?_
    rintro e w2 ⟨rfl,hs2⟩
    have HS2:=hide hs2
    clear hs2 hcall
    go_wp2_with fail
    go_roundw
    case rel=>exact ⟨k,(k:Int)-1,_,rfl,(show Hid _ from rfl),by omega,HS2,HO⟩
    case measure=>simp only [intOf];omega
   | zero =>
    obtain rfl:z = -1:=by have:=hz.out;omega
    have HB:Hid (dk=heapBuild ltInt n a (p+1) d):=hO
    clear hz hO HSIFT HP
    have HSIFT:Hid (∀(V:World) (dk:Array Int) (lo hi:Nat),Sq w0 blk off m V dk→hi≤n→lo<1000000→_):=fun V dk lo hi hq hh hl=>Zf7 w0 V blk off m cap lo hi a dk hq (by omega) hm hl
    rw [← HB.out] at HRES
    have hdk:=hsk.out.size
    go_wp2_with fail
    rename World=>w1
    go_loopw [10] (fun vi wr=>∃(k:Nat) (z:Int) (dj:Array Int),vi=.int .i64 z∧Hid (z=(k:Int)-1)∧k≤n∧Hid (Sq w0 blk off m wr dj)∧Hid (heapPop ltInt a k dj=heapPop ltInt a n dk)) (fun vi _=>(intOf vi+1).toNat)
    case atStart=>exact ⟨n,(n:Int)-1,dk,rfl,(show Hid _ from rfl),Nat.le_refl _,hsk,rfl⟩
    case round =>
     obtain⟨k,z,dj,rfl,hz,hk,hsj,hO⟩:=hrel
     cases k with
     | succ k =>
      obtain rfl:z=(k:Int):=by have:=hz.out;omega
      have HO:Hid (heapPop ltInt a k (siftDown ltInt k a 0 (swp dj a (a+k)))=heapPop ltInt a n dk):=hO
      obtain⟨G,hG⟩:∃G:Nat→Int,∀t,G t=dj[t]!:=⟨fun t=>dj[t]!,fun _=>rfl⟩
      have hcw:∀t,t<m→wr.cell? ⟨blk,off+t,none⟩=some (.int .u64 (G t)):=fun t ht=>by rw [hG];exact hsj.out.cell t ht
      have hfw:∀t,t<m→wr.frozen? ⟨blk,off+t,none⟩=false:=hsj.out.fz
      have HG:Hid (∀t,G t=dj[t]!):=hG
      have HSQ:=hsj
      clear hG
      have i1:a<m:=by omega
      have i2:a+k<m:=by omega
      by_cases hk0:0<k
      · have HSW:=hide ((HSQ.out.swap 0 a (a+k) i1 i2).drew1)
        rw [← HG.out,← HG.out] at HSW
        have hcall:=HSIFT.out _ _ 0 k HSW.out (by omega) (by decide)
        have HC:Hid (Calls Tryz.prog 179 #[.slice (some ⟨blk,off,none⟩) m cap,.int .i64 0,.int .i64 (k:Nat),.int .i64 (a:Nat)] (((wr.setCell ⟨blk,off+a,none⟩ (.int .u64 (G (a+k)))).setCell ⟨blk,off+(a+k),none⟩ (.int .u64 (G a))).drew) fun e W'=>e=.returned (.tuple #[])∧Sq w0 blk off m W' (siftDown ltInt k a 0 (swp dj a (a+k)))):=hcall
        clear hz hO hsj HG HSQ HSW hcall
        go_wp2_with fail
        go_region
        all_goals go_wp2_with fail
        refine HC.out.mono ?_
        rintro e w2 ⟨rfl,hs2⟩
        have HS2:=hide hs2
        clear hs2 HC
        go_wp2_with fail
        go_roundw
        case rel=>exact ⟨k,(k:Int)-1,_,rfl,(show Hid _ from rfl),by omega,HS2,HO⟩
        case measure=>simp only [intOf];omega
      · obtain rfl:k=0:=by omega
        have HSW:=hide ((HSQ.out.swap 0 a a i1 i1).drew1)
        rw [← HG.out] at HSW
        have hcall:=HSIFT.out _ _ 0 0 HSW.out (by omega) (by decide)
        have HC:Hid (Calls Tryz.prog 179 #[.slice (some ⟨blk,off,none⟩) m cap,.int .i64 0,.int .i64 0,.int .i64 (a:Nat)] (((wr.setCell ⟨blk,off+a,none⟩ (.int .u64 (G a))).setCell ⟨blk,off+a,none⟩ (.int .u64 (G a))).drew) fun e W'=>e=.returned (.tuple #[])∧Sq w0 blk off m W' (siftDown ltInt 0 a 0 (swp dj a (a+0)))):=hcall
        clear hz hO hsj HG HSQ HSW hcall
        go_wp2_with fail
        go_region
        all_goals go_wp2_with fail
        refine HC.out.mono ?_
        rintro e w2 ⟨rfl,hs2⟩
        have HS2:=hide hs2
        clear hs2 HC
        go_wp2_with fail
        go_roundw
        case rel=>exact ⟨0,-1,_,rfl,(show Hid _ from rfl),by omega,HS2,HO⟩
        case measure=>simp only [intOf];omega
     | zero =>
      obtain rfl:z = -1:=by have:=hz.out;omega
      have HE:Hid (dj=heapSort ltInt d a b):=by
       show _=_
       rw [HRES.out,← hO.out]
       rfl
      clear hz hO
      go_wp2_with fail
      go_end0
      exact⟨rfl,by rw [← HE.out];exact hsj.out⟩
end Go.Proofs.YtdojdcncncgncaaGreat
