/-
  Lemmas.
-/
import Derived.Test.YtdojdcncncgncaaGreatKoas
namespace Go.Proofs.YtdojdcncncgncaaGreat
open Go.RowKit
set_option linter.unusedVariables false
set_option maxRecDepth 100000
set_option maxHeartbeats 4000000
variable {t:List Int}{i:Nat}{s:List (List Nat)}
theorem Zir (f : Int → Bool) {m : Nat} (h : m < t.length) : ixI f (t.drop m) m = if f (t.getD m 0) = true then (m : Int) else ixI f (t.drop (m + 1)) (m + 1) := by
 have e : t.drop m = t.getD m 0 :: t.drop (m + 1) := by
  rw [List.drop_eq_getElem_cons h]
  simp [List.getD, h]
 rw [e, ixI]
theorem Zkx {f : Int → Bool} {t : List Int} {i : Nat} (h : i < t.length) (hf : f (t.getD i 0) = true) : ixI f (t.drop i) i = ((i : Nat) : Int) := by rw [Zir f h, if_pos hf]
theorem Zis {f : Int → Bool} {t : List Int} {i : Nat} (h : i < t.length) (hf : f (t.getD i 0) = false) : ixI f (t.drop i) i = ixI f (t.drop (i + 1)) (i + 1) := by rw [Zir f h, if_neg (by rw [hf]; decide)]
theorem Zkw {f : Int → Bool} {t : List Int} {i : Nat} (h : t.length ≤ i) : ixI f (t.drop i) i = -1 := by rw [List.drop_eq_nil_of_le h]; rfl
theorem Zkm {D:Nat→Prop}(w:World)(v:Sl)(t:List Int)(h:Gi D w v t)(y:Int) :
    Calls Tryz.prog 134 #[v.val,.int .i64 y] w fun e w'=>e=.returned (.int .i64 (ixI (fun x=>y == x) t 0))∧w'=w:=by
  obtain⟨a,len,cap⟩:=v
  have HG:=hide h
  have hl:t.length=len:=h.len
  have HL:=hide hl
  have hbig:len≤1000000:=h.big
  have HI:Hid (ixI (fun x=>y == x) t 0=ixI (fun x=>y == x) (t.drop 0) 0):=rfl
  clear h hl
  unfold Sl.val
  simp only
  go_enter Tryz.func134,Tryz.ntmps134
  go_wp2_with fail
  go_loopw [8] (fun iv wr=>wr=w∧∃i:Nat,i≤len∧iv=.int .i64 (i:Nat)∧Hid (ixI (fun x=>y == x) t 0=ixI (fun x=>y == x) (t.drop i) i)) (fun iv _=>len-(intOf iv).toNat)
  case atStart=>exact ⟨rfl,0,Nat.zero_le _,rfl,HI⟩
  case round =>
   obtain⟨rfl,i,hi,rfl,hix⟩:=hrel
   rcases Nat.lt_or_ge i len with hlt | hge
   · have i1:(i:Int)<(len:Int):=by omega
     obtain⟨bb,oo,ha,c0⟩:=HG.out.cell i hlt
     replace ha:a=some ⟨bb,oo,none⟩:=ha
     subst ha
     obtain⟨x,hx⟩:∃x,x=t.getD i 0:=⟨_,rfl⟩
     rw [← hx] at c0
     have HX:=hide hx
     clear hx
     by_cases hon:y=x
     · subst hon
       have HE:Hid (ixI (fun x=>y == x) t 0=(i:Int)):=hix.out.trans (Zkx (by rw [HL.out];exact hlt) (by rw [← HX.out];simp))
       clear hix HX
       go_wp2_with fail
       go_ret
       exact⟨by rw [HE.out];rfl,rfl⟩
     · have hon2:(y == x)=false:=by simp [hon]
       have HE:Hid (ixI (fun x=>y == x) t 0=ixI (fun x=>y == x) (t.drop (i+1)) (i+1)):=hix.out.trans (Zis (by rw [HL.out];exact hlt) (by rw [← HX.out];exact hon2))
       clear hix HX
       go_wp2_with fail
       go_roundw
       case rel=>exact ⟨trivial,i+1,by omega,by go_num,HE⟩
       case measure=>simp only [intOf];omega
   · have HE:Hid (ixI (fun x=>y == x) t 0 = -1):=hix.out.trans (Zkw (by rw [HL.out];exact hge))
     have i1:¬(i:Int)<(len:Int):=by omega
     clear hix
     go_wp2_with fail
     go_ret
     exact⟨by rw [HE.out];rfl,rfl⟩
theorem ZgH (t : List Int) (y : Int) : decide (0 ≤ ixI (fun x => y == x) t 0) = t.contains y := by
 rcases ZbA (fun x => y == x) t 0 with ⟨h1, h2⟩ | ⟨i, hi, h1, h2, _⟩
 · rw [h1]
   have : ¬ y ∈ t := fun h => by have := h2 y h; simp at this
   simp [this]
 · rw [h1]
   have : t.getD i 0 ∈ t := Zej hi
   have e : y = t.getD i 0 := by simpa using h2
   rw [← e] at this
   simp [this]
theorem Zcc {D : Nat → Prop} (w : World) (v : Sl) (t : List Int) (h : Gi D w v t) (y : Int) :
    Calls Tryz.prog 96 #[v.val, .int .i64 y] w fun e w' => e = .returned (.bool (t.contains y)) ∧ w' = w := by
  have HC := hide (Zkm w v t h y)
  have hE := ZgH t y
  obtain ⟨z, hz⟩ : ∃ z, z = ixI (fun x => y == x) t 0 := ⟨_, rfl⟩
  rw [← hz] at HC hE
  rw [← hE]
  clear hz hE h
  obtain ⟨a, len, cap⟩ := v
  unfold Sl.val at *
  simp only at *
  go_enter Tryz.func96, Tryz.ntmps96
  go_wp2_with fail
  refine HC.out.mono ?_
  rintro e w1 ⟨rfl, hw⟩
  obtain rfl := hw.symm
  go_wp2_with fail
  go_ret
  exact ⟨rfl, rfl⟩
theorem Gi.take {D:Nat→Prop}{w:World}{v:Sl}(h:Gi D w v t){n:Nat}(hn:n≤v.len):Gi D w ⟨v.a,n,v.cap⟩ (t.take n):=by
 have hl:=h.len
 have hc:=h.le
 have hb:=h.big
 refine⟨?_,h.nil,by show n≤v.cap;omega,by show n≤1000000;omega,fun ad ha h0=>h.home ad ha ?_,fun i hi=>?_⟩
 · show _=n
   rw [List.length_take]
   omega
 · have:0<n:=h0
   omega
 · replace hi:i<n:=hi
   obtain⟨b,off,ha,hce⟩:=h.cell i (by omega)
   refine⟨b,off,ha,?_⟩
   rw [hce]
   simp [List.getD,hi]
def ZjA (t : List Int) (e : Ending) : Prop := ∃ r : Bool, e = .returned (.bool r) ∧ (r = true ↔ ItlOk t)
theorem Zi9 {t : List Int} (h : ¬ ItlOk t) : ZjA t (.returned (.bool false)) := ⟨false, rfl, by simp [h]⟩
theorem ZnF {t : List Int} (h : ItlOk t) : ZjA t (.returned (.bool true)) := ⟨true, rfl, by simp [h]⟩
theorem ZgR {D:Nat→Prop}(w:World)(v:Sl)(t:List Int)(h:Gi D w v t) :
    Calls Tryz.prog 129 #[v.val] w fun e w'=>ZjA t e∧w'=w:=by
  obtain⟨a,len,cap⟩:=v
  have HG:=hide h
  have hl:t.length=len:=h.len
  have HL:=hide hl
  have hbig:len≤1000000:=h.big
  have hcap:len≤cap:=h.le
  clear h hl
  unfold Sl.val
  simp only
  by_cases h4:len=4
  · subst h4
    have hc0:¬cap=0:=by omega
    have hc1:¬(0=cap):=by omega
    obtain⟨b,o,ha,_⟩:=HG.out.cell 0 (by show 0<4;omega)
    replace ha:a=some ⟨b,o,none⟩:=ha
    subst ha
    go_enter Tryz.func129,Tryz.ntmps129
    go_wp2_with fail
    go_loopw [10] (fun iv wr=>wr=w∧∃i:Nat,i≤4∧iv=.int .i64 (i:Nat)∧Hid (∀j,j<i→0≤t.getD j 0∧t.getD j 0≤2147483647)∧Hid (∀j,j<i→∀k,k<j→t.getD k 0≠0→t.getD k 0≠t.getD j 0)) (fun iv _=>4-(intOf iv).toNat)
    case atStart=>exact ⟨rfl,0,by omega,rfl,fun _ h=>absurd h (Nat.not_lt_zero _),fun _ h=>absurd h (Nat.not_lt_zero _)⟩
    case round =>
     obtain⟨rfl,i,hi,rfl,hrg,hdi⟩:=hrel
     rcases Nat.lt_or_ge i 4 with hlt | hge
     · have i1:(i:Int)<4:=by omega
       obtain⟨b',o',ha,c0⟩:=HG.out.cell i hlt
       simp only [Option.some.injEq,Addr.mk.injEq,and_true] at ha
       obtain⟨rfl,rfl⟩:=ha
       obtain⟨x,hx⟩:∃x,x=t.getD i 0:=⟨_,rfl⟩
       rw [← hx] at c0
       have HX:=hide hx
       have HCT:=hide (Zcc wr ⟨some ⟨b,o,none⟩,i,cap⟩ (t.take i) (HG.out.take (n:=i) hi) x)
       unfold Sl.val at HCT
       clear hx
       by_cases hx0:x<0
       · have HN:Hid (¬ItlOk t):=fun k=>by have:=(k.2.1 i hlt).1;rw [← HX.out] at this;omega
         go_wp2_with fail
         go_ret
         exact⟨Zi9 HN.out,rfl⟩
       · by_cases hx1:2147483647<x
         · have HN:Hid (¬ItlOk t):=fun k=>by have:=(k.2.1 i hlt).2;rw [← HX.out] at this;omega
           go_wp2_with fail
           go_ret
           exact⟨Zi9 HN.out,rfl⟩
         · by_cases hz:x=0
           · subst hz
             have HR:Hid (∀j,j<i+1→0≤t.getD j 0∧t.getD j 0≤2147483647):=by
              intro j hj
              by_cases e:j=i
              · rw [e,← HX.out];decide
              · exact hrg.out j (by omega)
             have HD:Hid (∀j,j<i+1→∀k,k<j→t.getD k 0≠0→t.getD k 0≠t.getD j 0):=by
              intro j hj k hk h1
              by_cases e:j=i
              · rw [e,← HX.out];exact h1
              · exact hdi.out j (by omega) k hk h1
             clear hrg hdi HX
             go_wp2_with fail
             go_roundw
             case rel=>exact ⟨trivial,i+1,by omega,by go_num,HR,HD⟩
             case measure=>simp only [intOf];omega
           · have hz2:(x != 0)=true:=by simp [hz]
             cases hct:(t.take i).contains x with
             | true =>
              rw [hct] at HCT
              have HN:Hid (¬ItlOk t):=fun k=>by
               have hm:x∈t.take i:=by simpa using hct
               obtain⟨j,hj,e⟩:=List.mem_iff_getElem.1 hm
               rw [List.length_take,HL.out] at hj
               have e2:t.getD j 0=x:=by
                rw [← e]
                have:j<t.length:=by rw [HL.out];omega
                simp [List.getD,this]
               have:=k.2.2 i hlt j (by omega) (by rw [e2];exact hz)
               rw [e2,← HX.out] at this
               exact this rfl
              clear hct HX hrg hdi
              go_wp2_with fail
              refine HCT.out.mono ?_
              rintro e w1 ⟨rfl,hw⟩
              obtain rfl:=hw.symm
              go_wp2_with fail
              go_ret
              exact⟨Zi9 HN.out,rfl⟩
             | false =>
              rw [hct] at HCT
              have HR:Hid (∀j,j<i+1→0≤t.getD j 0∧t.getD j 0≤2147483647):=by
               intro j hj
               by_cases e:j=i
               · rw [e,← HX.out];omega
               · exact hrg.out j (by omega)
              have HD:Hid (∀j,j<i+1→∀k,k<j→t.getD k 0≠0→t.getD k 0≠t.getD j 0):=by
               intro j hj k hk h1
               by_cases e:j=i
               · rw [e,← HX.out]
                 intro e2
                 have hm:x∈t.take i:=by
                  rw [List.mem_take_iff_getElem]
                  refine⟨k,by rw [HL.out];omega,?_⟩
                  rw [← e2]
                  have:k<t.length:=by rw [HL.out];omega
                  simp [List.getD,this]
                 have:(t.take i).contains x=true:=by simpa using hm
                 rw [hct] at this
                 cases this
               · exact hdi.out j (by omega) k hk h1
              clear hct HX hrg hdi
              go_wp2_with fail
              refine HCT.out.mono ?_
              rintro e w1 ⟨rfl,hw⟩
              obtain rfl:=hw.symm
              go_wp2_with fail
              go_roundw
              case rel=>exact ⟨trivial,i+1,by omega,by go_num,HR,HD⟩
              case measure=>simp only [intOf];omega
     · have i1:¬(i:Int)<4:=by omega
       have HY:Hid (ItlOk t):=⟨HL.out,fun j hj=>hrg.out j (by omega),fun j hj=>hdi.out j (by omega)⟩
       clear hrg hdi
       go_wp2_with fail
       go_ret
       exact⟨ZnF HY.out,rfl⟩
  · have HN:Hid (¬ItlOk t):=fun k=>h4 (by rw [← HL.out];exact k.1)
    have i4:((len:Int) != 4)=true:=by simp;omega
    have i5:¬(len:Int)=4:=by omega
    go_enter Tryz.func129,Tryz.ntmps129
    go_wp2_with fail
    go_ret
    exact⟨Zi9 HN.out,rfl⟩
def Zj9 (s : List (List Nat)) (e : Ending) : Prop := ∃ r : Bool, e = .returned (.bool r) ∧ (r = true ↔ Za2 s)
theorem Zlj {s : List (List Nat)} (h : ¬ Za2 s) : Zj9 s (.returned (.bool false)) := ⟨false, rfl, by simp [h]⟩
theorem Zlk {s : List (List Nat)} (h : Za2 s) : Zj9 s (.returned (.bool true)) := ⟨true, rfl, by simp [h]⟩
theorem ZgQ {D:Nat→Prop}(w:World)(v:Sl)(l:List Sb)(h:Gb D w v l) :
    Calls Tryz.prog 130 #[v.val] w fun e w'=>Zj9 (bss l) e∧w'=w:=by
  obtain⟨a,len,cap⟩:=v
  have HG:=hide h
  have HL:Hid ((bss l).length=len):=by show _=_;rw [Zah];exact h.len
  have hbig:len≤1000:=h.big
  clear h
  unfold Sl.val
  simp only
  by_cases h64:64<len
  · have i4:(64:Int)<(len:Int):=by omega
    have HN:Hid (¬Za2 (bss l)):=fun k=>by have:=k.1;rw [HL.out] at this;omega
    go_enter Tryz.func130,Tryz.ntmps130
    go_wp2_with fail
    go_ret
    exact⟨Zlj HN.out,rfl⟩
  · have i4:¬(64:Int)<(len:Int):=by omega
    go_enter Tryz.func130,Tryz.ntmps130
    go_wp2_with fail
    go_loopw [10] (fun iv wr=>wr=w∧∃i:Nat,i≤len∧iv=.int .i64 (i:Nat)∧Hid (∀j,j<i→(sl (bss l) j).length≤255)) (fun iv _=>len-(intOf iv).toNat)
    case atStart=>exact ⟨rfl,0,Nat.zero_le _,rfl,fun _ h=>absurd h (Nat.not_lt_zero _)⟩
    case round =>
     obtain⟨rfl,i,hi,rfl,hrg⟩:=hrel
     rcases Nat.lt_or_ge i len with hlt | hge
     · have i1:(i:Int)<(len:Int):=by omega
       obtain⟨bb,oo,ha,c0⟩:=HG.out.cell i hlt
       replace ha:a=some ⟨bb,oo,none⟩:=ha
       subst ha
       obtain⟨_,hsl,h1000⟩:=HG.out.at hlt
       obtain⟨⟨sa,sn,sc⟩,hsb⟩:∃s,s=(l.getD i Sb.zero).s:=⟨_,rfl⟩
       rw [← hsb] at c0 hsl
       unfold Sl.val at c0
       simp only at c0 hsl
       have HS:=hide hsl
       have hsn:sn≤1000:=by omega
       clear hsb hsl h1000
       by_cases h5:255<sn
       · have i5:(255:Int)<(sn:Int):=by omega
         have HN:Hid (¬Za2 (bss l)):=fun k=>by have:=k.2.1 i (by rw [HL.out];exact hlt);rw [← HS.out] at this;omega
         clear HS hrg
         go_wp2_with fail
         go_ret
         exact⟨Zlj HN.out,rfl⟩
       · have i5:¬(255:Int)<(sn:Int):=by omega
         have HR:Hid (∀j,j<i+1→(sl (bss l) j).length≤255):=by
          intro j hj
          by_cases e:j=i
          · rw [e,← HS.out];omega
          · exact hrg.out j (by omega)
         clear HS hrg
         go_wp2_with fail
         go_roundw
         case rel=>exact ⟨trivial,i+1,by omega,by go_num,HR⟩
         case measure=>simp only [intOf];omega
     · have i1:¬(i:Int)<(len:Int):=by omega
       have e0:i=len:=by omega
       subst e0
       rcases Nat.eq_zero_or_pos i with h0 | h0
       · subst h0
         have HY:Hid (Za2 (bss l)):=⟨by rw [HL.out];omega,fun j hj=>by rw [HL.out] at hj;omega,fun hne=>absurd (List.eq_nil_of_length_eq_zero HL.out) hne⟩
         clear hrg
         go_wp2_with fail
         go_ret
         exact⟨Zlk HY.out,rfl⟩
       · obtain⟨k,rfl⟩:∃k,i=k+1:=⟨i-1,by omega⟩
         have i2:¬(((k+1:Nat):Int)=0):=by omega
         have i3:(((k+1:Nat):Int) == 0)=false:=by simp;omega
         obtain⟨bb,oo,ha,c0⟩:=HG.out.cell k (Nat.lt_succ_self k)
         replace ha:a=some ⟨bb,oo,none⟩:=ha
         subst ha
         obtain⟨_,hsl,h1000⟩:=HG.out.at (Nat.lt_succ_self k)
         obtain⟨⟨sa,sn,sc⟩,hsb⟩:∃s,s=(l.getD k Sb.zero).s:=⟨_,rfl⟩
         rw [← hsb] at c0 hsl
         unfold Sl.val at c0
         simp only at c0 hsl
         have HS:=hide hsl
         have hsn:sn≤1000:=by omega
         clear hsb hsl h1000
         have e1:((k+1:Nat):Int)-1=(k:Int):=by omega
         by_cases h5:0<sn
         · have i5:(0:Int)<(sn:Int):=by omega
           have HY:Hid (Za2 (bss l)):=⟨by rw [HL.out];omega,fun j hj=>hrg.out j (by rw [HL.out] at hj;exact hj),fun _=>by
            rw [HL.out,Nat.add_sub_cancel]
            intro e
            have:=HS.out
            rw [e] at this
            simp at this
            omega⟩
           clear hrg HS
           go_wp2_with fail
           go_ret
           exact⟨Zlk HY.out,rfl⟩
         · have i5:¬(0:Int)<(sn:Int):=by omega
           have HN:Hid (¬Za2 (bss l)):=fun q=>by
            have:=q.2.2 (fun e=>by have:=HL.out;rw [e] at this;simp at this)
            rw [HL.out,Nat.add_sub_cancel] at this
            exact this (List.eq_nil_of_length_eq_zero (by rw [← HS.out];omega))
           clear hrg HS
           go_wp2_with fail
           go_ret
           exact⟨Zlj HN.out,rfl⟩
theorem Ziv {D:Nat→Prop}(w:World)(v:Sl)(l:List Sb)(hg:Gb D w v l) :
    Calls Tryz.prog 128 #[v.val] w fun e w'=>e=.returned (.int .i64 ((need (bss l):Nat):Int))∧w'=w:=by
  obtain⟨a,len,cap⟩:=v
  have hl:l.length=len:=hg.len
  have hbig:len≤1000:=hg.big
  have HG:=hide hg
  have HL:Hid ((bss l).length=len):=by show _=_;rw [Zah];exact hl
  have HN:Hid (∀n,n≤len→needS ((bss l).take n)≤n*1001):=by
   intro n hn
   refine Zgf (bss l) (fun i hi=>?_) n (by rw [Zah,hl];exact hn)
   exact(hg.at (by rw [Zah] at hi;show i<len;omega)).2.2
  clear hg hl
  unfold Sl.val
  simp only
  go_enter Tryz.func128,Tryz.ntmps128
  go_wp2_with fail
  go_loopw [8,3] (fun iv nv wr=>wr=w∧∃i:Nat,i≤len∧iv=.int .i64 (i:Nat)∧nv=.int .i64 ((18+needS ((bss l).take i):Nat):Int)) (fun iv _ _=>len-(intOf iv).toNat)
  case atStart=>exact ⟨rfl,0,Nat.zero_le _,rfl,rfl⟩
  case round =>
   obtain⟨rfl,i,hi,rfl,rfl⟩:=hrel
   rcases Nat.lt_or_ge i len with hlt | hge
   · have i1:(i:Int)<(len:Int):=by omega
     obtain⟨bb,oo,ha,c0⟩:=HG.out.cell i hlt
     replace ha:a=some ⟨bb,oo,none⟩:=ha
     subst ha
     obtain⟨_,hsl,h1000⟩:=HG.out.at hlt
     have hstep:=Zbs (s:=bss l) (k:=i) (by rw [HL.out];exact hlt)
     have hb1:=HN.out i hi
     obtain⟨⟨sa,sn,sc⟩,hsb⟩:∃s,s=(l.getD i Sb.zero).s:=⟨_,rfl⟩
     rw [← hsb] at c0 hsl
     unfold Sl.val at c0
     simp only at c0 hsl
     obtain⟨q,hq⟩:∃q,q=needS ((bss l).take i):=⟨_,rfl⟩
     have HST:Hid (needS ((bss l).take (i+1))=q+1+sn):=by show _=_;rw [hstep,hq,hsl]
     rw [← hq] at hb1 ⊢
     have hq2:q≤1001000:=by omega
     have hsn:sn≤1000:=by omega
     clear hstep hsb hq hsl h1000 hb1
     go_wp2_with fail
     go_roundw
     case rel=>exact ⟨trivial,i+1,by omega,by go_num,by rw [HST.out];go_num⟩
     case measure=>simp only [intOf];omega
   · have i1:¬(i:Int)<(len:Int):=by omega
     have HE:Hid (need (bss l)=18+needS ((bss l).take i)):=by
      show _=_
      rw [List.take_of_length_le (by rw [HL.out];exact hge)]
      rfl
     go_wp2_with fail
     go_ret
     exact⟨by rw [HE.out];rfl,rfl⟩
theorem ZlW {t : List Int} {s : List (List Nat)} : MayL ⟨t, s⟩ ↔ ItlOk t ∧ Za2 s ∧ need s ≤ 508 := ⟨fun h => ⟨h.itl, h.slots, h.need⟩, fun h => ⟨h.1, h.2.1, h.2.2⟩⟩
def Zmw (t : List Int) (s : List (List Nat)) (e : Ending) : Prop := (MayL ⟨t, s⟩ ∧ e = .returned (.int .i64 0)) ∨ (¬ MayL ⟨t, s⟩ ∧ e = .returned (.int .i64 1))
theorem ZdC {D:Nat→Prop}(w:World)(u v:Sl)(t:List Int)(l:List Sb)(hi:Gi D w u t)(hg:Gb D w v l) :
    Calls Tryz.prog 94 #[lfV u v] w fun e w'=>Zmw t (bss l) e∧Below w.heap.size w w':=by
  have hA:=Zaa w (.cells #[u.val,v.val] 67)
  have HW:=hide (ZgR _ u t (hi.below hA (Nat.le_refl _)))
  have HS:=hide (ZgQ _ v l (hg.below hA (Nat.le_refl _)))
  have HN:=hide (Ziv _ v l (hg.below hA (Nat.le_refl _)))
  have HA:=hide hA
  have HM:=hide (ZlW (t:=t) (s:=bss l))
  obtain⟨n,hn⟩:∃n,n=need (bss l):=⟨_,rfl⟩
  rw [← hn] at HN HM
  clear hn hi hg hA
  obtain⟨a,len,cap⟩:=v
  obtain⟨ua,ul,uc⟩:=u
  unfold lfV Sl.val at *
  simp only at *
  go_enter Tryz.func94,Tryz.ntmps94
  go_wp2_with fail
  refine HW.out.mono ?_
  rintro e w1 ⟨⟨r1,rfl,hr1⟩,hw⟩
  obtain rfl:=hw
  cases r1 with
  | false =>
   have HX:Hid (¬MayL ⟨t,bss l⟩):=fun h=>absurd (hr1.2 (HM.out.1 h).1) Bool.false_ne_true
   clear hr1
   go_wp2_with fail
   go_ret
   exact⟨.inr ⟨HX.out,rfl⟩,HA.out⟩
  | true =>
   have HR1:=hide (hr1.1 rfl)
   clear hr1
   go_wp2_with fail
   refine HS.out.mono ?_
   rintro e w1 ⟨⟨r2,rfl,hr2⟩,hw⟩
   obtain rfl:=hw
   cases r2 with
   | false =>
    have HX:Hid (¬MayL ⟨t,bss l⟩):=fun h=>absurd (hr2.2 (HM.out.1 h).2.1) Bool.false_ne_true
    clear hr2
    go_wp2_with fail
    go_ret
    exact⟨.inr ⟨HX.out,rfl⟩,HA.out⟩
   | true =>
    have HR2:=hide (hr2.1 rfl)
    clear hr2
    go_wp2_with fail
    refine HN.out.mono ?_
    rintro e w1 ⟨rfl,hw⟩
    obtain rfl:=hw
    by_cases h5:508<n
    · have i5:(508:Int)<(n:Int):=by omega
      go_wp2_with fail
      go_ret
      exact⟨.inr ⟨fun h=>by have:=(HM.out.1 h).2.2;omega,rfl⟩,HA.out⟩
    · have i5:¬(508:Int)<(n:Int):=by omega
      go_wp2_with fail
      go_ret
      exact⟨.inl ⟨HM.out.2 ⟨HR1.out,HR2.out,by omega⟩,rfl⟩,HA.out⟩
theorem Zcb {D : Nat → Prop} (w : World) (u v : Sl) (t : List Int) (l : List Sb) (hi : Gi D w u t) (hg : Gb D w v l) (h : MayL ⟨t, bss l⟩) :
    Calls Tryz.prog 94 #[lfV u v] w fun e w' => e = .returned (.int .i64 0) ∧ Below w.heap.size w w' := by
  refine (ZdC w u v t l hi hg).mono ?_
  rintro e w' ⟨h1 | h1, hb⟩
  · exact ⟨h1.2, hb⟩
  · exact absurd h h1.1
theorem Zml {D:Nat→Prop}(w:World)(u v:Sl)(t:List Int)(l:List Sb)(hi:Gi D w u t)(hg:Gb D w v l)(h:MayL ⟨t,bss l⟩) :
    Calls Tryz.prog 93 #[lfV u v] w fun e w'=>e=.returned (.int .i64 (508-((need (bss l):Nat):Int)))∧Below w.heap.size w w':=by
  have hA:=Zaa w (.cells #[u.val,v.val] 67)
  have HK:=hide (Zam w u.val v.val)
  have HC:=hide (Zcb _ u v t l (hi.below hA (Nat.le_refl _)) (hg.below hA (Nat.le_refl _)) h)
  have HN:Hid (∀W,Below w.heap.size w W→_):=fun W hW=>Ziv _ v l (hg.below hW (Nat.le_refl _))
  have HA:=hide hA
  have hn5:need (bss l)≤508:=h.need
  obtain⟨n,hn⟩:∃n,n=need (bss l):=⟨_,rfl⟩
  rw [← hn] at HN hn5
  rw [← hn]
  clear hn hi hg hA h
  obtain⟨a,len,cap⟩:=v
  obtain⟨ua,ul,uc⟩:=u
  unfold lfV Sl.val at *
  simp only at *
  go_enter Tryz.func93,Tryz.ntmps93
  go_wp2_with fail
  refine HC.out.mono ?_
  rintro e w1 ⟨rfl,hb⟩
  have HB:=hide (Zac HA.out hb)
  have k:=HK.out.below hb
  have c0:=k.c0
  have c1:=k.c1
  have HN':=hide (HN.out w1 HB.out)
  clear k hb HK HN HC
  go_wp2_with fail
  refine HN'.out.mono ?_
  rintro e w2 ⟨rfl,hw⟩
  obtain rfl:=hw
  go_wp2_with fail
  go_ret
  exact⟨rfl,HB.out⟩
def Zbg (n : Nat) : Bool := decide (1 ≤ n) && decide (n ≤ 255)
theorem ZgF (w : World) (s : Sl) : Calls Tryz.prog 98 #[s.val] w fun e w' => e = .returned (.bool (Zbg s.len)) ∧ w' = w := by
 obtain ⟨a, n, cap⟩ := s
 unfold Sl.val Zbg
 simp only
 by_cases h1 : 1 ≤ n
 · have i1 : (1 : Int) ≤ (n : Int) := by omega
   by_cases h2 : n ≤ 255
   · have i2 : (n : Int) ≤ 255 := by omega
     rw [decide_eq_true h1, decide_eq_true h2]
     go_enter Tryz.func98, Tryz.ntmps98
     go_wp2_with fail
     go_ret
     exact ⟨rfl, rfl⟩
   · have i2 : ¬ (n : Int) ≤ 255 := by omega
     rw [decide_eq_true h1, decide_eq_false h2]
     go_enter Tryz.func98, Tryz.ntmps98
     go_wp2_with fail
     go_ret
     exact ⟨rfl, rfl⟩
 · have i1 : ¬ (1 : Int) ≤ (n : Int) := by omega
   rw [decide_eq_false h1]
   go_enter Tryz.func98, Tryz.ntmps98
   go_wp2_with fail
   go_ret
   exact ⟨rfl, rfl⟩
theorem ZfA {D:Nat→Prop}(w:World)(u v:Sl)(l:List Sb)(hg:Gb D w v l)(i:Int) :
    Calls Tryz.prog 104 #[lfV u v,.int .i64 i] w fun e w'=>e=.returned (.bool (Zax (bss l) i))∧Below w.heap.size w w':=by
  obtain⟨a,len,cap⟩:=v
  obtain⟨ua,ul,uc⟩:=u
  have hl:l.length=len:=hg.len
  have hbig:len≤1000:=hg.big
  have hA:=Zaa w (.cells #[.slice ua ul uc,.slice a len cap] 67)
  have HG:=hide (hg.below hA (Nat.le_refl _))
  have HA:=hide hA
  have HL:Hid ((bss l).length=len):=by show _=_;rw [Zah];exact hl
  clear hg hl hA
  unfold lfV Sl.val
  simp only
  by_cases h0:0≤i
  · obtain⟨k,rfl⟩:=Int.eq_ofNat_of_zero_le h0
    by_cases h1:k<len
    · have i1:(k:Int)<(len:Int):=by omega
      obtain⟨bb,oo,ha,c0⟩:=HG.out.cell k h1
      replace ha:a=some ⟨bb,oo,none⟩:=ha
      subst ha
      obtain⟨_,hsl,h1000⟩:=HG.out.at h1
      obtain⟨⟨sa,sn,sc⟩,hsb⟩:∃s,s=(l.getD k Sb.zero).s:=⟨_,rfl⟩
      rw [← hsb] at c0 hsl
      unfold Sl.val at c0
      simp only at c0 hsl
      have e:Zax (bss l) (k:Int)=decide (0<sn):=by
       unfold Zax
       rw [HL.out,decide_eq_true h0,decide_eq_true i1,Bool.true_and,Bool.true_and,Int.toNat_natCast,← hsl]
      have HE:=hide e
      by_cases h2:0<sn
      · have i2:(0:Int)<(sn:Int):=by omega
        clear e hsb hsl h1000
        go_enter Tryz.func104,Tryz.ntmps104
        go_wp2_with fail
        go_ret
        exact⟨by rw [HE.out,decide_eq_true h2];rfl,HA.out⟩
      · have i2:¬(0:Int)<(sn:Int):=by omega
        clear e hsb hsl h1000
        go_enter Tryz.func104,Tryz.ntmps104
        go_wp2_with fail
        go_ret
        exact⟨by rw [HE.out,decide_eq_false h2];rfl,HA.out⟩
    · have i1:¬(k:Int)<(len:Int):=by omega
      have HE:Hid (Zax (bss l) (k:Int)=false):=by
       show _=_
       unfold Zax
       rw [HL.out,decide_eq_false i1]
       simp
      go_enter Tryz.func104,Tryz.ntmps104
      go_wp2_with fail
      go_ret
      exact⟨by rw [HE.out];rfl,HA.out⟩
  · have HE:Hid (Zax (bss l) i=false):=by
     show _=_
     unfold Zax
     rw [decide_eq_false h0]
     rfl
    go_enter Tryz.func104,Tryz.ntmps104
    go_wp2_with fail
    go_ret
    exact⟨by rw [HE.out];rfl,HA.out⟩
end Go.Proofs.YtdojdcncncgncaaGreat
