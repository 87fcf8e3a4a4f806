/-
  Lemmas.
-/
import Derived.Test.YtiecfcjlhldhdaaGreatKnag
import Derived.Test.YtiecfcjlhldhdaaGreatKnae
namespace Go.Proofs.YtiecfcjlhldhdaaGreat
open Go.RowKit Go.Proofs.Tryz
set_option linter.unusedVariables false
set_option linter.unusedSimpArgs false
set_option maxRecDepth 100000
set_option maxHeartbeats 4000000
variable {w w' w0:World}{xs:List Nat}{t:List Int}{i p b n o:Nat}{s s4 s5:Sl}{R:List Rx}{x:Bt}{A:Act}{B:List Bt}
theorem Zp6 {f:Int→Bool}(h:i<t.length)(hf:f (t.getD i 0)=true):ixI f (t.drop i) i=(i:Int):=by rw [Zex f h,if_pos hf]
theorem Zoc {f:Int→Bool}(h:i<t.length)(hf:f (t.getD i 0)=false):ixI f (t.drop i) i=ixI f (t.drop (i+1)) (i+1):=by rw [Zex f h,if_neg (by rw [hf];decide)]
theorem Zp5 {f:Int→Bool}(h:t.length≤i):ixI f (t.drop i) i = -1:=by rw [List.drop_eq_nil_of_le h];rfl
theorem Zp2 {D:Nat→Prop}(w:World)(v:Sl)(t:List Int)(h:Gi D w v t)(y:Int) :
    Calls prog 144 #[v.val,.int .i64 y] w fun e w'=>e=.returned (.int .i64 (ixI (fun x=>y == x) t 0))∧w'=w:=by
  obtain⟨a,len,cap⟩:=v;have HG:=Zh h;have hl:t.length=len:=h.len;have HL:=Zh hl;have ae:len≤1000000:=h.big;have HI:Hi (ixI (fun x=>y == x) t 0=ixI (fun x=>y == x) (t.drop 0) 0):=rfl;clear h hl;unfold Sl.val;simp only;go_enter func144,ntmps144;go_wp2_with fail;go_loopw [8] (fun iv wr=>wr=w∧∃i:Nat,i≤len∧iv=.int .i64 (i:Nat)∧Hi (ixI (fun x=>y == x) t 0=ixI (fun x=>y == x) (t.drop i) i)) (fun iv _=>len-(intOf iv).toNat)
  case atStart=>exact ⟨rfl,0,Nat.zero_le _,rfl,HI⟩
  case round =>
   obtain⟨rfl,i,hi,rfl,aa⟩:=hrel;rcases Nat.lt_or_ge i len with ab | af
   · (have i1:(i:Int)<(len:Int):=by omega);obtain⟨bb,oo,ha,c0⟩:=HG.o.cell i ab;replace ha:a=some ⟨bb,oo,none⟩:=ha;subst ha;obtain⟨x,hx⟩:∃x,x=t.getD i 0:=⟨_,rfl⟩;rw [← hx] at c0;have HX:=Zh hx;clear hx;by_cases ad:y=x
     · subst ad;have HE:Hi (ixI (fun x=>y == x) t 0=(i:Int)):=aa.o.trans (Zp6 (by rw [HL.o];exact ab) (by rw [← HX.o];simp));clear aa HX;go_wp2;go_ret;exact⟨by rw [HE.o];rfl,rfl⟩
     · (have ac:(y == x)=false:=by simp [ad]);have HE:Hi (ixI (fun x=>y == x) t 0=ixI (fun x=>y == x) (t.drop (i+1)) (i+1)):=aa.o.trans (Zoc (by rw [HL.o];exact ab) (by rw [← HX.o];exact ac));clear aa HX;go_wp2;go_roundw;exact ⟨trivial,i+1,by omega,by go_num,HE⟩;simp only [intOf];omega
   · have HE:Hi (ixI (fun x=>y == x) t 0 = -1):=aa.o.trans (Zp5 (by rw [HL.o];exact af));(have i1:¬(i:Int)<(len:Int):=by omega);clear aa;go_wp2;go_ret;exact⟨by rw [HE.o];rfl,rfl⟩
theorem Zht (t:List Int)(y:Int):decide (0≤ixI (fun x=>y == x) t 0)=t.contains y:=by
 rcases ZbE (fun x=>y == x) t 0 with ⟨h1,h2⟩ | ⟨i,hi,h1,h2,_⟩
 · rw [h1];(have:¬y∈t:=fun h=>by have:=h2 y h;simp at this);simp [this]
 · rw [h1];have:t.getD i 0∈t:=Zdp hi;(have e:y=t.getD i 0:=by simpa using h2);rw [← e] at this;simp [this]
theorem ZgZ {D:Nat→Prop}(w:World)(v:Sl)(t:List Int)(h:Gi D w v t)(y:Int) :
    Calls prog 111 #[v.val,.int .i64 y] w fun e w'=>e=.returned (.bool (t.contains y))∧w'=w:=by
  have HC:=Zh (Zp2 w v t h y);have hE:=Zht t y;obtain⟨z,hz⟩:∃z,z=ixI (fun x=>y == x) t 0:=⟨_,rfl⟩;rw [← hz] at HC hE;rw [← hE];clear hz hE h;obtain⟨a,len,cap⟩:=v;unfold Sl.val at *;simp only at *;go_enter func111,ntmps111;go_wp2_with fail;refine HC.o.mono ?_;rintro e w1 ⟨rfl,hw⟩;obtain rfl:=hw.symm;go_wp2;go_ret;exact⟨rfl,rfl⟩
theorem Gi.take {D:Nat→Prop}{v:Sl}(h:Gi D w v t)(hn:n≤v.len):Gi D w ⟨v.a,n,v.cap⟩ (t.take n):=by
 have hl:=h.len;have hc:=h.le;have hb:=h.big;refine⟨?_,h.nil,by show n≤v.cap;omega,by show n≤1000000;omega,fun ad ha h0=>h.home ad ha ?_,fun i hi=>?_⟩
 · show _=n;rw [List.length_take];omega
 · have:0<n:=h0;omega
 · replace hi:i<n:=hi;obtain⟨b,off,ha,aa⟩:=h.cell i (by omega);refine⟨b,off,ha,?_⟩;rw [aa];simp [List.getD,hi]
def Zly (t:List Int) (e:Ending):Prop:=∃r:Bool,e=.returned (.bool r)∧(r=true↔ItlOk t)
theorem ZjR (h:¬ItlOk t):Zly t (.returned (.bool false)):=⟨false,rfl,by simp [h]⟩
theorem Zqy (h:ItlOk t):Zly t (.returned (.bool true)):=⟨true,rfl,by simp [h]⟩
theorem Zh5 {D:Nat→Prop}(w:World)(v:Sl)(t:List Int)(h:Gi D w v t) :
    Calls prog 165 #[v.val] w fun e w'=>Zly t e∧w'=w:=by
  obtain⟨a,len,cap⟩:=v;have HG:=Zh h;have hl:t.length=len:=h.len;have HL:=Zh hl;have ae:len≤1000000:=h.big;have af:len≤cap:=h.le;clear h hl;unfold Sl.val;simp only;by_cases h4:len=4
  · subst h4;(have ag:¬cap=0:=by omega);(have ah:¬(0=cap):=by omega);obtain⟨b,o,ha,_⟩:=HG.o.cell 0 (by show 0<4;omega);replace ha:a=some ⟨b,o,none⟩:=ha;subst ha;go_enter func165,ntmps165;go_wp2_with fail;go_loopw [10] (fun iv wr=>wr=w∧∃i:Nat,i≤4∧iv=.int .i64 (i:Nat)∧Hi (∀j,j<i→0≤t.getD j 0∧t.getD j 0≤2147483647)∧Hi (∀j,j<i→∀k,k<j→t.getD k 0≠0→t.getD k 0≠t.getD j 0)) (fun iv _=>4-(intOf iv).toNat)
    case atStart=>exact ⟨rfl,0,by omega,rfl,fun _ h=>absurd h (Nat.not_lt_zero _),fun _ h=>absurd h (Nat.not_lt_zero _)⟩
    case round =>
     obtain⟨rfl,i,hi,rfl,ab,aa⟩:=hrel;rcases Nat.lt_or_ge i 4 with ad | ai
     · (have i1:(i:Int)<4:=by omega);obtain⟨b',o',ha,c0⟩:=HG.o.cell i ad;simp only [Option.some.injEq,Addr.mk.injEq,and_true] at ha;obtain⟨rfl,rfl⟩:=ha;obtain⟨x,hx⟩:∃x,x=t.getD i 0:=⟨_,rfl⟩;rw [← hx] at c0;have HX:=Zh hx;have ac:=Zh (ZgZ wr ⟨some ⟨b,o,none⟩,i,cap⟩ (t.take i) (HG.o.take (n:=i) hi) x);unfold Sl.val at ac;clear hx;by_cases aj:x<0
       · (have HN:Hi (¬ItlOk t):=fun k=>by have:=(k.2.1 i ad).1;rw [← HX.o] at this;omega);go_wp2;go_ret;exact⟨ZjR HN.o,rfl⟩
       · by_cases ak:2147483647<x
         · (have HN:Hi (¬ItlOk t):=fun k=>by have:=(k.2.1 i ad).2;rw [← HX.o] at this;omega);go_wp2;go_ret;exact⟨ZjR HN.o,rfl⟩
         · by_cases hz:x=0
           · subst hz;have HR:Hi (∀j,j<i+1→0≤t.getD j 0∧t.getD j 0≤2147483647):=by
              intro j hj;by_cases e:j=i
              · rw [e,← HX.o];decide
              · exact ab.o j (by omega)
             have HD:Hi (∀j,j<i+1→∀k,k<j→t.getD k 0≠0→t.getD k 0≠t.getD j 0):=by
              intro j hj k hk h1;by_cases e:j=i
              · rw [e,← HX.o];exact h1
              · exact aa.o j (by omega) k hk h1
             clear ab aa HX;go_wp2;go_roundw;exact ⟨trivial,i+1,by omega,by go_num,HR,HD⟩;simp only [intOf];omega
           · (have al:(x != 0)=true:=by simp [hz]);cases hct:(t.take i).contains x with
             | true =>
              rw [hct] at ac;have HN:Hi (¬ItlOk t):=fun k=>by
               (have hm:x∈t.take i:=by simpa using hct);obtain⟨j,hj,e⟩:=List.mem_iff_getElem.1 hm;rw [List.length_take,HL.o] at hj;have e2:t.getD j 0=x:=by
                rw [← e];(have:j<t.length:=by rw [HL.o];omega);simp [List.getD,this]
               have:=k.2.2 i ad j (by omega) (by rw [e2];exact hz);rw [e2,← HX.o] at this;exact this rfl
              clear hct HX ab aa;go_wp2_with fail;refine ac.o.mono ?_;rintro e w1 ⟨rfl,hw⟩;obtain rfl:=hw.symm;go_wp2;go_ret;exact⟨ZjR HN.o,rfl⟩
             | false =>
              rw [hct] at ac;have HR:Hi (∀j,j<i+1→0≤t.getD j 0∧t.getD j 0≤2147483647):=by
               intro j hj;by_cases e:j=i
               · rw [e,← HX.o];omega
               · exact ab.o j (by omega)
              have HD:Hi (∀j,j<i+1→∀k,k<j→t.getD k 0≠0→t.getD k 0≠t.getD j 0):=by
               intro j hj k hk h1;by_cases e:j=i
               · rw [e,← HX.o];intro e2;have hm:x∈t.take i:=by
                  rw [List.mem_take_iff_getElem];refine⟨k,by rw [HL.o];omega,?_⟩;rw [← e2];(have:k<t.length:=by rw [HL.o];omega);simp [List.getD,this]
                 (have:(t.take i).contains x=true:=by simpa using hm);rw [hct] at this;cases this
               · exact aa.o j (by omega) k hk h1
              clear hct HX ab aa;go_wp2_with fail;refine ac.o.mono ?_;rintro e w1 ⟨rfl,hw⟩;obtain rfl:=hw.symm;go_wp2;go_roundw;exact ⟨trivial,i+1,by omega,by go_num,HR,HD⟩;simp only [intOf];omega
     · (have i1:¬(i:Int)<4:=by omega);have HY:Hi (ItlOk t):=⟨HL.o,fun j hj=>ab.o j (by omega),fun j hj=>aa.o j (by omega)⟩;clear ab aa;go_wp2;go_ret;exact⟨Zqy HY.o,rfl⟩
  · have HN:Hi (¬ItlOk t):=fun k=>h4 (by rw [← HL.o];exact k.1);(have i4:((len:Int) != 4)=true:=by simp;omega);(have i5:¬(len:Int)=4:=by omega);go_enter func165,ntmps165;go_wp2;go_ret;exact⟨ZjR HN.o,rfl⟩
def Zlv (s:List (List Nat)) (e:Ending):Prop:=∃r:Bool,e=.returned (.bool r)∧(r=true↔Za6 s)
theorem Znh {s:List (List Nat)}(h:¬Za6 s):Zlv s (.returned (.bool false)):=⟨false,rfl,by simp [h]⟩
theorem Zni {s:List (List Nat)}(h:Za6 s):Zlv s (.returned (.bool true)):=⟨true,rfl,by simp [h]⟩
theorem Zh4 {D:Nat→Prop}(w:World)(v:Sl)(l:List Sb)(h:Gb D w v l) :
    Calls prog 166 #[v.val] w fun e w'=>Zlv (bss l) e∧w'=w:=by
  obtain⟨a,len,cap⟩:=v;have HG:=Zh h;(have HL:Hi ((bss l).length=len):=by show _=_;rw [Zaj];exact h.len);have af:len≤1000:=h.big;clear h;unfold Sl.val;simp only;by_cases ai:64<len
  · (have i4:(64:Int)<(len:Int):=by omega);(have HN:Hi (¬Za6 (bss l)):=fun k=>by have:=k.1;rw [HL.o] at this;omega);go_enter func166,ntmps166;go_wp2;go_ret;exact⟨Znh HN.o,rfl⟩
  · (have i4:¬(64:Int)<(len:Int):=by omega);go_enter func166,ntmps166;go_wp2_with fail;go_loopw [10] (fun iv wr=>wr=w∧∃i:Nat,i≤len∧iv=.int .i64 (i:Nat)∧Hi (∀j,j<i→(sl (bss l) j).length≤255)) (fun iv _=>len-(intOf iv).toNat)
    case atStart=>exact ⟨rfl,0,Nat.zero_le _,rfl,fun _ h=>absurd h (Nat.not_lt_zero _)⟩
    case round =>
     obtain⟨rfl,i,hi,rfl,ac⟩:=hrel;rcases Nat.lt_or_ge i len with ae | aj
     · (have i1:(i:Int)<(len:Int):=by omega);obtain⟨bb,oo,ha,c0⟩:=HG.o.cell i ae;replace ha:a=some ⟨bb,oo,none⟩:=ha;subst ha;obtain⟨_,ab,aa⟩:=HG.o.at ae;obtain⟨⟨sa,sn,sc⟩,ad⟩:∃s,s=(l.getD i Sb.zero).s:=⟨_,rfl⟩;rw [← ad] at c0 ab;unfold Sl.val at c0;simp only at c0 ab;have HS:=Zh ab;(have ah:sn≤1000:=by omega);clear ad ab aa;by_cases h5:255<sn
       · (have i5:(255:Int)<(sn:Int):=by omega);(have HN:Hi (¬Za6 (bss l)):=fun k=>by have:=k.2.1 i (by rw [HL.o];exact ae);rw [← HS.o] at this;omega);clear HS ac;go_wp2;go_ret;exact⟨Znh HN.o,rfl⟩
       · (have i5:¬(255:Int)<(sn:Int):=by omega);have HR:Hi (∀j,j<i+1→(sl (bss l) j).length≤255):=by
          intro j hj;by_cases e:j=i
          · rw [e,← HS.o];omega
          · exact ac.o j (by omega)
         clear HS ac;go_wp2;go_roundw;exact ⟨trivial,i+1,by omega,by go_num,HR⟩;simp only [intOf];omega
     · (have i1:¬(i:Int)<(len:Int):=by omega);(have e0:i=len:=by omega);subst e0;rcases Nat.eq_zero_or_pos i with h0 | h0
       · subst h0;have HY:Hi (Za6 (bss l)):=⟨by rw [HL.o];omega,fun j hj=>by rw [HL.o] at hj;omega,fun ag=>absurd (List.eq_nil_of_length_eq_zero HL.o) ag⟩;clear ac;go_wp2;go_ret;exact⟨Zni HY.o,rfl⟩
       · obtain⟨k,rfl⟩:∃k,i=k+1:=⟨i-1,by omega⟩;(have i2:¬(((k+1:Nat):Int)=0):=by omega);(have i3:(((k+1:Nat):Int) == 0)=false:=by simp;omega);obtain⟨bb,oo,ha,c0⟩:=HG.o.cell k (Nat.lt_succ_self k);replace ha:a=some ⟨bb,oo,none⟩:=ha;subst ha;obtain⟨_,ab,aa⟩:=HG.o.at (Nat.lt_succ_self k);obtain⟨⟨sa,sn,sc⟩,ad⟩:∃s,s=(l.getD k Sb.zero).s:=⟨_,rfl⟩;rw [← ad] at c0 ab;unfold Sl.val at c0;simp only at c0 ab;have HS:=Zh ab;(have ah:sn≤1000:=by omega);clear ad ab aa;(have e1:((k+1:Nat):Int)-1=(k:Int):=by omega);by_cases h5:0<sn
         · (have i5:(0:Int)<(sn:Int):=by omega);have HY:Hi (Za6 (bss l)):=⟨by rw [HL.o];omega,fun j hj=>ac.o j (by rw [HL.o] at hj;exact hj),fun _=>by
            rw [HL.o,Nat.add_sub_cancel];intro e;have:=HS.o;rw [e] at this;simp at this;omega⟩
           clear ac HS;go_wp2;go_ret;exact⟨Zni HY.o,rfl⟩
         · (have i5:¬(0:Int)<(sn:Int):=by omega);have HN:Hi (¬Za6 (bss l)):=fun q=>by
            have:=q.2.2 (fun e=>by have:=HL.o;rw [e] at this;simp at this);rw [HL.o,Nat.add_sub_cancel] at this;exact this (List.eq_nil_of_length_eq_zero (by rw [← HS.o];omega))
           clear ac HS;go_wp2;go_ret;exact⟨Znh HN.o,rfl⟩
theorem Zoj {D:Nat→Prop}(w:World)(v:Sl)(l:List Sb)(hg:Gb D w v l) :
    Calls prog 167 #[v.val] w fun e w'=>e=.returned (.int .i64 ((need (bss l):Nat):Int))∧w'=w:=by
  obtain⟨a,len,cap⟩:=v;have hl:l.length=len:=hg.len;have ah:len≤1000:=hg.big;have HG:=Zh hg;(have HL:Hi ((bss l).length=len):=by show _=_;rw [Zaj];exact hl);have HN:Hi (∀n,n≤len→needS ((bss l).take n)≤n*1001):=by
   intro n hn;refine Zg8 (bss l) (fun i hi=>?_) n (by rw [Zaj,hl];exact hn);exact(hg.at (by rw [Zaj] at hi;show i<len;omega)).2.2
  clear hg hl;unfold Sl.val;simp only;go_enter func167,ntmps167;go_wp2_with fail;go_loopw [8,3] (fun iv nv wr=>wr=w∧∃i:Nat,i≤len∧iv=.int .i64 (i:Nat)∧nv=.int .i64 ((18+needS ((bss l).take i):Nat):Int)) (fun iv _ _=>len-(intOf iv).toNat)
  case atStart=>exact ⟨rfl,0,Nat.zero_le _,rfl,rfl⟩
  case round =>
   obtain⟨rfl,i,hi,rfl,rfl⟩:=hrel;rcases Nat.lt_or_ge i len with ad | ai
   · (have i1:(i:Int)<(len:Int):=by omega);obtain⟨bb,oo,ha,c0⟩:=HG.o.cell i ad;replace ha:a=some ⟨bb,oo,none⟩:=ha;subst ha;obtain⟨_,ac,ab⟩:=HG.o.at ad;have aa:=Zbx (s:=bss l) (k:=i) (by rw [HL.o];exact ad);have ae:=HN.o i hi;obtain⟨⟨sa,sn,sc⟩,af⟩:∃s,s=(l.getD i Sb.zero).s:=⟨_,rfl⟩;rw [← af] at c0 ac;unfold Sl.val at c0;simp only at c0 ac;obtain⟨q,hq⟩:∃q,q=needS ((bss l).take i):=⟨_,rfl⟩;(have ag:Hi (needS ((bss l).take (i+1))=q+1+sn):=by show _=_;rw [aa,hq,ac]);rw [← hq] at ae ⊢;(have aj:q≤1001000:=by omega);(have ak:sn≤1000:=by omega);clear aa af hq ac ab ae;go_wp2;go_roundw;exact ⟨trivial,i+1,by omega,by go_num,by rw [ag.o];go_num⟩;simp only [intOf];omega
   · (have i1:¬(i:Int)<(len:Int):=by omega);have HE:Hi (need (bss l)=18+needS ((bss l).take i)):=by
      show _=_;rw [List.take_of_length_le (by rw [HL.o];exact ai)];rfl
     go_wp2;go_ret;exact⟨by rw [HE.o];rfl,rfl⟩
theorem Zoh {s:List (List Nat)}:MayL ⟨t,s⟩↔ItlOk t∧Za6 s∧need s≤508:=⟨fun h=>⟨h.itl,h.slots,h.need⟩,fun h=>⟨h.1,h.2.1,h.2.2⟩⟩
def Zqz (t:List Int) (s:List (List Nat)) (e:Ending):Prop:=(MayL ⟨t,s⟩∧e=.returned (.int .i64 0))∨(¬MayL ⟨t,s⟩∧e=.returned (.int .i64 1))
theorem Zkd {D:Nat→Prop}(w:World)(u v:Sl)(t:List Int)(l:List Sb)(hi:Gi D w u t)(hg:Gb D w v l) :
    Calls prog 138 #[lfV u v] w fun e w'=>Zqz t (bss l) e∧Bl w w':=by
  have hA:=Zab w (.cells #[u.val,v.val] 101);have HW:=Zh (Zh5 _ u t (hi.below hA (Nat.le_refl _)));have HS:=Zh (Zh4 _ v l (hg.below hA (Nat.le_refl _)));have HN:=Zh (Zoj _ v l (hg.below hA (Nat.le_refl _)));have HA:=Zh hA;have HM:=Zh (Zoh (t:=t) (s:=bss l));obtain⟨n,hn⟩:∃n,n=need (bss l):=⟨_,rfl⟩;rw [← hn] at HN HM;clear hn hi hg hA;obtain⟨a,len,cap⟩:=v;obtain⟨ua,ul,uc⟩:=u;unfold lfV Sl.val at *;simp only at *;go_enter func138,ntmps138;go_wp2_with fail;refine HW.o.mono ?_;rintro e w1 ⟨⟨r1,rfl,aa⟩,hw⟩;obtain rfl:=hw;cases r1 with
  | false =>
   have HX:Hi (¬MayL ⟨t,bss l⟩):=fun h=>absurd (aa.2 (HM.o.1 h).1) Bool.false_ne_true;clear aa;go_wp2;go_ret;exact⟨.inr ⟨HX.o,rfl⟩,HA.o⟩
  | true =>
   have ac:=Zh (aa.1 rfl);clear aa;go_wp2_with fail;refine HS.o.mono ?_;rintro e w1 ⟨⟨r2,rfl,ab⟩,hw⟩;obtain rfl:=hw;cases r2 with
   | false =>
    have HX:Hi (¬MayL ⟨t,bss l⟩):=fun h=>absurd (ab.2 (HM.o.1 h).2.1) Bool.false_ne_true;clear ab;go_wp2;go_ret;exact⟨.inr ⟨HX.o,rfl⟩,HA.o⟩
   | true =>
    have ad:=Zh (ab.1 rfl);clear ab;go_wp2_with fail;refine HN.o.mono ?_;rintro e w1 ⟨rfl,hw⟩;obtain rfl:=hw;by_cases h5:508<n
    · (have i5:(508:Int)<(n:Int):=by omega);go_wp2;go_ret;exact⟨.inr ⟨fun h=>by have:=(HM.o.1 h).2.2;omega,rfl⟩,HA.o⟩
    · (have i5:¬(508:Int)<(n:Int):=by omega);go_wp2;go_ret;exact⟨.inl ⟨HM.o.2 ⟨ac.o,ad.o,by omega⟩,rfl⟩,HA.o⟩
section
variable {ops : Array Oper} {rest : List Oper} {o : Oper} {a : Act} {Q : Exit → Act → World → Prop}
end
theorem ZcU (w:World):(Instr.alloc 101 true (.tuple #[])).run prog w=.ok (.pointer (some ⟨w.heap.size,0,none⟩)) (w.alloc (.cells #[.slice none 0 0,.slice none 0 0] 101)):=by
 simp [go_sem,Instr.alloc]
theorem Own.apart {e e2:TypeId}{z z2:Nat}{s2:Sl}{vs vs2:List Value}(h:Own e z w s vs)(h2:Own e2 z2 w s2 vs2)(he:e≠e2):∀k,s.blk=some k→s2.blk≠some k:=by
 intro k hk ab;obtain⟨c,hc⟩:=h.kind hk;obtain⟨c2,aa⟩:=h2.kind ab;rw [hc] at aa;simp only [Option.some.injEq,Obj.cells.injEq] at aa;exact he aa.2.1
theorem ZpI {l:List Sb}{x:Sb}(h:x∈l):∃i,i<l.length∧l.getD i Sb.zero=x:=by
 obtain⟨i,hi,e⟩:=List.mem_iff_getElem.1 h;exact⟨i,hi,by simp [List.getD,hi,e]⟩
def nul (xs:List Nat):Bool:=xs.all fun x=>x == 0
theorem Zrk (h:i<xs.length)(hx:xs.getD i 0≠0):nul xs=false:=by
 unfold nul;rw [List.all_eq_false];refine⟨xs.getD i 0,?_,by simpa using hx⟩;simp [List.getD,h]
theorem ZpM (h:∀i,i<xs.length→xs.getD i 0=0):nul xs=true:=by
 unfold nul;rw [List.all_eq_true];intro x hx;obtain⟨i,hi,e⟩:=List.mem_iff_getElem.1 hx;have:=h i hi;simp [List.getD,hi] at this;simp [← e,this]
theorem Gi.none {D:Nat→Prop}(w:World):Gi D w Sl.nil []:=⟨rfl,fun _=>rfl,Nat.le_refl _,Nat.zero_le _,fun _ h=>(by cases h),fun _ h=>absurd h (Nat.not_lt_zero _)⟩
theorem Gb.none {D:Nat→Prop}(w:World):Gb D w Sl.nil []:=⟨rfl,fun _=>rfl,Nat.le_refl _,Nat.zero_le _,fun _ h=>(by cases h),fun _ h=>absurd h (Nat.not_lt_zero _),fun _ h=>(by cases h)⟩
section
variable {ops : Array Oper} {rest : List Oper} {o : Oper} {a : Act} {Q : Exit → Act → World → Prop}
theorem Zaq (w:World)(ab:o.guard=none)(S:TypeId)(s y:Operand)(ho:o.op=.call { callee:=.builtin .append,args:=#[s,y],argTypes:=#[S,S] })(x1 x2 v:Value)(hs:a.eval s=x1)(hy:a.eval y=x2)(w':World)(aa:∀ty,(Builtin.append_ #[S,S] ty #[x1,x2]).run prog w=.ok v w')
    (hK:wpList prog ops Q rest (a.put o.dst v) w'):wpList prog ops Q (o :: rest) a w:=by
  refine wpList_plain ab fun K hK'=>?_;unfold Oper.wp;simp [execOp,ho,resolve,invoke,builtin,hs,hy,aa,Result.andThen];exact hK' _ _ hK
end
theorem Came.top {a:Option Addr}{len cap k:Nat}(h:Came w a len cap xs)(hk:k≤len):Came w (fromA a cap 0) k cap (xs.take k):=by
 refine⟨h.bs.upto hk,fun e=>?_,by have:=h.le;omega,by have:=h.big;omega⟩;unfold fromA at e;split at e
 · omega
 · cases a with
   | none=>exact h.nil rfl
   | some x=>simp at e
theorem Zbw (r:Rw)(a:Option Addr)(len cap:Nat)(w:World)(h:Fs w a len cap r.xs)(hf:r.fits)(hm:r.may=true) :
    Calls prog 62 #[r.val (.slice a len cap)] w fun e w'=>∃v,e=.returned v∧Owns w' w.heap.size v (hpB r)∧Bl w w':=by
  have HA:=Zh (Zab w (.cells #[.float .f64 r.key,.bool r.dead,.slice a len cap,.int .i64 r.wr,.int .i64 r.cell,.int .i64 r.no] 39));have HB:=Zh (Zck r a len cap _ (h.keep HA.o (Nat.le_refl _)) hf hm);have HX:=Zh (Zai w r (.slice a len cap));have an:=(Rw.may_parts hm).2.1;have am:=Zcg r;obtain⟨n0,ae⟩:∃n,n=r.bytes.length:=⟨_,rfl⟩;(have ap:n0≤52:=by omega);(have ao:20≤n0:=by omega);have ab:=Zh ae;clear h an am;unfold Rw.val at HB ⊢;go_enter func62,ntmps62;go_wp2_with fail;refine HB.o.mono ?_;rintro e w1 ⟨v,rfl,ho,hb⟩;obtain⟨g3,k3,aq,_,_⟩:=ho.pos (by omega);subst aq;rw [← ae] at ho ⊢;have aj:Hi (Owns w1 w.heap.size (.slice (some ⟨g3,0,none⟩) (n0+0) k3) (r.bytes ++ List.replicate 0 0)):=by
   show Owns _ _ _ _;rw [List.replicate_zero,List.append_nil,Nat.add_zero];exact ho.lower HA.o.size
  have ah:=Zh (Zac HA.o hb);clear ho hb ae;go_wp2_with fail;rename World=>wq;go_loopw [3] (fun xv wr=>∃(k g c:Nat),n0+k≤52∧xv=.slice (some ⟨g,0,none⟩) (n0+k) c∧Hi (Owns wr w.heap.size (.slice (some ⟨g,0,none⟩) (n0+k) c) (r.bytes ++ List.replicate k 0))∧Hi (Bl w wr)) (fun xv _=>52-Zrx xv)
  case atStart=>exact ⟨0,g3,k3,by omega,rfl,aj,ah⟩
  case round =>
   obtain⟨k,g,c,hk,rfl,ho,ac⟩:=hrel;rcases Nat.lt_or_ge (n0+k) 52 with av | au
   · (have j1:(((n0+k:Nat)):Int)<52:=by omega);have hA:=Zab wr (.cells (vals [0]).toArray 5);(have h0:Bytes [0]:=fun y hy=>by simp at hy;omega);obtain⟨v4,W4,ad,aa,af⟩:=Zce _ 0 w.heap.size _ _ (ho.o.keep hA (Nat.le_refl _)) (some ⟨wr.heap.size,0,none⟩) 1 1 [0] (Zl7 wr [0] (0,0) h0) (fun e=>by cases e) (by rw [List.length_append,← ab.o,List.length_replicate];omega) (Nat.le_trans ac.o.size hA.size);rw [List.append_assoc,← List.replicate_succ'] at aa;obtain⟨g4,c4,ar,_,_⟩:=aa.pos (by rw [List.length_append,← ab.o];omega);subst ar;rw [List.length_append,← ab.o,List.length_replicate] at aa ad;have ag:Hi (∀ty,(Builtin.append_ #[107,107] ty #[.slice (some ⟨g,0,none⟩) (n0+k) c,.slice (some ⟨wr.heap.size,0,none⟩) 1 1]).run prog (wr.alloc (.cells #[.int .u8 0] 5))=.ok (.slice (some ⟨g4,0,none⟩) (n0+(k+1)) c4) W4):=fun ty=>ad;have ak:=Zh aa;have ai:=Zh ((Zac ac.o hA).trans af);clear ad aa af hA h0 ho ac;go_wp2_with (at_builtin;refine Zaq _ rfl 107 (.tmp 9) (.tmp 10) rfl (.slice (some ⟨g,0,none⟩) (n0+k) c) (.slice (some ⟨wr.heap.size,0,none⟩) 1 1) (.slice (some ⟨g4,0,none⟩) (n0+(k+1)) c4) rfl rfl W4 ag.o ?_);go_roundw
     case rel=>exact ⟨k+1,g4,c4,by omega,rfl,ak,ai⟩
     case measure=>simp only [Zrx];omega
   · (have e0:k=52-r.bytes.length:=by rw [← ab.o];omega);(have j1:¬(((n0+k:Nat)):Int)<52:=by omega);have al:Hi (Owns wr w.heap.size (.slice (some ⟨g,0,none⟩) (n0+k) c) (hpB r)):=by
      have:=ho.o;rw [e0] at this ⊢;exact this
     clear e0 ho;go_wp2;go_ret;exact⟨_,rfl,al.o,ac.o⟩
def Zbd (xs:List Nat) (w:World) (e:Ending) (w':World):Prop:=
  Bl w w'∧(decH xs=none→e=.returned (.tuple #[Zd1,.bool false])) ∧
    (∀r,decH xs=some r→r.fits∧∃a len cap,e=.returned (.tuple #[r.val (.slice a len cap),.bool true])∧Fs w' a len cap r.xs∧OwnsV 32 w' w.heap.size (.slice a len cap) (fVals r.xs))
theorem Zbd.no (hd:decH xs=none)(hb:Bl w w'):Zbd xs w (.returned (.tuple #[Zd1,.bool false])) w':=
 ⟨hb,fun _=>rfl,fun r h=>by rw [hd] at h;cases h⟩
theorem Zda:∀args w,(callFunc 62 args).run prog w=.ok (.enter 62 args) w:=Pl.qi func62
theorem ZrQ (w0 w:World)(p:Nat)(X:Rw)(a:Option Addr)(len cap:Nat)(pa:Option Addr)(pl pc:Nat)(xs:List Nat)(hW:Bl w0 w)
    {Q:Exit→Act→World→Prop}(ac:A.tmps.size=40)(ab:A.defers=[])(s0:A.tmps.getD 0 undef=.slice pa pl pc)(s4:A.tmps.getD 4 undef=.pointer (some ⟨p,0,none⟩))(s5:A.tmps.getD 5 undef=.bool false)
    (hend:∀(u:Nat→Value) w',Bl w0 w'→Q .normal ((Pl.pu A u [28,29,30,31,32,33,34,35,36]).put (some 37) (.bool true)) w') :
    Pl.rg prog 4 f93 Q A w:=by
  have aa:Bl w0 w.drew:=hW.drew;have hA:=Pl.At.same (v:=.bool false) (d:=5) (Pl.At.same (v:=.pointer (some ⟨p,0,none⟩)) (d:=4) (Pl.At.same (v:=.slice pa pl pc) (d:=0) (Pl.At.here ac ab) s0) s4) s5;refine Pl.qb (S:=fun w'=>Bl w0 w') hA aa ?_;rw [show (Pl.fd 4 f93).size=10 by kernel_rfl];refine Pl.q0 0 28 (.bool false) (Pl.q1) (Pl.q2 (.tmp 5)) aa ?_;refine Pl.q0 1 29 (.bool true) (Pl.q1) (Pl.qv 4 (.tmp 28) false) aa ?_;refine Pl.q0 2 30 (.bool true) (Pl.q1) (Pl.q2 (.tmp 29)) aa ?_;refine Pl.q5 3 31 (Pl.q7 2 30 false) aa ?_;refine Pl.q5 4 32 (Pl.q7 2 30 false) aa ?_;refine Pl.q5 5 33 (Pl.q7 2 30 false) aa ?_;refine Pl.q5 6 34 (Pl.q7 2 30 false) aa ?_;refine Pl.q5 7 35 (Pl.q7 2 30 false) aa ?_;refine Pl.q5 8 36 (Pl.q7 2 30 false) aa ?_;refine Pl.q0 9 37 (.bool true) (Pl.q1) (Pl.qp (.tmp 30) (.const (.bool true)) (.tmp 36)) aa ?_;refine Pl.q8 (fun A' hA'=>?_);exact Pl.en hA' hA [28,29,30,31,32,33,34,35,36,37] (hend hA'.fn _ aa)
theorem ZrR (w0 w:World)(p:Nat)(X:Rw)(a:Option Addr)(len cap:Nat)(hx:RwBlk w0 p X (.slice a len cap))(af:Fs w0 a len cap X.xs)(hf:X.fits)(pa:Option Addr)(pl pc:Nat)(xs:List Nat)(hc:Came w0 pa pl pc xs)(hm:X.may=true)(ag:¬(bstr (hpB X)).toList=(bstr xs).toList)(hW:Bl w0 w)
    {Q:Exit→Act→World→Prop}(ai:A.tmps.size=40)(ae:A.defers=[])(s0:A.tmps.getD 0 undef=.slice pa pl pc)(s4:A.tmps.getD 4 undef=.pointer (some ⟨p,0,none⟩))(s5:A.tmps.getD 5 undef=.bool true)
    (hend:∀(u:Nat→Value) w',Bl w0 w'→Q .normal ((Pl.pu A u [28,29,30,31,34,35,32,33,36]).put (some 37) (.bool true)) w') :
    Pl.rg prog 4 f93 Q A w:=by
  have aa:Bl w0 w.drew:=hW.drew;have hA:=Pl.At.same (v:=.bool true) (d:=5) (Pl.At.same (v:=.pointer (some ⟨p,0,none⟩)) (d:=4) (Pl.At.same (v:=.slice pa pl pc) (d:=0) (Pl.At.here ai ae) s0) s4) s5;refine Pl.qb (S:=fun w'=>Bl w0 w') hA aa ?_;rw [show (Pl.fd 4 f93).size=10 by kernel_rfl];refine Pl.q0 0 28 (.bool true) (Pl.q1) (Pl.q2 (.tmp 5)) aa ?_;refine Pl.q0 1 29 (.bool false) (Pl.q1) (Pl.qv 4 (.tmp 28) true) aa ?_;refine Pl.q0 2 30 (.bool false) (Pl.q1) (Pl.q2 (.tmp 29)) aa ?_;refine Pl.q0 3 31 (X.val (.slice a len cap)) (Pl.q3 2 30 false) (Pl.q4 39 (.tmp 4) (fun w' hS=>ZbU p X (.slice a len cap) ⟨_,_,_,rfl⟩ w' (hx.keep hS))) aa ?_;refine Pl.q0 6 34 (.slice pa pl pc) (Pl.q3 2 30 false) (Pl.q2 (.tmp 0)) aa ?_;refine Pl.q0 7 35 (.string (bstr xs)) (Pl.q3 2 30 false) (Pl.q_47 107 9 (.tmp 34) (.slice pa pl pc) (fun w' hS=>Zam pc (hc.bs.keep hS (Nat.le_refl _)))) aa ?_;refine Pl.qe 4 32 62 [(.tmp 31)] #[39] (Pl.q3 2 30 false) Zda (Calls.mono (Zbw X a len cap w.drew (af.keep aa (Nat.le_refl _)) hf hm) ?_);rintro e w1 ⟨v1,rfl,ah,ad⟩;have ab:Bl w0 w1:=Zac aa ad;obtain⟨ba,be,rfl,ac,_⟩:=ah.bs (ZbD hm);refine⟨.slice ba (hpB X).length be,rfl,ab,?_⟩;refine Pl.qf 5 33 (.string (bstr (hpB X))) w1 (Pl.q3 2 30 false) (Pl.q_48 107 9 (.tmp 32) (Zam be ac)) ab ?_;refine Pl.q0 8 36 (.bool true) (Pl.q3 2 30 false) (Pl.qc .neq 9 9 (.tmp 33) (.tmp 35) (.string (bstr (hpB X))) (.string (bstr xs)) (fun w=>by simp [go_sem,eqGuard,ag])) ab ?_;refine Pl.q0 9 37 (.bool true) (Pl.q1) (Pl.qk (.tmp 30) (.const (.bool true)) (.tmp 36)) ab ?_;refine Pl.q8 (fun A' hA'=>?_);exact Pl.en hA' hA [28,29,30,31,34,35,32,33,36,37] (hend hA'.fn _ ab)
theorem ZrS (w0 w:World)(p:Nat)(X:Rw)(a:Option Addr)(len cap:Nat)(hx:RwBlk w0 p X (.slice a len cap))(af:Fs w0 a len cap X.xs)(hf:X.fits)(pa:Option Addr)(pl pc:Nat)(xs:List Nat)(hc:Came w0 pa pl pc xs)(hm:X.may=true)(ah:hpB X=xs)(hW:Bl w0 w)
    {Q:Exit→Act→World→Prop}(ai:A.tmps.size=40)(ae:A.defers=[])(s0:A.tmps.getD 0 undef=.slice pa pl pc)(s4:A.tmps.getD 4 undef=.pointer (some ⟨p,0,none⟩))(s5:A.tmps.getD 5 undef=.bool true)
    (hend:∀(u:Nat→Value) w',Bl w0 w'→Q .normal ((Pl.pu A u [28,29,30,31,34,35,32,33,36]).put (some 37) (.bool false)) w') :
    Pl.rg prog 4 f93 Q A w:=by
  have aa:Bl w0 w.drew:=hW.drew;have hA:=Pl.At.same (v:=.bool true) (d:=5) (Pl.At.same (v:=.pointer (some ⟨p,0,none⟩)) (d:=4) (Pl.At.same (v:=.slice pa pl pc) (d:=0) (Pl.At.here ai ae) s0) s4) s5;refine Pl.qb (S:=fun w'=>Bl w0 w') hA aa ?_;rw [show (Pl.fd 4 f93).size=10 by kernel_rfl];refine Pl.q0 0 28 (.bool true) (Pl.q1) (Pl.q2 (.tmp 5)) aa ?_;refine Pl.q0 1 29 (.bool false) (Pl.q1) (Pl.qv 4 (.tmp 28) true) aa ?_;refine Pl.q0 2 30 (.bool false) (Pl.q1) (Pl.q2 (.tmp 29)) aa ?_;refine Pl.q0 3 31 (X.val (.slice a len cap)) (Pl.q3 2 30 false) (Pl.q4 39 (.tmp 4) (fun w' hS=>ZbU p X (.slice a len cap) ⟨_,_,_,rfl⟩ w' (hx.keep hS))) aa ?_;refine Pl.q0 6 34 (.slice pa pl pc) (Pl.q3 2 30 false) (Pl.q2 (.tmp 0)) aa ?_;refine Pl.q0 7 35 (.string (bstr xs)) (Pl.q3 2 30 false) (Pl.q_47 107 9 (.tmp 34) (.slice pa pl pc) (fun w' hS=>Zam pc (hc.bs.keep hS (Nat.le_refl _)))) aa ?_;refine Pl.qe 4 32 62 [(.tmp 31)] #[39] (Pl.q3 2 30 false) Zda (Calls.mono (Zbw X a len cap w.drew (af.keep aa (Nat.le_refl _)) hf hm) ?_);rintro e w1 ⟨v1,rfl,ag,ad⟩;have ab:Bl w0 w1:=Zac aa ad;obtain⟨ba,be,rfl,ac,_⟩:=ag.bs (ZbD hm);refine⟨.slice ba (hpB X).length be,rfl,ab,?_⟩;refine Pl.qf 5 33 (.string (bstr xs)) w1 (Pl.q3 2 30 false) (Pl.q_48 107 9 (.tmp 32) (by rw [← ah];exact Zam be ac)) ab ?_;refine Pl.q0 8 36 (.bool false) (Pl.q3 2 30 false) (Pl.qc .neq 9 9 (.tmp 33) (.tmp 35) (.string (bstr xs)) (.string (bstr xs)) (fun w=>by simp [go_sem,eqGuard])) ab ?_;refine Pl.q0 9 37 (.bool false) (Pl.q1) (Pl.qk (.tmp 30) (.const (.bool true)) (.tmp 36)) ab ?_;refine Pl.q8 (fun A' hA'=>?_);exact Pl.en hA' hA [28,29,30,31,34,35,32,33,36,37] (hend hA'.fn _ ab)
theorem ZlP {k:Nat}(h:k<n):(xs.take n).getD k 0=xs.getD k 0:=by
 simp only [List.getD,List.getElem?_take,if_pos h]
theorem Zha (h:xs.length≠52):decH xs=none:=by
 unfold decH;rw [if_neg (fun e=>h e.1)]
theorem Zhb (h:4<xs.getD 19 0):decH xs=none:=by
 unfold decH;rw [if_neg (fun e=>by have:=e.2;omega)]
theorem ZlH (h:decB (xs.take (20+8*xs.getD 19 0))=none):decH xs=none:=by
 unfold decH;split
 · rw [h]
 · rfl
theorem Zpn {r:Rw}(h:decB (xs.take (20+8*xs.getD 19 0))=some r)(hn:¬hpB r=xs):decH xs=none:=by
 unfold decH;split
 · rw [h];exact if_neg hn
 · rfl
theorem Zjt (h1:xs.length=52)(h4:xs.getD 19 0≤4){r:Rw}(h:decB (xs.take (20+8*xs.getD 19 0))=some r)(hn:hpB r=xs):decH xs=some r:=by
 unfold decH;rw [if_pos ⟨h1,h4⟩,h];exact if_pos hn
theorem ZnQ (a:Option Addr)(len cap:Nat)(xs:List Nat)(w:World)(h:Came w a len cap xs)(hl:len≠52) :
    Calls prog 93 #[.slice a len cap] w (Zbd xs w):=by
  have aa:∀(w:World) (a:Addr) (m:Mode) (x:Nat),(store a (.float .f64 x) m).run prog w=stored prog w a (.float .f64 x) m:=fun w a m x=>run_store prog w a _ m rfl;have HZ:=Zh (Zai w zeroR (.slice none 0 0));have HW:=Zh (Zab w (.cells #[.float .f64 0,.bool false,.slice none 0 0,.int .i64 0,.int .i64 0,.int .i64 0] 39));have HN:=Zh (Zha (xs:=xs) (by rw [h.bs.1];exact hl));(have i1:(len:Int)≠52:=by omega);clear h;go_enter func93,ntmps93;go_wp2;refine bodyPost_ret (Zbj rfl HZ.o _ _ rfl rfl ⟨_,_,_,rfl⟩) rfl ?_;exact Zbd.no HN.o HW.o
theorem ZlR (a:Option Addr)(cap:Nat)(xs:List Nat)(w:World)(h:Came w a 52 cap xs)(h4:4<xs.getD 19 0) :
    Calls prog 93 #[.slice a 52 cap] w (Zbd xs w):=by
  have aa:∀(w:World) (a:Addr) (m:Mode) (x:Nat),(store a (.float .f64 x) m).run prog w=stored prog w a (.float .f64 x) m:=fun w a m x=>run_store prog w a _ m rfl;have HZ:=Zh (Zai w zeroR (.slice none 0 0));have HW:=Zh (Zab w (.cells #[.float .f64 0,.bool false,.slice none 0 0,.int .i64 0,.int .i64 0,.int .i64 0] 39));have HN:=Zh (Zhb (xs:=xs) h4);obtain⟨b,off,rfl,c19⟩:=(h.bs.keep HW.o (Nat.le_refl _)).2.2 19 (by omega);generalize xs.getD 19 0=n at *;(have i2:(4:Int)<(n:Int):=by omega);clear h;go_enter func93,ntmps93;go_wp2;refine bodyPost_ret (Zbj rfl HZ.o _ _ rfl rfl ⟨_,_,_,rfl⟩) rfl ?_;exact Zbd.no HN.o HW.o
theorem ZlS (a:Option Addr)(cap:Nat)(xs:List Nat)(w:World)(h:Came w a 52 cap xs)(h4:xs.getD 19 0≤4) :
    Calls prog 93 #[.slice a 52 cap] w (Zbd xs w):=by
  have bn:∀(w:World) (a:Addr) (m:Mode) (x:Nat),(store a (.float .f64 x) m).run prog w=stored prog w a (.float .f64 x) m:=fun w a m x=>run_store prog w a _ m rfl;have HZ:=Zh (Zai w zeroR (.slice none 0 0));have HW:=Zh (Zab w (.cells #[.float .f64 0,.bool false,.slice none 0 0,.int .i64 0,.int .i64 0,.int .i64 0] 39));have bl:Hi (xs.length=52):=h.bs.1;have bi:=Zh h.bs.2.1;have HC:=Zh h;have ax:=Zh (ZlH (xs:=xs));have av:Hi (∀r,decB (xs.take (20+8*xs.getD 19 0))=some r→¬hpB r=xs→decH xs=none):=fun r=>Zpn;have aj:Hi (∀r,decB (xs.take (20+8*xs.getD 19 0))=some r→hpB r=xs→decH xs=some r):=fun r=>Zjt h.bs.1 h4;obtain⟨b,off,rfl,c19⟩:=(h.bs.keep HW.o (Nat.le_refl _)).2.2 19 (by omega);have HT:=Zh ((HC.o.keep HW.o (Nat.le_refl _)).top (k:=20+8*xs.getD 19 0) (by omega));(have HG:Hi ((xs.take (20+8*xs.getD 19 0)).getD 19 0≤4):=by show _≤_;rw [ZlP (by omega)];exact h4);generalize xs.getD 19 0=n at *;(have i2:¬(4:Int)<(n:Int):=by omega);(have az:fromA (some ⟨b,off,none⟩) cap 0=some ⟨b,off,none⟩:=by unfold fromA;have:=HC.o.le;rw [if_neg (by omega)];rfl);rw [az] at HT;have HD:=Zh (ZgH (some ⟨b,off,none⟩) (20+8*n) cap (xs.take (20+8*n)) _ HT.o (by omega) HG.o (by omega));have bk:52≤cap:=HC.o.le;have bo:∀w:World,(Instr.sliceAt 107 (.slice (some ⟨b,off,none⟩) 52 cap) none (some (.int .i64 (20+8*(n:Int)))) none).run prog w=.ok (.slice (some ⟨b,off,none⟩) (20+8*n) cap) w:=by
   intro w;have:=ZfZ (some ⟨b,off,none⟩) 52 cap (20+8*n) (by omega) w;rw [az,show ((20+8*n:Nat):Int)=20+8*(n:Int) by omega] at this;exact this
  (have bp:IntKind.i64.wrap (8*(n:Int))=8*(n:Int):=by rw [IntKind.wrap_i64];omega);(have bq:IntKind.i64.wrap (20+8*(n:Int))=20+8*(n:Int):=by rw [IntKind.wrap_i64];omega);(have br:IntKind.i64.wrap (n:Int)=(n:Int):=by rw [IntKind.wrap_i64];omega);clear h az HT HG;go_enter func93,ntmps93;go_wp2_with fail;refine HD.o.mono ?_;intro e w1 hr;have au:=Zh (Zac HW.o hr.1);have bf:=Zh (HZ.o.keep hr.1);have bc:=Zh (HC.o.keep au.o (Nat.le_refl _));cases hd:decB (xs.take (20+8*n)) with
  | none =>
   have HN:=Zh (ax.o hd);have bb:=hr.2.1 hd;subst bb;have bm:=Zh Znm;have af:=Zh (Zai w1 zeroR (.slice none 0 0));have ai:=Zh (Zc9 (w1.alloc (.cells #[.float .f64 zeroR.key,.bool zeroR.dead,.slice none 0 0,.int .i64 zeroR.wr,.int .i64 zeroR.cell,.int .i64 zeroR.no] 39)));have an:=Zh (Zab w1 (.cells #[.float .f64 zeroR.key,.bool zeroR.dead,.slice none 0 0,.int .i64 zeroR.wr,.int .i64 zeroR.cell,.int .i64 zeroR.no] 39));clear hr hd ax av aj HD c19;unfold Zd1;have ae:Hi (Bl w (w1.alloc (.cells #[.float .f64 zeroR.key,.bool zeroR.dead,.slice none 0 0,.int .i64 zeroR.wr,.int .i64 zeroR.cell,.int .i64 zeroR.no] 39))):=Zac au.o an.o;have ag:=Zh (bf.o.keep an.o);have ah:=Zh (bc.o.keep an.o (Nat.le_refl _));unfold zeroR at ae ag ah af ai an;simp only at ae ag ah af ai an;generalize aq:w1.alloc (.cells #[.float .f64 0,.bool false,.slice none 0 0,.int .i64 0,.int .i64 0,.int .i64 0] 39)=WX at ae ag ah af ai;have ay:=Zh aq;clear aq;go_wp2_with fail;rw [ay.o];refine Pl.q9 (ops:=Pl.fd 4 f93) ?_;refine ZrQ WX WX w1.heap.size zeroR none 0 0 (some ⟨b,off,none⟩) 52 cap xs (Below.refl _ _) (by rfl) (by rfl) (by rfl) (by rfl) (by rfl) ?_;intro u2 w4 ab;simp only [Pl.pu,List.foldl,Act.put,List.setIfInBounds_toArray,List.set];have ao:=Zh (Zac ae.o ab);have aa:=Zh (ag.o.keep ab);have z0:=aa.o.c0;have z1:=aa.o.c1;have z2:=aa.o.c2;have z3:=aa.o.c3;have z4:=aa.o.c4;have z5:=aa.o.c5;have f0:=aa.o.fz;clear ab;go_wp2_with fail;show bodyPost prog f93 _ Exit.ret _ (setRw w4 w.heap.size zeroR (.slice none 0 0));refine Zcb rfl aa.o zeroR (.slice none 0 0) (.bool false) ⟨_,_,_,rfl⟩ (by rfl) (by rfl) (by rfl) ?_;exact Zbd.no HN.o (Zal ao.o (Nat.le_refl _) _ _)
  | some r =>
   obtain⟨bh,ra,rl,rc,bb,ba,ar⟩:=hr.2.2 r hd;subst bb;have ac:=Zeu hd;have aw:=Zh (av.o r hd);have ap:=Zh (aj.o r hd);have ad:=Zh bh;have al:=Zab w1 (.cells #[.float .f64 r.key,.bool r.dead,.slice ra rl rc,.int .i64 r.wr,.int .i64 r.cell,.int .i64 r.no] 39);have ae:=Zh (Zac au.o al);have ag:=Zh (bf.o.keep al);have ah:=Zh (bc.o.keep al (Nat.le_refl _));have af:=Zh (Zai w1 r (.slice ra rl rc));have ai:=Zh (ba.keep al (Nat.le_refl _));have be:=Zh ((ar.lower (b':=w.heap.size) HW.o.size).keep al (Nat.le_refl _));have bj:Hi (rl=r.xs.length):=(ba.len).symm;have bt:=(Rw.may_parts ac).2.1;unfold Rw.val;generalize aq:w1.alloc (.cells #[.float .f64 r.key,.bool r.dead,.slice ra rl rc,.int .i64 r.wr,.int .i64 r.cell,.int .i64 r.no] 39)=WX at ae ag ah af ai be;have ay:=Zh aq;clear aq hr hd ax av aj HD c19 bh ba ar al;go_wp2_with fail;rw [ay.o];refine Pl.q9 (ops:=Pl.fd 4 f93) ?_;by_cases am:hpB r=xs
   · have HY:=Zh (ap.o am);refine ZrS WX WX w1.heap.size r ra rl rc af.o ai.o ad.o (some ⟨b,off,none⟩) 52 cap xs ah.o ac am (Below.refl _ _) (by rfl) (by rfl) (by rfl) (by rfl) (by rfl) ?_;intro u2 w4 ab;simp only [Pl.pu,List.foldl,Act.put,List.setIfInBounds_toArray,List.set];have ao:=Zh (Zac ae.o ab);have aa:=Zh (ag.o.keep ab);have ak:=Zh (af.o.keep ab);have bd:=Zh (be.o.keep ab (Nat.le_refl _));have z0:=aa.o.c0;have z1:=aa.o.c1;have z2:=aa.o.c2;have z3:=aa.o.c3;have z4:=aa.o.c4;have z5:=aa.o.c5;have f0:=aa.o.fz;simp only [zeroR] at z0 z1 z3 z4 z5;have x0:=ak.o.c0;have x1:=ak.o.c1;have x2:=ak.o.c2;have x3:=ak.o.c3;have x4:=ak.o.c4;have x5:=ak.o.c5;clear ab am ac;go_wp2_with fail;show bodyPost prog f93 _ Exit.ret _ (setRw w4 w.heap.size r (.slice ra rl rc));refine Zcb rfl aa.o r (.slice ra rl rc) (.bool true) ⟨_,_,_,rfl⟩ (by rfl) (by rfl) (by rfl) ?_;refine⟨Zal ao.o (Nat.le_refl _) _ _,(fun h=>by rw [HY.o] at h;cases h),fun q h=>?_⟩;rw [HY.o] at h;simp only [Option.some.injEq] at h;subst h;exact⟨ad.o,ra,rl,rc,rfl,(bd.o.setRw aa.o _ _).fsAt ad.o.xs (by omega),bd.o.setRw aa.o _ _⟩
   · have HN:=Zh (aw.o am);have bg:¬(bstr (hpB r)).toList=(bstr xs).toList:=beq_eq_false_iff_ne.1 (ZhY (ZbD ac) bi.o am);refine ZrR WX WX w1.heap.size r ra rl rc af.o ai.o ad.o (some ⟨b,off,none⟩) 52 cap xs ah.o ac bg (Below.refl _ _) (by rfl) (by rfl) (by rfl) (by rfl) (by rfl) ?_;intro u2 w4 ab;simp only [Pl.pu,List.foldl,Act.put,List.setIfInBounds_toArray,List.set];clear am bg ac;have ao:=Zh (Zac ae.o ab);have aa:=Zh (ag.o.keep ab);have z0:=aa.o.c0;have z1:=aa.o.c1;have z2:=aa.o.c2;have z3:=aa.o.c3;have z4:=aa.o.c4;have z5:=aa.o.c5;have f0:=aa.o.fz;simp only [zeroR] at z0 z1 z3 z4 z5;clear ab;go_wp2_with fail;show bodyPost prog f93 _ Exit.ret _ (setRw w4 w.heap.size zeroR (.slice none 0 0));refine Zcb rfl aa.o zeroR (.slice none 0 0) (.bool false) ⟨_,_,_,rfl⟩ (by rfl) (by rfl) (by rfl) ?_;exact Zbd.no HN.o (Zal ao.o (Nat.le_refl _) _ _)
theorem ZnP (a:Option Addr)(len cap:Nat)(xs:List Nat)(w:World)(h:Came w a len cap xs) :
    Calls prog 93 #[.slice a len cap] w (Zbd xs w):=by
  by_cases hl:len=52
  · subst hl;rcases Nat.lt_or_ge 4 (xs.getD 19 0) with h4 | h4
    · exact ZlR a cap xs w h h4
    · exact ZlS a cap xs w h h4
  · exact ZnQ a len cap xs w h hl
structure Lb where
  u:Sl
  v:Sl
  t:List Int
  l:List Sb
def Lb.zero:Lb:=⟨Sl.nil,Sl.nil,[],[]⟩
def Lb.lf (x:Lb):Lf:=⟨x.t,bss x.l⟩
def lfs (L:List Lb):List Lf:=L.map Lb.lf
theorem Zbh (L:List Lb):(lfs L).length=L.length:=by simp [lfs]
theorem ZfH (L:List Lb)(i:Nat):lf (lfs L) i=(L.getD i Lb.zero).lf:=by
 unfold lf lfs;by_cases h:i<L.length
 · simp [List.getD,h]
 · have h':L.length≤i:=Nat.le_of_not_lt h;simp [List.getD,h',Lb.zero,Lb.lf,Lf.zero,bss]
theorem ZpE (L:List Lb)(i:Nat)(x:Lb):lfs (L.set i x)=(lfs L).set i x.lf:=by simp [lfs,List.map_set]
structure Gl (D:Nat→Prop) (w:World) (s:Sl) (L:List Lb):Prop where
  len:L.length=s.len
  nil:s.a=none→s.cap=0
  le:s.len≤s.cap
  big:s.len≤900
  home:∀ad,s.a=some ad→0<s.len→D ad.block
  cell:∀i,i<s.len→∃b off,s.a=some ⟨b,off,none⟩∧w.cell? ⟨b,off+i*2,none⟩=some (L.getD i Lb.zero).u.val∧w.cell? ⟨b,off+i*2+1,none⟩=some (L.getD i Lb.zero).v.val
  it:∀x∈L,Gi D w x.u x.t∧Gb D w x.v x.l
theorem Zhm {L:List Lb}(h:i<L.length):L.getD i Lb.zero∈L:=by simp [List.getD,h]
theorem Gl.keep {D:Nat→Prop}{L:List Lb}(h:Gl D w s L)(hk:Kept D w w'):Gl D w' s L:=by
 refine⟨h.len,h.nil,h.le,h.big,h.home,fun i hi=>?_,fun x hx=>⟨(h.it x hx).1.keep hk,(h.it x hx).2.keep hk⟩⟩;obtain⟨b,off,ha,c0,c1⟩:=h.cell i hi;have hD:=h.home _ ha (by omega);exact⟨b,off,ha,hk.cell c0 hD,hk.cell c1 hD⟩
theorem Gl.below {D:Nat→Prop}{B:Nat}{L:List Lb}(h:Gl D w s L)(hb:Below B w w')(hB:w.heap.size≤B):Gl D w' s L:=h.keep (Kept.all hb hB)
theorem Gl.wide {D E:Nat→Prop}{L:List Lb}(h:Gl D w s L)(hE:∀k,D k→E k):Gl E w s L:=
 ⟨h.len,h.nil,h.le,h.big,fun ad ha hl=>hE _ (h.home ad ha hl),h.cell,fun x hx=>⟨(h.it x hx).1.wide hE,(h.it x hx).2.wide hE⟩⟩
theorem Gl.at {D:Nat→Prop}{L:List Lb}(h:Gl D w s L)(hi:i<s.len):Gi D w (L.getD i Lb.zero).u (L.getD i Lb.zero).t∧Gb D w (L.getD i Lb.zero).v (L.getD i Lb.zero).l:=
 h.it _ (Zhm (by rw [h.len];exact hi))
theorem Zde (b o len cap k:Nat)(hk:k<len)(w:World):(Instr.indexAt 26 (.slice (some ⟨b,o,none⟩) len cap) (.int .i64 (k:Nat))).run prog w=.ok (.pointer (some ⟨b,o+k*2,none⟩)) w:=by
 (have aa:prog.underlying 26=some (.slice (prog.elem 26)):=by kernel_rfl);(have h1:(0:Int)≤(k:Int):=by omega);simp [go_sem,Instr.indexAt,run_underlying aa,h1,Addr.add_lit];omega
theorem ZdI {u v:Sl}(c0:w.cell? ⟨b,o,none⟩=some u.val)(c1:w.cell? ⟨b,o+1,none⟩=some v.val):(Instr.loadAt 101 (.pointer (some ⟨b,o,none⟩))).run prog w=.ok (lfV u v) w:=by
 unfold Sl.val at c0 c1;simp [go_sem,c0,c1,lfV,Sl.val]
structure ColF (w:World) (x:Rx):Prop where
  fs:Fs w x.a x.n x.c x.r.xs
  home:∀b off,x.a=some ⟨b,off,none⟩→0<x.n→∃C fr,w.heap[b]? = some (Obj.cells C 32 fr)
theorem ColF.colR {x:Rx}(h:ColF w x)(w0:World):ColR w0 w x:=⟨h.fs,fun b off ha hn=>.inr (h.home b off ha hn)⟩
theorem ColF.frm {F:Nat→Prop}{W:World}{x:Rx}(h:ColF w x)(f:Frm F w W)(hF:∀k,F k→∀C fr,w.heap[k]? ≠ some (Obj.cells C 32 fr)):ColF W x:=by
 have aa:∀b off,x.a=some ⟨b,off,none⟩→0<x.n→W.heap[b]? = w.heap[b]?:=by
  intro b off ha hn;obtain⟨C,fr,hk⟩:=h.home b off ha hn;exact f.block b (Array.getElem?_eq_some_iff.1 hk).1 (fun e=>hF b e C fr hk)
 refine⟨h.fs.same aa,fun b off ha hn=>?_⟩;obtain⟨C,fr,hk⟩:=h.home b off ha hn;exact⟨C,fr,(aa b off ha hn).trans hk⟩
theorem ColF.keep {W:World}{x:Rx}(h:ColF w x)(hb:Bl w W):ColF W x:=h.frm (F:=fun _=>False) (Frm.ofBelow hb) (fun _ h=>h.elim)
theorem ColF.owns {base:Nat}{u:Rw}{a:Option Addr}{c:Nat}(h:OwnsV 32 w base (.slice a n c) (fVals u.xs))(hf:Fs w a n c u.xs):ColF w ⟨u,a,n,c⟩:=by
 refine⟨hf,fun b off ha hn=>?_⟩;rcases h.2 with ⟨hv,h0⟩ | ⟨g,cp,cur,hv,_,hg,_⟩
 · simp only [Value.slice.injEq] at hv;simp only at ha;rw [hv.1] at ha;cases ha
 · simp only [Value.slice.injEq] at hv;simp only at ha;rw [hv.1] at ha;cases ha;exact⟨_,_,hg⟩
structure AllI (w0 w:World) (s4 s5:Sl) (R:List Rx) (B:List Bt):Prop where
  rows:Rq w0 w s4 R
  bts:ZcC w s5 B
  new:∀k,s5.blk=some k→w0.heap.size≤k
  below:Bl w0 w
  flt:∀x∈R,ColF w x
theorem AllI.start (w:World):AllI w ((w.alloc (.cells #[] 39)).alloc (.cells #[] 67)) ⟨some ⟨w.heap.size,0,none⟩,0,0⟩ ⟨some ⟨(w.alloc (.cells #[] 39)).heap.size,0,none⟩,0,0⟩ [] []:=by
 have h1:=Zab w (.cells #[] 39);have h2:=Zab (w.alloc (.cells #[] 39)) (.cells #[] 67);refine⟨(Rq.new0 w w (Below.refl _ _)).keep h2,ZcC.new0 _,fun k hk=>?_,Zac h1 h2,fun x hx=>by cases hx⟩;have e:some (w.alloc (.cells #[] 39)).heap.size=some k:=hk;cases e;exact h1.size
theorem AllI.keep (h:AllI w0 w s4 s5 R B)(hb:Bl w w'):AllI w0 w' s4 s5 R B:=
 ⟨h.rows.keep hb,Own.frame h.bts (fun k hk=>hb.block k (Own.lt h.bts hk)),h.new,Zac h.below hb,fun x hx=>(h.flt x hx).keep hb⟩
theorem AllI.row (h:AllI w0 w s4 s5 R B)(x:Rx)(hx:ColF w x)(hf:x.r.fits)(hl:R.length+1≤1000000) :
    ∃s' W,(∀ty,(Builtin.append_ #[49,49] ty #[s4.val,.slice (some ⟨w.heap.size,0,none⟩) 1 1]).run prog (w.alloc (.cells #[.float .f64 x.r.key,.bool x.r.dead,.slice x.a x.n x.c,.int .i64 x.r.wr,.int .i64 x.r.cell,.int .i64 x.r.no] 39))=.ok s'.val W)∧AllI w0 W s' s5 (R ++ [x]) B:=by
  obtain⟨s',W,ac,hq,ab⟩:=h.rows.one x (hx.colR w0) hf hl;have hF:∀k,s4.blk=some k→∀C fr,w.heap[k]? ≠ some (Obj.cells C 32 fr):=by
   intro k hk C fr hc;obtain⟨cur,aa⟩:=h.rows.own.kind hk;rw [hc] at aa;simp only [Option.some.injEq,Obj.cells.injEq] at aa;exact absurd aa.2.1 (by decide)
  refine⟨s',W,ac,hq,Own.frame h.bts (fun k hk=>ab.block k (Own.lt h.bts hk) (fun e=>Own.apart h.rows.own h.bts (by decide) k e hk)),h.new,hq.below,fun y hy=>?_⟩;rcases List.mem_append.1 hy with hy | hy
  · exact(h.flt y hy).frm ab hF
  · rw [List.mem_singleton.1 hy];exact hx.frm ab hF
theorem AllI.bt (h:AllI w0 w s4 s5 R B)(x:Bt)(hl:B.length+1≤1000000) :
    ∃s' W,(∀ty,(Builtin.append_ #[84,84] ty #[s5.val,.slice (some ⟨w.heap.size,0,none⟩) 1 1]).run prog (w.alloc (.cells #[.int .i64 x.1,.int .i64 x.2] 67))=.ok s'.val W)∧AllI w0 W s4 s' R (B ++ [x]):=by
  obtain⟨s',W,ac,ho,ab,ad⟩:=ZcC.one h.bts x hl;have hb:Bl w0 W:=h.below.trans (ab.below h.below.size (fun k e=>h.new k e));have hF:∀k,s5.blk=some k→∀C fr,w.heap[k]? ≠ some (Obj.cells C 32 fr):=by
   intro k hk C fr hc;obtain⟨cur,aa⟩:=Own.kind h.bts hk;rw [hc] at aa;simp only [Option.some.injEq,Obj.cells.injEq] at aa;exact absurd aa.2.1 (by decide)
  refine⟨s',W,ac,⟨Own.frame h.rows.own (fun k hk=>ab.block k (h.rows.own.lt hk) (fun e=>Own.apart h.rows.own h.bts (by decide) k hk e)),h.rows.new,hb,fun y hy=>((h.flt y hy).frm ab hF).colR w0,h.rows.fits⟩,ho,fun k hk=>?_,hb,fun y hy=>(h.flt y hy).frm ab hF⟩;rcases ad with e | e
  · exact h.new k (by rw [← e];exact hk)
  · exact Nat.le_trans h.below.size (e k hk)
def hrsR (l:List Hr):List Rw:=l.map Hr.r
def hrsB (l:List Hr):List Bt:=l.map fun h=>((h.i:Int),(h.k:Int))
structure Zbe (w w':World) (s4 s5:Sl) (R:List Rx) (l:List Hr):Prop where
  i:AllI w w' s4 s5 R (hrsB l)
  r:rws R=hrsR l
def Zph (w:World) (l:List Hr) (e:Ending) (w':World):Prop:=∃(s4 s5:Sl) (R:List Rx),e=.returned (.tuple #[.slice s4.a s4.len s4.cap,.slice s5.a s5.len s5.cap])∧Zbe w w' s4 s5 R l
theorem Zdu (i:Nat):∀(s:List (List Nat))(k:Nat),(rowsS i s k).length≤s.length
 | [],_=>by simp [rowsS]
 | x :: s,k=>by
  have:=Zdu i s (k+1)
  simp only [rowsS,List.length_append,List.length_cons]
  cases decH x <;> simp only [List.length_nil,List.length_cons] <;> omega
theorem Ze2:∀(l:List Lf)(i:Nat),(∀f∈l,f.slots.length≤1000)→(rowsH l i).length≤l.length*1000
 | [],_,_=>by simp [rowsH]
 | f :: l,i,h=>by
  have h1:=Ze2 l (i+1) (fun g hg=>h g (List.mem_cons_of_mem _ hg))
  have h2:=Zdu i f.slots 0
  have h3:=h f (List.mem_cons_self ..)
  simp only [rowsH,List.length_append,List.length_cons]
  omega
theorem Gl.few {D:Nat→Prop}{L:List Lb}(h:Gl D w s L)(i k:Nat)(hi:i≤s.len):(rowsH ((lfs L).take i) 0 ++ rowsS i ((L.getD i Lb.zero).lf.slots.take k) 0).length≤901000:=by
 have hs:∀f∈lfs L,f.slots.length≤1000:=by
  intro f hf;obtain⟨x,hx,rfl⟩:=List.mem_map.1 hf;have:=(h.it x hx).2;show (bss x.l).length≤1000;rw [Zaj,this.len];exact this.big
 have h1:=Ze2 ((lfs L).take i) 0 (fun f hf=>hs f (List.mem_of_mem_take hf));have h2:=Zdu i ((L.getD i Lb.zero).lf.slots.take k) 0;have h3:(L.getD i Lb.zero).lf.slots.length≤1000:=by
  rw [← ZfH];rcases Nat.lt_or_ge i (lfs L).length with ab | aa
  · exact hs _ (ZcA ab)
  · (have e:lf (lfs L) i=Lf.zero:=by simp [lf,List.getD,List.getElem?_eq_none aa]);rw [e];exact Nat.zero_le _
 have h4:=h.big;rw [List.length_append];rw [List.length_take] at h1 h2;have h5:min i (lfs L).length*1000≤900*1000:=Nat.mul_le_mul_right _ (by omega);omega
theorem ZgG {D:Nat→Prop}(w:World)(s:Sl)(L:List Lb)(h:Gl D w s L) :
    Calls prog 46 #[s.val] w (Zph w (allH (lfs L))):=by
  obtain⟨a,len,cap⟩:=s;have cc:∀(w:World) (a:Addr) (m:Mode) (x:Nat),(store a (.float .f64 x) m).run prog w=stored prog w a (.float .f64 x) m:=fun w a m x=>run_store prog w a _ m rfl;have HS:=Zh (AllI.start w);have H:=Zh h;have bu:len≤900:=h.big;have HL:Hi (L.length=len):=h.len;clear h;rw [Zae] at HS;unfold Sl.val;simp only;go_enter func46,ntmps46;go_wp2_with fail;generalize (w.alloc (.cells #[] 39)).alloc (.cells #[] 67)=W0 at *;go_loopw [4,5,6] (fun v4 v5 iv wr=>∃(i:Nat) (s4 s5:Sl) (R:List Rx),i≤len∧iv=.int .i64 (i:Nat)∧v4=.slice s4.a s4.len s4.cap∧v5=.slice s5.a s5.len s5.cap∧Hi (Zbe w wr s4 s5 R (rowsH ((lfs L).take i) 0))) (fun _ _ iv _=>len-(intOf iv).toNat)
  case atStart=>exact ⟨0,_,_,[],Nat.zero_le _,rfl,rfl,rfl,⟨HS.o,rfl⟩⟩
  case round =>
   obtain⟨i,s4,s5,R,hi,rfl,rfl,rfl,hI⟩:=hrel;rcases Nat.lt_or_ge i len with bi | ca
   · (have j1:(i:Int)<(len:Int):=by omega);have al:=H.o;have af:i<(Sl.mk a len cap).len:=bi;obtain⟨b,off,ha,c0,c1⟩:=al.cell i af;replace ha:a=some ⟨b,off,none⟩:=ha;subst ha;have ba:=Zh (al.few i · (Nat.le_of_lt af));have ah:=(al.at af).2;obtain⟨x,hx⟩:∃x,x=L.getD i Lb.zero:=⟨_,rfl⟩;rw [← hx] at c1 ah ba;have bz:=Zh hx;obtain⟨xu,⟨va,vn,vc⟩,xt,xl⟩:=x;have bl:xl.length=vn:=ah.len;have cd:vn≤1000:=ah.big;have bn:Hi (Gb D w ⟨va,vn,vc⟩ xl):=ah;(have HF:Hi ((Lb.mk xu ⟨va,vn,vc⟩ xt xl).lf=lf (lfs L) i):=by show _=_;rw [ZfH,hx]);(have bb:Hi ((lf (lfs L) i).slots=bss xl):=by show _=_;rw [← HF.o];rfl);(have bc:Hi ((bss xl).length=vn):=by show _=_;rw [Zaj];exact bl);have ao:Hi (Zbe w wr s4 s5 R (rowsH ((lfs L).take i) 0 ++ rowsS i ((bss xl).take 0) 0)):=by
      show Zbe _ _ _ _ _ _;rw [List.take_zero];unfold rowsS;rw [List.append_nil];exact hI.o
     unfold Sl.val at c1;simp only at c1;have bm:=Zh c1;have am:=Zh (World.block_lt_of_cell? _ _ c1);clear al ah hx hI c0 bl;go_wp2_with fail;go_loopw [4,5,7] (fun v4 v5 kv wr2=>∃(k:Nat) (s4 s5:Sl) (R:List Rx),k≤vn∧kv=.int .i64 (k:Nat)∧v4=.slice s4.a s4.len s4.cap∧v5=.slice s5.a s5.len s5.cap∧Hi (Zbe w wr2 s4 s5 R (rowsH ((lfs L).take i) 0 ++ rowsS i ((bss xl).take k) 0))) (fun _ _ kv _=>vn-(intOf kv).toNat)
     case atStart=>exact ⟨0,s4,s5,R,Nat.zero_le _,rfl,rfl,rfl,ao⟩
     case round =>
      rename World=>wr2;obtain⟨k,s4,s5,R,hk,rfl,rfl,rfl,ag⟩:=hrel;have bf:=Zh ag.o.i.below;have d1:wr2.cell? ⟨b,off+i*2+1,none⟩=some (.slice va vn vc):=(bf.o.cell (am.o)).trans bm.o;rcases Nat.lt_or_ge k vn with bh | cb
      · (have j2:(k:Int)<(vn:Int):=by omega);have aw:=bn.o.below bf.o (Nat.le_refl _);have ai:k<(Sl.mk va vn vc).len:=bh;obtain⟨vb,vo,az,e0⟩:=aw.cell k ai;replace az:va=some ⟨vb,vo,none⟩:=az;subst az;have av:=(aw.at ai).1;obtain⟨⟨sa,sn,sc⟩,bj⟩:∃s,s=(xl.getD k Sb.zero).s:=⟨_,rfl⟩;rw [← bj] at e0 av;have hD:=Zh (ZnP sa sn sc (sl (bss xl) k) wr2 av.came);unfold Sl.val at e0;simp only at e0;have ae:=ba.o k;rw [HF.o,bb.o] at ae;have bk:=ZfV (i:=i) (s:=bss xl) (k:=k) (by rw [bc.o];exact bh);have aa:=Zh bk;have an:=Zh ae;have ak:=Zh ag.o;clear aw av bj bk ae ag ao;go_wp2_with fail;refine hD.o.mono ?_;intro e w3 ht;have ad:Hi (Zbe w w3 s4 s5 R (rowsH ((lfs L).take i) 0 ++ rowsS i ((bss xl).take k) 0)):=⟨ak.o.i.keep ht.1,ak.o.r⟩;cases hd:decH (sl (bss xl) k) with
        | none =>
         have ax:=ht.2.1 hd;subst ax;rw [hd] at aa;simp only [List.append_nil] at aa;have hA:=Zab w3 (.cells #[.float .f64 0,.bool false,.slice none 0 0,.int .i64 0,.int .i64 0,.int .i64 0] 39);have bo:Hi (Zbe w (w3.alloc (.cells #[.float .f64 0,.bool false,.slice none 0 0,.int .i64 0,.int .i64 0,.int .i64 0] 39)) s4 s5 R (rowsH ((lfs L).take i) 0 ++ rowsS i ((bss xl).take (k+1)) 0)):=by
          show Zbe _ _ _ _ _ _;rw [aa.o];exact⟨ad.o.i.keep hA,ad.o.r⟩
         clear ht hd hD ak ad hA d1 e0;unfold Zd1;go_wp2;go_roundw;exact ⟨k+1,s4,s5,R,by omega,by go_num,rfl,rfl,bo⟩;simp only [intOf];omega
        | some r =>
         obtain⟨bw,ra,rl,rc,ax,bg,aj⟩:=ht.2.2 r hd;subst ax;rw [hd] at aa;simp only at aa;have hA:=Zab w3 (.cells #[.float .f64 r.key,.bool r.dead,.slice ra rl rc,.int .i64 r.wr,.int .i64 r.cell,.int .i64 r.no] 39);have hX:=Zai w3 r (.slice ra rl rc);have ar:=ad.o.i.keep hA;have au:ColF (w3.alloc (.cells #[.float .f64 r.key,.bool r.dead,.slice ra rl rc,.int .i64 r.wr,.int .i64 r.cell,.int .i64 r.no] 39)) ⟨r,ra,rl,rc⟩:=(ColF.owns aj bg).keep hA;unfold Rw.val;have ay:=Zcq r.key r.dead ra rl rc r.wr r.cell r.no w3;generalize bs:w3.alloc (.cells #[.float .f64 r.key,.bool r.dead,.slice ra rl rc,.int .i64 r.wr,.int .i64 r.cell,.int .i64 r.no] 39)=W4 at hX ar au ay;have br:R.length=(rowsH ((lfs L).take i) 0 ++ rowsS i ((bss xl).take k) 0).length:=by
          have:=congrArg List.length ad.o.r;rw [ZaR] at this;rw [this];simp [hrsR]
         have bv:=an.o;obtain⟨s4',W5,ab,bd⟩:=ar.row ⟨r,ra,rl,rc⟩ au bw (by omega);obtain⟨s5',W6,ac,be⟩:=bd.bt ((i:Int),(k:Int)) (by simp only [hrsB,List.length_map];omega);have ap:=Zh ab;have aq:=Zh ac;have x0:=hX.c0;have x1:=hX.c1;have x2:=hX.c2;have x3:=hX.c3;have x4:=hX.c4;have x5:=hX.c5;have bp:Hi (Zbe w W6 s4' s5' (R ++ [⟨r,ra,rl,rc⟩]) (rowsH ((lfs L).take i) 0 ++ rowsS i ((bss xl).take (k+1)) 0)):=by
          show Zbe _ _ _ _ _ _;rw [aa.o,← List.append_assoc];refine⟨?_,?_⟩
          · simpa [hrsB] using be
          · have:=ad.o.r;simp only [rws,hrsR,List.map_append] at this ⊢;rw [this];rfl
         have bx:=Zh hX;clear ht hd hD ak ad hA d1 e0 hX ar au ab bd ac be br bv bg aj aa;unfold Sl.val at ap aq;simp only at ap aq;have bq:=Zh ay;clear bs ay;go_wp2_with (first | refine Zad _ rfl rfl 39 (.tmp 8) (.tmp 38) rfl (.pointer (some ⟨w3.heap.size,0,none⟩)) (.agg #[.float .f64 r.key,.bool r.dead,.slice ra rl rc,.int .i64 r.wr,.int .i64 r.cell,.int .i64 r.no]) rfl rfl W4 bq.o ?_ | (at_builtin;first | refine Zaq _ rfl 49 (.tmp 41) (.tmp 43) rfl (.slice s4.a s4.len s4.cap) (.slice (some ⟨W4.heap.size,0,none⟩) 1 1) (.slice s4'.a s4'.len s4'.cap) rfl rfl W5 ap.o ?_ | refine Zaq _ rfl 84 (.tmp 45) (.tmp 49) rfl (.slice s5.a s5.len s5.cap) (.slice (some ⟨W5.heap.size,0,none⟩) 1 1) (.slice s5'.a s5'.len s5'.cap) rfl rfl W6 aq.o ?_));go_roundw;exact ⟨k+1,s4',s5',_,by omega,by go_num,rfl,rfl,bp⟩;simp only [intOf];omega
      · (have j2:¬(k:Int)<(vn:Int):=by omega);(have e0:k=vn:=by omega);have HN:Hi (Zbe w wr2 s4 s5 R (rowsH ((lfs L).take (i+1)) 0)):=by
         have:=ag.o;rw [e0,List.take_of_length_le (l:=bss xl) (by rw [bc.o];exact Nat.le_refl _),← bb.o] at this;show Zbe _ _ _ _ _ _;rw [ZfT (by rw [Zbh,HL.o];exact bi)];exact this
        clear ag ao e0;go_wp2;go_roundw;exact ⟨i+1,s4,s5,R,by omega,by go_num,rfl,rfl,HN⟩;simp only [intOf];omega
   · (have j1:¬(i:Int)<(len:Int):=by omega);(have e0:i=len:=by omega);have HT:Hi (Zbe w wr s4 s5 R (allH (lfs L))):=by
      have:=hI.o;rw [e0,List.take_of_length_le (by rw [Zbh,HL.o];exact Nat.le_refl _)] at this;exact this
     clear hI e0;go_wp2;go_ret2;exact⟨s4,s5,R,rfl,HT.o⟩
theorem ZnK (p o:Nat)(w:World):(Instr.fieldAt 39 (.pointer (some ⟨p,o,none⟩)) 0).run prog w=.ok (.pointer (some ⟨p,o,none⟩)) w:=by simp [go_sem,Instr.fieldAt]
theorem Zdk {x:Nat}(h:w.cell? ⟨b,o,none⟩=some (.float .f64 x)):(Instr.loadAt 32 (.pointer (some ⟨b,o,none⟩))).run prog w=.ok (.float .f64 x) w:=Za7 b o x w h
theorem Zji {a:Nat}{m:Bool}(h:(Fl.key a == Fl.key b)=m)(ha:a<18446744073709551616)(hb:b<18446744073709551616)(w:World):Calls prog 23 #[.float .f64 a,.float .f64 b] w fun e w'=>e=.returned (.bool m)∧Bl w w':=by
 refine(Zeg a b ha hb w).mono ?_;rintro e w' ⟨rfl,hw⟩;obtain rfl:=hw.symm;exact⟨by rw [h],Below.refl _ _⟩
theorem ZnV (b o len cap k:Nat)(hk:k<len)(w:World):(Instr.indexAt 84 (.slice (some ⟨b,o,none⟩) len cap) (.int .i64 (k:Nat))).run prog w=.ok (.pointer (some ⟨b,o+k*2,none⟩)) w:=by
 (have aa:prog.underlying 84=some (.slice (prog.elem 84)):=by kernel_rfl);(have h1:(0:Int)≤(k:Int):=by omega);simp [go_sem,Instr.indexAt,run_underlying aa,h1,Addr.add_lit];omega
theorem Zmo (c0:w.cell? ⟨b,o,none⟩=some (.int .i64 x.1))(c1:w.cell? ⟨b,o+1,none⟩=some (.int .i64 x.2)):(Instr.loadAt 67 (.pointer (some ⟨b,o,none⟩))).run prog w=.ok (btV x) w:=by
 simp [go_sem,c0,c1,btV]
def BtBlk (w:World) (p:Nat) (x:Bt):Prop:=w.heap[p]? = some (Obj.cells #[.int .i64 x.1,.int .i64 x.2] 67 (0,0))
theorem BtBlk.lt (h:BtBlk w p x):p<w.heap.size:=(Array.getElem?_eq_some_iff.1 h).1
theorem BtBlk.keep (h:BtBlk w p x)(hb:Bl w w'):BtBlk w' p x:=(hb.block p h.lt).trans h
theorem BtBlk.c0 (h:BtBlk w p x):w.cell? ⟨p,0,none⟩=some (.int .i64 x.1):=by unfold BtBlk at h;rw [cell_of_row _ _ _ _ _ _ h];rfl
theorem BtBlk.c1 (h:BtBlk w p x):w.cell? ⟨p,1,none⟩=some (.int .i64 x.2):=by unfold BtBlk at h;rw [cell_of_row _ _ _ _ _ _ h];rfl
theorem BtBlk.fz (h:BtBlk w p x)(o:Nat):w.frozen? ⟨p,o,none⟩=false:=frozen_of_row w p _ _ _ h
theorem Zbv (w:World)(x:Bt):BtBlk (w.alloc (.cells #[.int .i64 x.1,.int .i64 x.2] 67)) w.heap.size x:=heap_alloc_new w _
theorem Zju:∀args w,(callFunc 23 args).run prog w=.ok (.enter 23 args) w:=Pl.qi func23
theorem Zrb (w0 w:World)(b off len c i k:Nat)(hi:i<len)(hk:k<len)(x y:Rx)(hx:RwAt w0 b (off+i*6) x)(hy:RwAt w0 b (off+k*6) y)(af:x.r.key<18446744073709551616)(ag:y.r.key<18446744073709551616)(h:(Fl.key x.r.key == Fl.key y.r.key)=true)(hW:Bl w0 w)
    {Q:Exit→Act→World→Prop}(ae:A.tmps.size=85)(ad:A.defers=[])(s6:A.tmps.getD 6 undef=.slice (some ⟨b,off,none⟩) len c)(s8:A.tmps.getD 8 undef=.int .i64 (i:Int))(s9:A.tmps.getD 9 undef=.int .i64 (k:Int))
    (hend:∀(u:Nat→Value) w',Bl w0 w'→Q .normal ((Pl.pu A u [60,61,62,63,64,65,66,67,68,69]).put (some 70) (.bool true)) w') :
    Pl.rg prog 19 f39 Q A w:=by
  have aa:Bl w0 w.drew:=hW.drew;have hA:=Pl.At.same (v:=.int .i64 (k:Int)) (d:=9) (Pl.At.same (v:=.int .i64 (i:Int)) (d:=8) (Pl.At.same (v:=.slice (some ⟨b,off,none⟩) len c) (d:=6) (Pl.At.here ae ad) s6) s8) s9;refine Pl.qb (S:=fun w'=>Bl w0 w') hA aa ?_;rw [show (Pl.fd 19 f39).size=11 by kernel_rfl];refine Pl.q0 0 60 (.slice (some ⟨b,off,none⟩) len c) (Pl.q1) (Pl.q2 (.tmp 6)) aa ?_;refine Pl.q0 1 61 (.int .i64 (i:Int)) (Pl.q1) (Pl.q2 (.tmp 8)) aa ?_;refine Pl.q0 2 62 (.pointer (some ⟨b,off+i*6,none⟩)) (Pl.q1) (Pl.qa 49 (.tmp 60) (.tmp 61) (ZaX b off len c i hi)) aa ?_;refine Pl.q0 3 63 (.pointer (some ⟨b,off+i*6,none⟩)) (Pl.q1) (Pl.q6 39 (.tmp 62) 0 (ZnK b (off+i*6))) aa ?_;refine Pl.q0 4 64 (.float .f64 x.r.key) (Pl.q1) (Pl.q4 32 (.tmp 63) (fun w' hS=>Zdk (hx.keep hS (Nat.le_refl _)).c0)) aa ?_;refine Pl.q0 5 65 (.slice (some ⟨b,off,none⟩) len c) (Pl.q1) (Pl.q2 (.tmp 6)) aa ?_;refine Pl.q0 6 66 (.int .i64 (k:Int)) (Pl.q1) (Pl.q2 (.tmp 9)) aa ?_;refine Pl.q0 7 67 (.pointer (some ⟨b,off+k*6,none⟩)) (Pl.q1) (Pl.qa 49 (.tmp 65) (.tmp 66) (ZaX b off len c k hk)) aa ?_;refine Pl.q0 8 68 (.pointer (some ⟨b,off+k*6,none⟩)) (Pl.q1) (Pl.q6 39 (.tmp 67) 0 (ZnK b (off+k*6))) aa ?_;refine Pl.q0 9 69 (.float .f64 y.r.key) (Pl.q1) (Pl.q4 32 (.tmp 68) (fun w' hS=>Zdk (hy.keep hS (Nat.le_refl _)).c0)) aa ?_;refine Pl.qe 10 70 23 [(.tmp 64),(.tmp 69)] #[32,32] (Pl.q1) Zju (Calls.mono (Zji h af ag w.drew) ?_);rintro e w1 ⟨rfl,ac⟩;have ab:Bl w0 w1:=Zac aa ac;refine⟨.bool true,rfl,ab,?_⟩;refine Pl.q8 (fun A' hA'=>?_);exact Pl.en hA' hA [60,61,62,63,64,65,66,67,68,69,70] (hend hA'.fn _ ab)
theorem Zra (w0 w:World)(b off len c i k:Nat)(hi:i<len)(hk:k<len)(x y:Rx)(hx:RwAt w0 b (off+i*6) x)(hy:RwAt w0 b (off+k*6) y)(af:x.r.key<18446744073709551616)(ag:y.r.key<18446744073709551616)(h:(Fl.key x.r.key == Fl.key y.r.key)=false)(hW:Bl w0 w)
    {Q:Exit→Act→World→Prop}(ae:A.tmps.size=85)(ad:A.defers=[])(s6:A.tmps.getD 6 undef=.slice (some ⟨b,off,none⟩) len c)(s8:A.tmps.getD 8 undef=.int .i64 (i:Int))(s9:A.tmps.getD 9 undef=.int .i64 (k:Int))
    (hend:∀(u:Nat→Value) w',Bl w0 w'→Q .normal ((Pl.pu A u [60,61,62,63,64,65,66,67,68,69]).put (some 70) (.bool false)) w') :
    Pl.rg prog 19 f39 Q A w:=by
  have aa:Bl w0 w.drew:=hW.drew;have hA:=Pl.At.same (v:=.int .i64 (k:Int)) (d:=9) (Pl.At.same (v:=.int .i64 (i:Int)) (d:=8) (Pl.At.same (v:=.slice (some ⟨b,off,none⟩) len c) (d:=6) (Pl.At.here ae ad) s6) s8) s9;refine Pl.qb (S:=fun w'=>Bl w0 w') hA aa ?_;rw [show (Pl.fd 19 f39).size=11 by kernel_rfl];refine Pl.q0 0 60 (.slice (some ⟨b,off,none⟩) len c) (Pl.q1) (Pl.q2 (.tmp 6)) aa ?_;refine Pl.q0 1 61 (.int .i64 (i:Int)) (Pl.q1) (Pl.q2 (.tmp 8)) aa ?_;refine Pl.q0 2 62 (.pointer (some ⟨b,off+i*6,none⟩)) (Pl.q1) (Pl.qa 49 (.tmp 60) (.tmp 61) (ZaX b off len c i hi)) aa ?_;refine Pl.q0 3 63 (.pointer (some ⟨b,off+i*6,none⟩)) (Pl.q1) (Pl.q6 39 (.tmp 62) 0 (ZnK b (off+i*6))) aa ?_;refine Pl.q0 4 64 (.float .f64 x.r.key) (Pl.q1) (Pl.q4 32 (.tmp 63) (fun w' hS=>Zdk (hx.keep hS (Nat.le_refl _)).c0)) aa ?_;refine Pl.q0 5 65 (.slice (some ⟨b,off,none⟩) len c) (Pl.q1) (Pl.q2 (.tmp 6)) aa ?_;refine Pl.q0 6 66 (.int .i64 (k:Int)) (Pl.q1) (Pl.q2 (.tmp 9)) aa ?_;refine Pl.q0 7 67 (.pointer (some ⟨b,off+k*6,none⟩)) (Pl.q1) (Pl.qa 49 (.tmp 65) (.tmp 66) (ZaX b off len c k hk)) aa ?_;refine Pl.q0 8 68 (.pointer (some ⟨b,off+k*6,none⟩)) (Pl.q1) (Pl.q6 39 (.tmp 67) 0 (ZnK b (off+k*6))) aa ?_;refine Pl.q0 9 69 (.float .f64 y.r.key) (Pl.q1) (Pl.q4 32 (.tmp 68) (fun w' hS=>Zdk (hy.keep hS (Nat.le_refl _)).c0)) aa ?_;refine Pl.qe 10 70 23 [(.tmp 64),(.tmp 69)] #[32,32] (Pl.q1) Zju (Calls.mono (Zji h af ag w.drew) ?_);rintro e w1 ⟨rfl,ac⟩;have ab:Bl w0 w1:=Zac aa ac;refine⟨.bool false,rfl,ab,?_⟩;refine Pl.q8 (fun A' hA'=>?_);exact Pl.en hA' hA [60,61,62,63,64,65,66,67,68,69,70] (hend hA'.fn _ ab)
def rk (R:List Rx) (i:Nat):Nat:=(R.getD i Rx.zero).r.key
theorem ZfX {l:List Hr}(h:rws R=hrsR l)(hi:i<l.length):(R.getD i Rx.zero).r=l[i].r:=by
 (have hl:R.length=l.length:=by have:=congrArg List.length h;simpa [rws,hrsR] using this);(have h1:(rws R)[i]? = (hrsR l)[i]?:=by rw [h]);(have hi':i<R.length:=by omega);simp only [rws,hrsR,List.getElem?_map,List.getElem?_eq_getElem hi,List.getElem?_eq_getElem hi',Option.map_some,Option.some.injEq] at h1;simp [List.getD,hi',h1]
theorem Ze3 {l:List Hr}(h:rws R=hrsR l):R.length=l.length:=by have:=congrArg List.length h;simpa [rws,hrsR] using this
theorem Zi8 {l:List Lf}(h:rws R=hrsR (allH l)):ZbG (allH l)↔∀i,i<R.length→∀k,k<i→(Fl.key (rk R i) == Fl.key (rk R k))=false:=by
 have hl:=Ze3 h;unfold ZbG;rw [List.pairwise_iff_getElem];have key:∀i,(hi:i<(allH l).length)→Fl.key (rk R i)=(allH l)[i].r.key:=by
  intro i hi;unfold rk;rw [ZfX h hi];exact(ZcT (List.getElem_mem hi)).1
 constructor
 · intro hp i hi k hk;rw [key i (by omega),key k (by omega)];rw [beq_eq_false_iff_ne];exact fun e=>hp k i (by omega) (by omega) hk e.symm
 · intro hp k i hk hi aa;have:=hp i (by omega) k aa;rw [key i hi,key k hk,beq_eq_false_iff_ne] at this;exact fun e=>this e.symm
def Zgd (l:List Lf) (e:Ending):Prop:=∃r:Bool,e=.returned (.bool r)∧(r=true↔MayH l)
theorem ZeU {l:List Lf}(h:¬MayH l):Zgd l (.returned (.bool false)):=⟨false,rfl,by simp [h]⟩
theorem ZmJ {D:Nat→Prop}(w:World)(s:Sl)(L:List Lb)(h:Gl D w s L) :
    Calls prog 39 #[s.val] w fun e w'=>Zgd (lfs L) e∧Bl w w':=by
  have bg:=Zh (fun w' (hb:Bl w w')=>ZgG w' s L (h.below hb (Nat.le_refl _)));obtain⟨a,len,cap⟩:=s;have H:=Zh h;have cp:len≤900:=h.big;(have HL:Hi ((lfs L).length=len):=by show _=_;rw [Zbh];exact h.len);clear h;unfold Sl.val at *;simp only at *;go_enter func39,ntmps39;go_wp2_with fail;go_loopw [3,4] (fun nv iv wr=>∃i:Nat,i≤len∧iv=.int .i64 (i:Nat)∧nv=.int .i64 ((fillH ((lfs L).take i):Nat):Int)∧fillH ((lfs L).take i)≤i*1000∧Hi (∀j,j<i→MayL (lf (lfs L) j))∧Hi (Bl w wr)) (fun _ iv _=>len-(intOf iv).toNat)
  case atStart=>exact ⟨0,Nat.zero_le _,rfl,rfl,Nat.zero_le _,(fun j hj=>absurd hj (Nat.not_lt_zero _)),Below.refl _ _⟩
  case round =>
   obtain⟨i,hi,rfl,rfl,hn,ad,hW⟩:=hrel;rcases Nat.lt_or_ge i len with ae | ce
   · (have j1:(i:Int)<(len:Int):=by omega);have bm:=H.o.below hW.o (Nat.le_refl _);have av:i<(Sl.mk a len cap).len:=ae;obtain⟨b,off,ha,c0,c1⟩:=bm.cell i av;replace ha:a=some ⟨b,off,none⟩:=ha;subst ha;have ar:=bm.at av;obtain⟨x,hx⟩:∃x,x=L.getD i Lb.zero:=⟨_,rfl⟩;rw [← hx] at c0 c1 ar;obtain⟨⟨ua,un,uc⟩,⟨va,vn,vc⟩,xt,xl⟩:=x;(have HF:Hi (lf (lfs L) i=⟨xt,bss xl⟩):=by show _=_;rw [ZfH,← hx];rfl);have bh:=Zh c0;have aw:=Zh c1;have bx:=Zh (ZdI c0 c1);have cr:=Zh (Zde b off len cap i ae);have ac:=Zh (ZmL wr ⟨ua,un,uc⟩ ⟨va,vn,vc⟩ xt xl ar.1 ar.2);have ax:=Zh ar.2;unfold lfV Sl.val at ac bx;simp only at ac bx;clear bm ar hx c0 c1;unfold Sl.val at bh aw;simp only at bh aw;have c0:=bh.o;have c1:=aw.o;go_wp2_with fail;refine ac.o.mono ?_;rintro e w1 ⟨⟨r,rfl,hr⟩,ap⟩;have ao:=Zh (Zac hW.o ap);cases r with
     | false =>
      (have cg:¬MayL ⟨xt,bss xl⟩:=fun hh=>by have:=hr.2 hh;cases this);have bj:Hi (¬MayH (lfs L)):=fun hh=>cg (by rw [← HF.o];exact hh.leaf _ (ZcA (by rw [HL.o];exact ae)));clear hr cg ap ac c0 c1 ad;go_wp2;go_ret;exact⟨ZeU bj.o,ao.o⟩
     | true =>
      have hm:=hr.1 rfl;have HM:=Zh hm;have am:Hi (∀j,j<i+1→MayL (lf (lfs L) j)):=by
       intro j hj;rcases Nat.lt_or_ge j i with h1 | h1
       · exact ad.o j h1
       · rw [show j=i by omega,HF.o];exact hm
      (have ca:Hi ((bss xl).length=vn):=by show _=_;rw [Zaj];exact ax.o.len);have ct:vn≤1000:=ax.o.big;have d1:w1.cell? ⟨b,off+i*2+1,none⟩=some (.slice va vn vc):=Zaf aw.o ap;have bv:=Zh d1;have bw:=Zh (ax.o.below ap (Nat.le_refl _));obtain⟨n0,bo⟩:∃n,n=fillH ((lfs L).take i):=⟨_,rfl⟩;rw [← bo] at hn ⊢;have co:=Zh bo;clear hr hm ap ac c0 c1 ad bo ax;go_wp2_with fail;go_loopw [3,5] (fun nv kv wr2=>∃k:Nat,k≤vn∧kv=.int .i64 (k:Nat)∧wr2=w1∧nv=.int .i64 ((n0+fillS ((bss xl).take k):Nat):Int)∧fillS ((bss xl).take k)≤k) (fun _ kv _=>vn-(intOf kv).toNat)
      case atStart=>exact ⟨0,Nat.zero_le _,rfl,rfl,by simp [fillS],by simp [fillS]⟩
      case round =>
       obtain⟨k,hk,rfl,rfl,rfl,bb⟩:=hrel;rcases Nat.lt_or_ge k vn with bd | cf
       · (have j2:(k:Int)<(vn:Int):=by omega);have au:k<(Sl.mk va vn vc).len:=bd;obtain⟨vb,vo,bt,e0⟩:=bw.o.cell k au;replace bt:va=some ⟨vb,vo,none⟩:=bt;subst bt;have az:=(bw.o.at au).1;obtain⟨⟨sa,sn,sc⟩,bq⟩:∃s,s=(xl.getD k Sb.zero).s:=⟨_,rfl⟩;rw [← bq] at e0 az;have br:(sl (bss xl) k).length=sn:=az.came.bs.1;have af:=Zko (s:=bss xl) (k:=k) (by rw [ca.o];exact bd);rw [br] at af;unfold Sl.val at e0;simp only at e0;(have cj:IntKind.i64.wrap (((n0+fillS ((bss xl).take k):Nat):Int)+1)=((n0+fillS ((bss xl).take k):Nat):Int)+1:=by rw [IntKind.wrap_i64];omega);have d1:=bv.o;by_cases hp:0<sn
         · (have j3:(0:Int)<(sn:Int):=by omega);rw [if_pos hp] at af;have aa:=Zh af;obtain⟨q,hq⟩:∃q,q=fillS ((bss xl).take k):=⟨_,rfl⟩;rw [← hq] at bb aa cj ⊢;clear bq az br af hq;go_wp2;go_roundw;exact ⟨k+1,by omega,by go_num,trivial,by rw [aa.o];go_num,by rw [aa.o];omega⟩;simp only [intOf];omega
         · (have j3:¬(0:Int)<(sn:Int):=by omega);rw [if_neg hp,Nat.add_zero] at af;have aa:=Zh af;obtain⟨q,hq⟩:∃q,q=fillS ((bss xl).take k):=⟨_,rfl⟩;rw [← hq] at bb aa cj ⊢;clear bq az br af hq;go_wp2;go_roundw;exact ⟨k+1,by omega,by go_num,trivial,by rw [aa.o];rfl,by rw [aa.o];omega⟩;simp only [intOf];omega
       · (have j2:¬(k:Int)<(vn:Int):=by omega);(have e0:k=vn:=by omega);(have ci:fillS ((bss xl).take k)=fillS (bss xl):=by rw [List.take_of_length_le (by rw [ca.o];exact cf)]);(have af:fillH ((lfs L).take (i+1))=n0+fillS (bss xl):=by rw [Zkn (by rw [HL.o];exact ae),HF.o,co.o]);rw [ci] at bb ⊢;have aa:=Zh af;have d1:=bv.o;obtain⟨q,hq⟩:∃q,q=fillS (bss xl):=⟨_,rfl⟩;rw [← hq] at bb aa ⊢;clear ci af hq e0;go_wp2;go_roundw;exact ⟨i+1,by omega,by go_num,by rw [aa.o],by rw [aa.o];omega,am,ao⟩;simp only [intOf];omega
   · (have j1:¬(i:Int)<(len:Int):=by omega);(have e0:i=len:=by omega);(have cd:fillH ((lfs L).take i)=fillH (lfs L):=by rw [List.take_of_length_le (by rw [HL.o];exact ce)]);have al:Hi (∀f∈lfs L,MayL f):=by
      intro f hf;obtain⟨j,hj,rfl⟩:=List.getElem_of_mem hf;rw [← Zed hj];exact ad.o j (by rw [HL.o] at hj;omega)
     have bu:=Zh (bg.o wr hW.o);rw [cd] at hn ⊢;(have cq:fillH (lfs L)≤900000:=by have:i*1000≤900*1000:=Nat.mul_le_mul_right _ (by omega);omega);obtain⟨N,hN⟩:∃N,N=fillH (lfs L):=⟨_,rfl⟩;rw [← hN] at cq ⊢;have bi:=Zh hN;clear hn hN cd e0 ad;go_wp2_with fail;refine bu.o.mono ?_;rintro e w1 ⟨⟨ra,rn,rc⟩,⟨ba,bn,bc⟩,R,rfl,hT⟩;have aj:=hT.i.rows.rz;have bp:R.length=rn:=aj.len;have ao:=Zh (Zac hW.o hT.i.below);have bz:=Zh bp;have an:=Zh aj;have ak:=Zh (Zi8 hT.r);(have ab:Hi ((allH (lfs L)).length=rn):=by show _=_;rw [← Ze3 hT.r,bp]);(have cs:rn≤N:=by rw [← ab.o,bi.o];exact (ZdM (lfs L) 0).1);clear hT aj bp bu;go_wp2_with fail;go_loopw [8] (fun iv wr2=>∃i:Nat,i≤rn∧iv=.int .i64 (i:Nat)∧Hi (∀j,j<i→∀k,k<j→(Fl.key (rk R j) == Fl.key (rk R k))=false)∧Hi (Bl w1 wr2)) (fun iv _=>rn-(intOf iv).toNat)
     case atStart=>exact ⟨0,Nat.zero_le _,rfl,(fun j hj=>absurd hj (Nat.not_lt_zero _)),Below.refl _ _⟩
     case round =>
      rename World=>wi;obtain⟨i,hi,rfl,be,bl⟩:=hrel;rcases Nat.lt_or_ge i rn with ae | ce
      · (have j1:(i:Int)<(rn:Int):=by omega);go_wp2_with fail;go_loopw [9] (fun kv wr2=>∃k:Nat,k≤i∧kv=.int .i64 (k:Nat)∧Hi (∀m,m<k→(Fl.key (rk R i) == Fl.key (rk R m))=false)∧Hi (Bl w1 wr2)) (fun kv _=>i-(intOf kv).toNat)
        case atStart=>exact ⟨0,Nat.zero_le _,rfl,(fun j hj=>absurd hj (Nat.not_lt_zero _)),bl⟩
        case round =>
         rename World=>wk;obtain⟨k,hk,rfl,bf,ay⟩:=hrel;rcases Nat.lt_or_ge k i with bd | cf
         · (have j2:(k:Int)<(i:Int):=by omega);have aj:=an.o.keep ay.o (Nat.le_refl _);obtain⟨b1,o1,ch,hx⟩:=aj.at' i ae;obtain⟨b2,o2,ai,hy⟩:=aj.at' k (by omega);rw [ch] at ai;simp only [Option.some.injEq,Addr.mk.injEq,and_true] at ai;obtain⟨rfl,rfl⟩:=ai;subst ch;have ck:=(an.o.fits _ (an.o.mem ae)).key;have cl:=(an.o.fits _ (an.o.mem (show k<rn by omega))).key;have HX:=Zh hx;have HY:=Zh hy;have cb:=Zh ck;have cc:=Zh cl;clear aj hx hy ck cl;go_wp2_with fail;refine Pl.q9 (ops:=Pl.fd 19 f39) ?_;cases hq:(Fl.key (rk R i) == Fl.key (rk R k)) with
           | true =>
            refine Zrb wk wk b1 o1 rn rc i k ae (by omega) _ _ HX.o HY.o cb.o cc.o hq (Below.refl _ _) (by rfl) (by rfl) (by rfl) (by rfl) (by rfl) ?_;intro u w3 aq;simp only [Pl.pu,List.foldl,Act.put,List.setIfInBounds_toArray,List.set];have bj:Hi (¬MayH (lfs L)):=by
             intro hh;have:=ak.o.1 hh.keys i (by rw [bz.o];exact ae) k bd;rw [hq] at this;cases this
            have ah:=Zh (Zac ao.o (Zac ay.o aq));clear aq hq;go_wp2;go_ret;exact⟨ZeU bj.o,ah.o⟩
           | false =>
            refine Zra wk wk b1 o1 rn rc i k ae (by omega) _ _ HX.o HY.o cb.o cc.o hq (Below.refl _ _) (by rfl) (by rfl) (by rfl) (by rfl) (by rfl) ?_;intro u w3 aq;simp only [Pl.pu,List.foldl,Act.put,List.setIfInBounds_toArray,List.set];have cn:Hi (∀m,m<k+1→(Fl.key (rk R i) == Fl.key (rk R m))=false):=by
             intro m hm;rcases Nat.lt_or_ge m k with h1 | h1
             · exact bf.o m h1
             · rw [show m=k by omega];exact hq
            have ah:=Zh (Zac ay.o aq);clear aq hq bf;go_wp2;go_roundw;exact ⟨k+1,by omega,by go_num,cn,ah⟩;simp only [intOf];omega
         · (have j2:¬(k:Int)<(i:Int):=by omega);have cm:Hi (∀j,j<i+1→∀m,m<j→(Fl.key (rk R j) == Fl.key (rk R m))=false):=by
            intro j hj m hm;rcases Nat.lt_or_ge j i with h1 | h1
            · exact be.o j h1 m hm
            · (have e:j=i:=by omega);subst e;exact bf.o m (by omega)
           clear bf be;go_wp2;go_roundw;exact ⟨i+1,by omega,by go_num,cm,ay⟩;simp only [intOf];omega
      · (have j1:¬(i:Int)<(rn:Int):=by omega);have bk:Hi (ZbG (allH (lfs L))):=ak.o.2 (fun j hj k hk=>be.o j (by rw [bz.o] at hj;omega) k hk);have ah:=Zh (Zac ao.o bl.o);have ag:Hi (∀r:Bool,(r=true↔(N=rn∧1≤len∧len≤62))→Zgd (lfs L) (.returned (.bool r))):=by
         intro r hr;refine⟨r,rfl,hr.trans ⟨fun hh=>⟨al.o,?_,bk.o,by rw [HL.o];exact hh.2.1,by rw [HL.o];exact hh.2.2⟩,fun hh=>⟨?_,?_,?_⟩⟩⟩
         · exact ZfJ.1 (by rw [ab.o,← bi.o];exact hh.1)
         · rw [bi.o,← ab.o];exact ZfJ.2 hh.rows
         · rw [← HL.o];exact hh.pos
         · rw [← HL.o];exact hh.few
        clear be bl;by_cases e1:N=rn
        · (have i1:(N:Int)=(rn:Int):=by omega);by_cases e2:1≤len
          · (have i2:(1:Int)≤(len:Int):=by omega);by_cases e3:len≤62
            · (have i3:(len:Int)≤62:=by omega);have HE:=Zh (ag.o true (by simp [e1,e2,e3]));go_wp2;go_ret;exact⟨HE.o,ah.o⟩
            · (have i3:¬(len:Int)≤62:=by omega);have HE:=Zh (ag.o false (by simp [e3]));go_wp2;go_ret;exact⟨HE.o,ah.o⟩
          · (have i2:¬(1:Int)≤(len:Int):=by omega);have HE:=Zh (ag.o false (by simp [e2]));go_wp2;go_ret;exact⟨HE.o,ah.o⟩
        · (have i1:¬(N:Int)=(rn:Int):=by omega);have HE:=Zh (ag.o false (by simp [e1]));go_wp2;go_ret;exact⟨HE.o,ah.o⟩
end Go.Proofs.YtiecfcjlhldhdaaGreat
