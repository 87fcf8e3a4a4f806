/-
  Lemmas.
-/
import Derived.Test.YtiecfcjlhldhdaaGreatKnaf
import Derived.Test.YtiecfcjlhldhdaaGreatKnab
import Derived.Lib.SmallJoins
import Derived.Laws.Cover2
import Derived.Deep.Slices
namespace Go.Proofs.YtiecfcjlhldhdaaGreat
open Go.RowKit Go.Proofs.Tryz
set_option linter.unusedVariables false
set_option linter.unusedSimpArgs false
set_option maxRecDepth 100000
set_option maxHeartbeats 4000000
variable {l:List Lf}{w w' w0:World}{r:Rw}{i k b j o n m:Nat}{s:Sl}{xs y:List Nat}{A:Act}{t:List Int}{a:Option Addr}{f:Lf}
theorem Zeu (h:decB xs=some r):r.may=true:=by
 unfold decB at h;split at h
 · cases h
 · split at h
   · cases h
   · split at h
     · cases h
     · rename_i hn;simp only [Option.some.injEq] at h;subst h;cases hm:(rowOf _ _).may
       · exact absurd (.inr (.inr hm)) hn
       · rfl
theorem ZlF (hx:Bytes xs)(hl:xs.length≤1000000)(h:decB xs=some r):r.fits:=by
 unfold decB at h;split at h
 · cases h
 · rename_i l q h1;split at h
   · cases h
   · rename_i m q2 h2;split at h
     · cases h
     · simp only [Option.some.injEq] at h;subst h;have hb:Bytes (xs.drop q):=fun x hh=>hx x (List.mem_of_mem_drop hh);refine ZfS ?_ ?_ ?_
       · exact Ze5 hx hl _ _ _ _ Zdc (Nat.zero_le _) (fun i hi=>by cases hi) h1
       · have:=Zcr _ _ _ _ _ h1;simpa [headK] using this
       · exact Ze5 hb (by rw [List.length_drop];omega) _ _ _ _ (fun k hk=>by rw [(List.mem_replicate.1 hk).2];decide) (Nat.zero_le _) (fun i hi=>by cases hi) h2
def hpB (r:Rw):List Nat:=r.bytes ++ List.replicate (52-r.bytes.length) 0
theorem ZeN (h:r.may=true):(hpB r).length=52:=by
 have h1:=Zcg r;have h2:=(Rw.may_parts h).2.1;unfold hpB;rw [List.length_append,List.length_replicate];omega
theorem ZbD (h:r.may=true):Bytes (hpB r):=by
 intro x hx;rcases List.mem_append.1 hx with hx | hx
 · exact ZbN h x hx
 · rw [(List.mem_replicate.1 hx).2];decide
theorem ZnS (r:Rw):(hpB r).take (20+8*r.xs.length)=r.bytes:=by
 unfold hpB;rw [← Zcg r,List.take_left]
theorem Zn3 (h:r.may=true):r.bytes.getD 19 0=r.xs.length:=by
 have h4:=(Rw.may_parts h).2.1;have e:r.bytes=(putB [⟨1,if r.dead then 1 else 0,0,noS⟩,⟨4,0,r.key,noS⟩,⟨3,r.wr,0,noS⟩,⟨2,r.cell,0,noS⟩,⟨3,r.no,0,noS⟩]) ++ (putB [⟨1,r.xs.length,0,noS⟩] ++ putB (r.xs.map numI)):=by
  unfold Rw.bytes Rw.items Rw.head;rw [← Zca,← Zca];rfl
 have hl:(putB [⟨1,if r.dead then 1 else 0,0,noS⟩,⟨4,0,r.key,noS⟩,⟨3,r.wr,0,noS⟩,⟨2,r.cell,0,noS⟩,⟨3,r.no,0,noS⟩]).length=19:=by
  simp [putB,It.bytes,Zak]
 have hx:putB [⟨1,r.xs.length,0,noS⟩]=[r.xs.length]:=by
  (have:r.xs.length=0∨r.xs.length=1∨r.xs.length=2∨r.xs.length=3∨r.xs.length=4:=by omega);rcases this with e | e | e | e | e <;> rw [e] <;> rfl
 rw [e,hx];simp [List.getD,hl]
theorem ZlW (h:r.may=true):(hpB r).getD 19 0=r.xs.length:=by
 have hl:=Zcg r;rw [← Zn3 h];unfold hpB;simp only [List.getD];rw [List.getElem?_append_left (by omega)]
def decH (xs:List Nat):Option Rw:=
  if xs.length=52∧xs.getD 19 0≤4 then
    match decB (xs.take (20+8*xs.getD 19 0)) with
    | some r=>if hpB r=xs then some r else none
    | none=>none
  else none
theorem ZeI (h:decH xs=some r):xs.length=52∧xs.getD 19 0≤4∧decB (xs.take (20+8*xs.getD 19 0))=some r∧hpB r=xs:=by
 unfold decH at h;split at h
 · rename_i hc;split at h
   · rename_i q hq;split at h
     · rename_i he;simp only [Option.some.injEq] at h;subst h;exact⟨hc.1,hc.2,hq,he⟩
     · cases h
   · cases h
 · cases h
theorem ZnB (h:decH xs=some r):r.may=true:=Zeu (ZeI h).2.2.1
theorem ZlG (hx:Bytes xs)(h:decH xs=some r):r.fits:=by
 obtain⟨h1,_,h3,_⟩:=ZeI h;exact ZlF (fun x hh=>hx x (List.mem_of_mem_take hh)) (by rw [List.length_take];omega) h3
theorem Zjr (hm:r.may=true)(hf:r.fits):decH (hpB r)=some r:=by
 have h4:=(Rw.may_parts hm).2.1;unfold decH;rw [if_pos ⟨ZeN hm,by rw [ZlW hm];exact h4⟩,ZlW hm,ZnS,Zhc hm hf];exact if_pos rfl
theorem ZcX:decH []=none:=by unfold decH;rw [if_neg (by decide)]
theorem Zjs (h:decH xs=some r):xs ≠ []:=by
 intro e;rw [e,ZcX] at h;cases h
structure Hr where
  r:Rw
  i:Nat
  k:Nat
def rowsS (i:Nat):List (List Nat)→Nat→List Hr
  | [],_=>[]
  | x :: s,k=>(match decH x with | some r=>[⟨r,i,k⟩] | none=>[]) ++ rowsS i s (k+1)
def rowsH:List Lf→Nat→List Hr
  | [],_=>[]
  | f :: l,i=>rowsS i f.slots 0 ++ rowsH l (i+1)
def allH (l:List Lf):List Hr:=rowsH l 0
theorem Zei (i:Nat):∀(s t:List (List Nat))(k:Nat),rowsS i (s ++ t) k=rowsS i s k ++ rowsS i t (k+s.length)
 | [],t,k=>by simp [rowsS]
 | x :: s,t,k=>by
  have:=Zei i s t (k+1)
  simp only [List.cons_append,rowsS,this,List.append_assoc,List.length_cons]
  rw [show k+1+s.length=k+(s.length+1) by omega]
theorem Zeh:∀(l m:List Lf)(i:Nat),rowsH (l ++ m) i=rowsH l i ++ rowsH m (i+l.length)
 | [],m,i=>by simp [rowsH]
 | f :: l,m,i=>by
  have:=Zeh l m (i+1)
  simp only [List.cons_append,rowsH,this,List.append_assoc,List.length_cons]
  rw [show i+1+l.length=i+(l.length+1) by omega]
theorem ZfV {s:List (List Nat)}(h:k<s.length):rowsS i (s.take (k+1)) 0=rowsS i (s.take k) 0 ++ (match decH (sl s k) with | some r=>[⟨r,i,k⟩] | none=>[]):=by
 (have e:s.take (k+1)=s.take k ++ [sl s k]:=by rw [List.take_succ_eq_append_getElem h,Zek h]);rw [e,Zei,List.length_take,Nat.min_eq_left (Nat.le_of_lt h),Nat.zero_add];simp [rowsS]
def lf (l:List Lf) (i:Nat):Lf:=l.getD i Lf.zero
theorem Zed (h:i<l.length):lf l i=l[i]:=by simp [lf,List.getD,h]
theorem ZcA (h:i<l.length):lf l i∈l:=by rw [Zed h];exact List.getElem_mem h
theorem ZfT (h:i<l.length):rowsH (l.take (i+1)) 0=rowsH (l.take i) 0 ++ rowsS i (lf l i).slots 0:=by
 (have e:l.take (i+1)=l.take i ++ [lf l i]:=by rw [List.take_succ_eq_append_getElem h,Zed h]);rw [e,Zeh,List.length_take,Nat.min_eq_left (Nat.le_of_lt h),Nat.zero_add];simp [rowsH]
theorem Zdq {h:Hr}:∀{s:List (List Nat)}{k:Nat},h∈rowsS i s k↔h.i=i∧k≤h.k∧h.k<k+s.length∧decH (sl s (h.k-k))=some h.r
 | [],k=>by
  constructor
  · intro hh;cases hh
  · rintro ⟨_,h1,h2,_⟩
    simp only [List.length_nil,Nat.add_zero] at h2
    omega
 | x :: s,k=>by
  have hx:(h∈(match decH x with | some r=>[(⟨r,i,k⟩:Hr)] | none=>[]))↔h.i=i∧h.k=k∧decH x=some h.r:=by
   cases hd:decH x with
   | none=>simp
   | some r =>
    simp only [List.mem_singleton,Option.some.injEq];constructor
    · rintro rfl;exact ⟨rfl,rfl,rfl⟩
    · obtain⟨r',i',k'⟩:=h;rintro ⟨rfl,rfl,rfl⟩;rfl
  rw [rowsS,List.mem_append,hx,Zdq (s:=s) (k:=k+1)];constructor
  · rintro (⟨h1,h2,h3⟩ | ⟨h1,h2,h3,h4⟩)
    · refine⟨h1,by omega,by rw [List.length_cons];omega,?_⟩;rw [h2,Nat.sub_self];exact h3
    · refine⟨h1,by omega,by rw [List.length_cons];omega,?_⟩;rw [show h.k-k=(h.k-(k+1))+1 by omega];exact h4
  · rintro ⟨h1,h2,h3,h4⟩;rw [List.length_cons] at h3;rcases Nat.lt_or_ge k h.k with hk | hk
    · refine .inr ⟨h1,hk,by omega,?_⟩;rw [show h.k-k=(h.k-(k+1))+1 by omega] at h4;exact h4
    · (have e:h.k=k:=by omega);refine .inl ⟨h1,e,?_⟩;rw [e,Nat.sub_self] at h4;exact h4
theorem ZeV {h:Hr}:∀{l:List Lf}{i:Nat},h∈rowsH l i↔i≤h.i∧h.i<i+l.length∧h.k<(lf l (h.i-i)).slots.length∧decH (sl (lf l (h.i-i)).slots h.k)=some h.r
 | [],i=>by
  constructor
  · intro hh;cases hh
  · rintro ⟨h1,h2,_⟩
    simp only [List.length_nil,Nat.add_zero] at h2
    omega
 | f :: l,i=>by
  rw [rowsH,List.mem_append,Zdq,ZeV (l:=l) (i:=i+1)]
  simp only [Nat.zero_le,true_and,Nat.zero_add,Nat.sub_zero]
  constructor
  · rintro (⟨h1,h2,h3⟩ | ⟨h1,h2,h3,h4⟩)
    · rw [h1,Nat.sub_self]
      exact⟨Nat.le_refl _,by rw [List.length_cons];omega,h2,h3⟩
    · refine⟨by omega,by rw [List.length_cons];omega,?_⟩
      rw [show h.i-i=(h.i-(i+1))+1 by omega]
      exact⟨h3,h4⟩
  · rintro ⟨h1,h2,h3,h4⟩
    rw [List.length_cons] at h2
    rcases Nat.lt_or_ge i h.i with hk | hk
    · rw [show h.i-i=(h.i-(i+1))+1 by omega] at h3 h4
      exact .inr ⟨hk,by omega,h3,h4⟩
    · have e:h.i=i:=by omega
      rw [e,Nat.sub_self] at h3 h4
      exact .inl ⟨e,h3,h4⟩
theorem Zg7 {h:Hr}:h∈allH l↔h.i<l.length∧h.k<(lf l h.i).slots.length∧decH (sl (lf l h.i).slots h.k)=some h.r:=by
 unfold allH;rw [ZeV];simp
def fillS:List (List Nat)→Nat
  | []=>0
  | x :: s=>(if 0<x.length then 1 else 0)+fillS s
def fillH:List Lf→Nat
  | []=>0
  | f :: l=>fillS f.slots+fillH l
theorem ZdZ:∀s t:List (List Nat),fillS (s ++ t)=fillS s+fillS t
 | [],t=>by simp [fillS]
 | x :: s,t=>by simp only [List.cons_append,fillS,ZdZ s t];omega
theorem ZdY:∀s t:List Lf,fillH (s ++ t)=fillH s+fillH t
 | [],t=>by simp [fillH]
 | x :: s,t=>by simp only [List.cons_append,fillH,ZdY s t];omega
theorem Zko {s:List (List Nat)}(h:k<s.length):fillS (s.take (k+1))=fillS (s.take k)+(if 0<(sl s k).length then 1 else 0):=by
 rw [List.take_succ_eq_append_getElem h,← Zek h,ZdZ];simp [fillS]
theorem Zkn (h:i<l.length):fillH (l.take (i+1))=fillH (l.take i)+fillS (lf l i).slots:=by
 rw [List.take_succ_eq_append_getElem h,← Zed h,ZdY];simp [fillH]
theorem ZfU (i:Nat):∀(s:List (List Nat))(k:Nat),(rowsS i s k).length≤fillS s∧((rowsS i s k).length=fillS s↔∀x∈s,x ≠ []→decH x≠none)
 | [],k=>by simp [rowsS,fillS]
 | x :: s,k=>by
  have ih:=ZfU i s (k+1)
  simp only [rowsS,fillS,List.length_append]
  cases hd:decH x with
  | none =>
   by_cases hx:x=[]
   · subst hx
     refine⟨by simpa using ih.1,?_⟩
     simp only [List.length_nil,Nat.zero_add,Nat.lt_irrefl,if_false,List.mem_cons,forall_eq_or_imp,ne_eq,not_true_eq_false,false_imp_iff,true_and]
     exact ih.2
   · have hp:0<x.length:=List.length_pos_iff.2 hx
     simp only [if_pos hp,List.length_nil,List.mem_cons,forall_eq_or_imp,ne_eq,hd,not_true_eq_false]
     refine⟨by omega,?_⟩
     constructor
     · intro e;omega
     · rintro ⟨h1,_⟩
       exact absurd (h1 hx) (by simp)
  | some r =>
   have hp:0<x.length:=List.length_pos_iff.2 (Zjs hd)
   simp only [if_pos hp,List.length_cons,List.length_nil,List.mem_cons,forall_eq_or_imp,ne_eq,hd,reduceCtorEq,not_false_eq_true,implies_true,true_and]
   refine⟨by omega,?_⟩
   rw [← ih.2]
   constructor <;> intro e <;> omega
theorem ZdM:∀(l:List Lf)(i:Nat),(rowsH l i).length≤fillH l∧((rowsH l i).length=fillH l↔∀f∈l,∀x∈f.slots,x ≠ []→decH x≠none)
 | [],i=>by simp [rowsH,fillH]
 | f :: l,i=>by
  have ih:=ZdM l (i+1)
  have is:=ZfU i f.slots 0
  simp only [rowsH,fillH,List.length_append,List.mem_cons,forall_eq_or_imp]
  refine⟨by omega,?_⟩
  rw [← ih.2,← is.2]
  constructor
  · intro e;constructor <;> omega
  · rintro ⟨h1,h2⟩;omega
def ZbG (l:List Hr):Prop:=l.Pairwise fun a b=>a.r.key≠b.r.key
structure MayH (l:List Lf):Prop where
  leaf:∀f∈l,MayL f
  rows:∀f∈l,∀x∈f.slots,x ≠ []→decH x≠none
  keys:ZbG (allH l)
  pos:1≤l.length
  few:l.length≤62
theorem ZfJ :(fillH l=(allH l).length)↔∀f∈l,∀x∈f.slots,x ≠ []→decH x≠none:=by
 rw [← (ZdM l 0).2];exact eq_comm
theorem ZcT {h:Hr}(hh:h∈allH l):Fl.key h.r.key=h.r.key∧h.r.may=true:=by
 have hm:=ZnB (Zg7.1 hh).2.2;exact⟨(Rw.may_parts hm).1.symm,hm⟩
def cellH (l:List Lf) (a b:Nat):List Nat:=sl (lf l a).slots b
theorem Zjo {a:Nat}(h:cellH l a b ≠ []):a<l.length∧b<(lf l a).slots.length:=by
 have hb:=Zry h;refine⟨?_,hb⟩;rcases Nat.lt_or_ge a l.length with h1 | h1
 · exact h1
 · (have e:lf l a=Lf.zero:=by simp [lf,List.getD,List.getElem?_eq_none h1]);rw [e] at hb;exact absurd hb (Nat.not_lt_zero _)
theorem ZbX {h:Hr}:h∈allH l↔decH (cellH l h.i h.k)=some h.r:=by
 rw [Zg7];constructor
 · exact fun hh=>hh.2.2
 · intro hh;have:=Zjo (Zjs hh);exact⟨this.1,this.2,hh⟩
def ZoI (a b:Hr):Prop:=a.i<b.i∨a.i=b.i∧a.k<b.k
theorem Zff (i:Nat):∀(s:List (List Nat))(k:Nat),(rowsS i s k).Pairwise ZoI
 | [],_=>List.Pairwise.nil
 | x :: s,k=>by
  unfold rowsS
  refine List.pairwise_append.2 ⟨?_,Zff i s (k+1),fun a ha b hb=>?_⟩
  · cases decH x with
    | none=>exact List.Pairwise.nil
    | some r=>exact List.pairwise_singleton _ _
  · have hb':=Zdq.1 hb
    cases hd:decH x with
    | none=>rw [hd] at ha;cases ha
    | some r =>
     rw [hd] at ha
     simp only [List.mem_singleton] at ha
     subst ha
     exact .inr ⟨hb'.1.symm,by show k<b.k;omega⟩
theorem Zfe:∀(l:List Lf)(i:Nat),(rowsH l i).Pairwise ZoI
 | [],_=>List.Pairwise.nil
 | f :: l,i=>by
  unfold rowsH
  refine List.pairwise_append.2 ⟨Zff i _ _,Zfe l (i+1),fun a ha b hb=>?_⟩
  have ha':=Zdq.1 ha
  have hb':=ZeV.1 hb
  exact .inl (by omega)
theorem ZkL :ZbG (allH l)↔∀g∈allH l,∀h∈allH l,g.r.key=h.r.key→g.i=h.i∧g.k=h.k:=by
 have ho:=Zfe l 0;unfold ZbG;constructor
 · intro hk g hg h hh e;obtain⟨x,hx,rfl⟩:=List.getElem_of_mem hg;obtain⟨y,hy,rfl⟩:=List.getElem_of_mem hh;rw [List.pairwise_iff_getElem] at hk;rcases Nat.lt_trichotomy x y with h1 | h1 | h1
   · exact absurd e (hk x y hx hy h1)
   · subst h1;exact ⟨rfl,rfl⟩
   · exact absurd e.symm (hk y x hy hx h1)
 · intro hk;unfold allH at hk ⊢;refine List.Pairwise.imp_of_mem ?_ ho;intro a b ha hb aa e;have:=hk a ha b hb e;rcases aa with h1 | ⟨_,h1⟩ <;> omega
def KeyC (l:List Lf):Prop:=∀a b a' b' r r',decH (cellH l a b)=some r→decH (cellH l a' b')=some r'→r.key=r'.key→a=a'∧b=b'
theorem ZeX :ZbG (allH l)↔KeyC l:=by
 rw [ZkL];constructor
 · intro h a b a' b' r r' h1 h2 e;exact h ⟨r,a,b⟩ (ZbX.2 h1) ⟨r',a',b'⟩ (ZbX.2 h2) e
 · intro h g hg k hk e;exact h _ _ _ _ _ _ (ZbX.1 hg) (ZbX.1 hk) e
def RowC (l:List Lf):Prop:=∀a b,cellH l a b ≠ []→decH (cellH l a b)≠none
theorem ZhL :(∀f∈l,∀x∈f.slots,x ≠ []→decH x≠none)↔RowC l:=by
 constructor
 · intro h a b hn;obtain⟨h1,h2⟩:=Zjo hn;refine h _ (ZcA h1) _ ?_ hn;show sl (lf l a).slots b∈_;rw [Zek h2];exact List.getElem_mem h2
 · intro h f hf x hx hn;obtain⟨a,ha,rfl⟩:=List.getElem_of_mem hf;obtain⟨b,hb,rfl⟩:=List.getElem_of_mem hx;have e:cellH l a b=l[a].slots[b]:=by
    unfold cellH;rw [Zed ha,Zek hb]
   rw [← e] at hn ⊢;exact h a b hn
theorem Zdm :MayH l↔(∀f∈l,MayL f)∧RowC l∧KeyC l∧1≤l.length∧l.length≤62:=
 ⟨fun h=>⟨h.leaf,ZhL.1 h.rows,ZeX.1 h.keys,h.pos,h.few⟩,fun h=>⟨h.1,ZhL.2 h.2.1,ZeX.2 h.2.2.1,h.2.2.2.1,h.2.2.2.2⟩⟩
def findH (l:List Lf) (k:Nat):Option Hr:=(allH l).find? fun h=>Fl.key h.r.key == Fl.key k
theorem Zkp {h:Hr}(hf:findH l k=some h):decH (cellH l h.i h.k)=some h.r∧h.r.key=Fl.key k:=by
 have h1:=List.mem_of_find?_eq_some hf;have h2:=List.find?_some hf;simp only [beq_iff_eq] at h2;exact⟨ZbX.1 h1,by rw [← (ZcT h1).1];exact h2⟩
theorem ZdC :findH l k=none↔∀a b r,decH (cellH l a b)=some r→r.key≠Fl.key k:=by
 unfold findH;rw [List.find?_eq_none];constructor
 · intro h a b r hd e;have hm:(⟨r,a,b⟩:Hr)∈allH l:=ZbX.2 hd;have:=h _ hm;simp only [beq_iff_eq] at this;refine this ?_;rw [(ZcT hm).1];exact e
 · intro h x hx;simp only [beq_iff_eq];rw [(ZcT hx).1];exact h _ _ _ (ZbX.1 hx)
theorem ZnL (hk:KeyC l){h:Hr}(hd:decH (cellH l h.i h.k)=some h.r)(he:h.r.key=Fl.key k):findH l k=some h:=by
 cases hf:findH l k with
 | none=>exact absurd he (ZdC.1 hf _ _ _ hd)
 | some g =>
  obtain⟨h1,h2⟩:=Zkp hf;obtain⟨e1,e2⟩:=hk _ _ _ _ _ _ h1 hd (by rw [h2,he]);obtain⟨gr,gi,gk⟩:=g;obtain⟨hr,hi,hk'⟩:=h;simp only at e1 e2 h1 hd;subst e1 e2;rw [h1] at hd;cases hd;rfl
structure Zlx (l l':List Lf) (i k:Nat) (y:List Nat):Prop where
  len:l'.length=l.length
  here:cellH l' i k=y
  other:∀a b,¬(a=i∧b=k)→cellH l' a b=cellH l a b
theorem ZeR (h:i<l.length)(f:Lf):lf (l.set i f) i=f:=by simp [lf,List.getD,h]
theorem Zhy (h:i≠j)(f:Lf):lf (l.set i f) j=lf l j:=by simp [lf,List.getD,List.getElem?_set_ne h]
theorem Zlx.of (hi:i<l.length)(h:∀b,b≠k→sl f.slots b=sl (lf l i).slots b):Zlx l (l.set i f) i k (sl f.slots k):=by
 refine⟨by simp,by unfold cellH;rw [ZeR hi],fun a b aa=>?_⟩;unfold cellH;by_cases ha:i=a
 · subst ha;rw [ZeR hi];exact h b (fun e=>aa ⟨rfl,e⟩)
 · rw [Zhy ha]
theorem Zrz {s:List (List Nat)}(hk:k<s.length)(y:List Nat)(b:Nat):sl (s.set k y) b=if b=k then y else sl s b:=by
 by_cases e:b=k
 · subst e;rw [if_pos rfl,ZcO hk]
 · rw [if_neg e,Zcp (fun h=>e h.symm)]
theorem Zpd (s:List (List Nat))(y:List Nat)(b:Nat):sl (insS s y) b=if b=atE s then y else sl s b:=by
 unfold insS;rcases ZeB s with ⟨h1,_⟩ | ⟨h1,_,_⟩
 · rw [if_pos h1,h1];by_cases e:b=s.length
   · rw [if_pos e,e,ZcP]
   · rw [if_neg e];rcases Nat.lt_or_ge b s.length with h | h
     · exact Zfk h y
     · rw [Znb (by rw [List.length_append];simp only [List.length_cons,List.length_nil];omega),Znb h]
 · rw [if_neg (by omega),Zrz h1]
theorem MayH.turn {l':List Lf}(h:MayH l)(t:Zlx l l' i k y)(hl:∀f∈l',MayL f)(hy:y=[]∨∃r,decH y=some r∧∀a b r',¬(a=i∧b=k)→decH (cellH l a b)=some r'→r'.key≠r.key):MayH l':=by
 obtain⟨_,h2,h3,h4,h5⟩:=Zdm.1 h;refine Zdm.2 ⟨hl,fun a b hn=>?_,fun a b a' b' r r' hr hr' e=>?_,by rw [t.len];exact h4,by rw [t.len];exact h5⟩
 · by_cases ab:a=i∧b=k
   · rw [ab.1,ab.2,t.here] at hn ⊢;rcases hy with rfl | ⟨r,hr,_⟩
     · exact absurd rfl hn
     · rw [hr];simp
   · rw [t.other a b ab] at hn ⊢;exact h2 a b hn
 · by_cases ab:a=i∧b=k
   · by_cases aa:a'=i∧b'=k
     · omega
     · rw [ab.1,ab.2,t.here] at hr;rw [t.other _ _ aa] at hr';rcases hy with rfl | ⟨q,hq,ho⟩
       · rw [ZcX] at hr;cases hr
       · rw [hq] at hr;cases hr;exact absurd e.symm (ho _ _ _ aa hr')
   · rw [t.other _ _ ab] at hr;by_cases aa:a'=i∧b'=k
     · rw [aa.1,aa.2,t.here] at hr';rcases hy with rfl | ⟨q,hq,ho⟩
       · rw [ZcX] at hr';cases hr'
       · rw [hq] at hr';cases hr';exact absurd e (ho _ _ _ ab hr)
     · rw [t.other _ _ aa] at hr';exact h3 _ _ _ _ _ _ hr hr' e
def Zcf (y:List Nat):List Lf→Nat→Option Nat
  | [],_=>none
  | f :: l,i=>if (insA f.slots y).e=0 then some i else Zcf y l (i+1)
theorem ZbH :∀{l:List Lf}{i j:Nat},Zcf y l i=some j→i≤j∧j<i+l.length∧(insA (lf l (j-i)).slots y).e=0∧∀m,m<j-i→(insA (lf l m).slots y).e≠0
 | [],_,_,h=>by cases h
 | f :: l,i,j,h=>by
  unfold Zcf at h
  split at h
  · rename_i he
    cases h
    rw [Nat.sub_self]
    exact⟨Nat.le_refl _,by rw [List.length_cons];omega,he,fun m hm=>absurd hm (Nat.not_lt_zero _)⟩
  · rename_i he
    obtain⟨h1,h2,h3,h4⟩:=ZbH h
    rw [show j-i=(j-(i+1))+1 by omega]
    refine⟨by omega,by rw [List.length_cons];omega,h3,fun m hm=>?_⟩
    match m with
    | 0=>exact he
    | m+1=>exact h4 m (by omega)
theorem Zc2 :∀{l:List Lf}{i:Nat},Zcf y l i=none↔∀m,m<l.length→(insA (lf l m).slots y).e≠0
 | [],_=>by simp [Zcf]
 | f :: l,i=>by
  unfold Zcf
  split
  · rename_i he
    constructor
    · intro h;cases h
    · intro h
      exact absurd he (h 0 (by simp))
  · rename_i he
    rw [Zc2]
    constructor
    · intro h m hm
      match m with
      | 0=>exact he
      | m+1=>exact h m (by simpa using hm)
    · intro h m hm
      exact h (m+1) (by simpa using hm)
theorem Zoz (hj:j<l.length)(h0:(insA (lf l j).slots y).e=0)(hn:∀m,m<j→(insA (lf l m).slots y).e≠0):Zcf y l 0=some j:=by
 cases h:Zcf y l 0 with
 | none=>exact absurd h0 (Zc2.1 h j hj)
 | some q =>
  obtain⟨_,h2,h3,h4⟩:=ZbH h;simp only [Nat.sub_zero] at h3 h4;rcases Nat.lt_trichotomy q j with e | e | e
  · exact absurd h3 (hn q e)
  · rw [e]
  · exact absurd h0 (h4 j e)
structure Ph where
  l:List Lf
  b:Int × Int
  e:Int
def putL (f:Lf) (r:Rw) (live:List Int):Lf:=⟨(joinI f.itl r.wr live).t,(insA f.slots (hpB r)).s⟩
def putH (l:List Lf) (r:Rw) (live:List Int):Ph:=
  if r.may=false∨r.wr=0∨(findH l r.key).isSome=true then ⟨l,(0,0),1⟩
  else match Zcf (hpB r) l 0 with
    | none=>⟨l,(0,0),7⟩
    | some i=>if (joinI (lf l i).itl r.wr live).e=0 then ⟨l.set i (putL (lf l i) r live),((i:Int),(insA (lf l i).slots (hpB r)).at_),0⟩ else ⟨l,(0,0),(joinI (lf l i).itl r.wr live).e⟩
theorem Ziu {s:List (List Nat)}(h:(insA s y).e=0):insA s y=⟨insS s y,((atE s:Nat):Int),0⟩∧1≤y.length∧y.length≤255∧(insS s y).length≤64∧need (insS s y)≤508:=by
 unfold insA at h ⊢;split at h
 · cases h
 · split at h
   · cases h
   · rename_i h1 h2;rw [if_neg h1,if_neg h2];exact⟨rfl,by omega,by omega,by omega,by omega⟩
theorem Zmk (ht:t.length=4){w:Int}(h1:1≤w)(h2:w≤2147483647):(joinI t w []).e=0:=by
 unfold joinI;rw [if_neg (by omega)];split
 · rfl
 · have hx:t.getD 0 0∈t:=Zdp (by omega);have:=Zks (live:=[]) hx (.inr (by simp));rw [if_neg (by omega)]
theorem MayL.put (h:MayL f)(live:List Int)(hi:(insA f.slots (hpB r)).e=0):MayL (putL f r live):=by
 obtain⟨e,h1,h2,h3,h4⟩:=Ziu hi;unfold putL;rw [e];exact⟨Zod h.itl _ _,Zp4 h.slots h1 h2 h3,h4⟩
theorem Zk8 (h:∀f∈l,MayL f)(hf:MayL f):∀g∈l.set i f,MayL g:=by
 intro g hg;rcases List.mem_or_eq_of_mem_set hg with h1 | rfl
 · exact h g h1
 · exact hf
theorem ZjO (hi:i<l.length)(live:List Int)(he:(insA (lf l i).slots (hpB r)).e=0):Zlx l (l.set i (putL (lf l i) r live)) i (atE (lf l i).slots) (hpB r):=by
 obtain⟨e,_⟩:=Ziu he;(have hs:(putL (lf l i) r live).slots=insS (lf l i).slots (hpB r):=by unfold putL;rw [e]);have t:=Zlx.of (l:=l) hi (f:=putL (lf l i) r live) (k:=atE (lf l i).slots) (fun b hb=>by rw [hs,Zpd,if_neg hb]);rw [hs,Zpd,if_pos rfl] at t;exact t
structure ZgM (l:List Lf) (r:Rw) (live:List Int) (i:Nat):Prop where
  hi:i<l.length
  room:Zcf (hpB r) l 0=some i
  ins:(insA (lf l i).slots (hpB r)).e=0
  join:(joinI (lf l i).itl r.wr live).e=0
  is:putH l r live=⟨l.set i (putL (lf l i) r live),((i:Int),((atE (lf l i).slots:Nat):Int)),0⟩
  may:r.may=true
  wr:r.wr≠0
  new:findH l r.key=none
theorem ZfL (l:List Lf)(r:Rw)(live:List Int):((putH l r live).l=l∧(putH l r live).b=(0,0)∧(putH l r live).e≠0)∨∃i,ZgM l r live i:=by
 unfold putH;by_cases h1:r.may=false∨r.wr=0∨(findH l r.key).isSome=true
 · rw [if_pos h1];exact .inl ⟨rfl,rfl,show (1:Int)≠0 by decide⟩
 · rw [if_neg h1];cases hr:Zcf (hpB r) l 0 with
   | none=>exact .inl ⟨rfl,rfl,show (7:Int)≠0 by decide⟩
   | some i =>
    by_cases hj:(joinI (lf l i).itl r.wr live).e=0
    · obtain⟨_,h2,h3,_⟩:=ZbH hr;simp only [Nat.sub_zero,Nat.zero_add] at h2 h3;refine .inr ⟨i,h2,hr,h3,hj,?_,?_,?_,?_⟩
      · unfold putH;rw [if_neg h1,hr];simp only [hj,if_true];rw [(Ziu h3).1]
      · cases hm:r.may
        · exact absurd (.inl hm) h1
        · rfl
      · exact fun e=>h1 (.inr (.inl e))
      · cases hf:findH l r.key with
        | none=>rfl
        | some g=>exact absurd (.inr (.inr (by rw [hf];rfl))) h1
    · simp only [hj,if_false];exact .inl ⟨trivial,trivial,hj⟩
theorem Zj4 (h:r.may=true):Fl.key r.key=r.key:=(Rw.may_parts h).1.symm
theorem ZgM.mayH {live:List Int}(p:ZgM l r live i)(h:MayH l)(hf:r.fits):MayH (l.set i (putL (lf l i) r live)):=by
 refine h.turn (ZjO p.hi live p.ins) (Zk8 h.leaf (MayL.put (h.leaf _ (ZcA p.hi)) live p.ins)) (.inr ⟨r,Zjr p.may hf,fun a b r' _ hr'=>?_⟩);have:=ZdC.1 p.new a b r' hr';rw [Zj4 p.may] at this;exact this
theorem Zmt (h:MayH l)(hf:r.fits)(live:List Int):MayH (putH l r live).l:=by
 rcases ZfL l r live with ⟨e,_⟩ | ⟨i,p⟩
 · rw [e];exact h
 · rw [p.is];exact p.mayH h hf
theorem ZpW (h:MayH l)(hm:r.may=true)(hw:r.wr≠0)(hn:findH l r.key=none):(Zcf (hpB r) l 0=none∧putH l r []=⟨l,(0,0),7⟩)∨∃i,ZgM l r [] i:=by
 rcases ZfL l r [] with ⟨e1,e2,e3⟩ | p
 · refine .inl ?_;have hp:=Rw.may_parts hm;have h1:¬(r.may=false∨r.wr=0∨(findH l r.key).isSome=true):=by
    rw [hm,hn];simp [hw]
   cases hr:Zcf (hpB r) l 0 with
   | none =>
    refine⟨rfl,?_⟩;unfold putH;rw [if_neg h1,hr]
   | some i =>
    exfalso;obtain⟨_,h2,_⟩:=ZbH hr;simp only [Nat.zero_add] at h2;have hj:=Zmk (h.leaf _ (ZcA h2)).itl.1 (w:=r.wr) (by omega) (by omega);unfold putH at e3;rw [if_neg h1,hr] at e3;simp only [hj,if_true] at e3;exact e3 rfl
 · exact .inr p
open Go.ChangeShapes Go.WideShapes Go.ChangeAt Go.RowKit
section
variable {H : Type} {enc : TypeId × Value → H} {w : World} {base : Nat} {spare : Nat → Bool} {held : Bool}
theorem Zcu {v:Value}{y:DataW H × List MemPlace}(h:DataW.trod enc prog w base spare held n 32 [v]=some y):∃b,v=.float .f64 b∧b<18446744073709551616:=by
 (have ht:prog.underlying 32=some (.float .f64):=by kernel_rfl);cases n with
 | zero=>simp [DataW.trod] at h
 | succ n =>
  cases v <;> simp [DataW.trod,ht] at h;rename_i k b;obtain⟨⟨rfl,hw⟩,_⟩:=h;exact⟨b,rfl,by simpa [Lit.wf] using hw⟩
theorem Zom {len cap:Nat}{y:DataW H × List MemPlace}(h:DataW.trod enc prog w base spare held n 35 [.slice a len cap]=some y) :
    ∃xs,Fs w a len cap xs:=by
  (have hC:prog.cellsOf 32=1:=by kernel_rfl);rcases Go.Deep.open_slice1 underlying35 hC h with ⟨aa,_⟩ | ⟨x,l,c,m,k,V,D,Pl,aa,hb,hl,hm,ac,_,hx⟩
  · simp only [List.cons.injEq,Value.slice.injEq,and_true] at aa;obtain⟨rfl,rfl,rfl⟩:=aa;exact⟨[],⟨⟨rfl,(fun u hu=>by cases hu),fun j hj=>by omega⟩,(fun x hx=>by cases hx),fun _=>rfl,Nat.le_refl _,by omega⟩⟩
  · simp only [List.cons.injEq,Value.slice.injEq,and_true] at aa;obtain⟨rfl,rfl,rfl⟩:=aa;(have ae:len≤m:=by rw [ac];split <;> omega);have ad:0<len→x.spot=none:=by
     intro h0;have:=World.cell?_spot (hx 0 (by omega)).1;simpa [Addr.add] using this
    have each:∀i,i<len→∃b,V i=.float .f64 b∧b<18446744073709551616:=by
     intro i hi;exact Zcu (hx i (by omega)).2
    obtain⟨f,hf⟩:=@Go.Deep.choose_lt Nat ⟨0⟩ len _ each;refine⟨(List.range len).map f,⟨⟨by simp [fVals],Zhi _,?_⟩,?_,(fun e=>by cases e),hl,by unfold maxLen at hm;omega⟩⟩
    · intro j hj;have hc:=(hx j (by omega)).1;obtain⟨b,off,spot⟩:=x;have ab:spot=none:=ad (by omega);subst ab;refine⟨b,off,rfl,?_⟩;rw [Addr.add_lit] at hc;rw [hc,(hf j hj).1];simp [fVals,hj]
    · intro z hz;obtain⟨j,hj,rfl⟩:=List.mem_map.1 hz;exact(hf j (by simpa using hj)).2
end
structure Rx where
  r:Rw
  a:Option Addr
  n:Nat
  c:Nat
def Rx.val (x:Rx):Value:=x.r.val (.slice x.a x.n x.c)
def Rx.zero:Rx:=⟨zeroR,none,0,0⟩
def Rx.cells (x:Rx):List Value:=[.float .f64 x.r.key,.bool x.r.dead,.slice x.a x.n x.c,.int .i64 x.r.wr,.int .i64 x.r.cell,.int .i64 x.r.no]
structure RwAt (w:World) (b o:Nat) (x:Rx):Prop where
  c0:w.cell? ⟨b,o,none⟩=some (.float .f64 x.r.key)
  c1:w.cell? ⟨b,o+1,none⟩=some (.bool x.r.dead)
  c2:w.cell? ⟨b,o+2,none⟩=some (.slice x.a x.n x.c)
  c3:w.cell? ⟨b,o+3,none⟩=some (.int .i64 x.r.wr)
  c4:w.cell? ⟨b,o+4,none⟩=some (.int .i64 x.r.cell)
  c5:w.cell? ⟨b,o+5,none⟩=some (.int .i64 x.r.no)
theorem RwAt.keep {B:Nat}{x:Rx}(h:RwAt w b o x)(hb:Below B w w')(hB:w.heap.size≤B):RwAt w' b o x:=by
 have k:∀{p:Addr} {v:Value},w.cell? p=some v→w'.cell? p=some v:=fun {p v} hc=>(hb.cell (Nat.lt_of_lt_of_le (World.block_lt_of_cell? w _ hc) hB)).trans hc;exact⟨k h.c0,k h.c1,k h.c2,k h.c3,k h.c4,k h.c5⟩
theorem RwAt.of {x:Rx}(h:∀t,t<6→w.cell? ⟨b,o+t,none⟩=x.cells[t]?):RwAt w b o x:=
 ⟨h 0 (by decide),h 1 (by decide),h 2 (by decide),h 3 (by decide),h 4 (by decide),h 5 (by decide)⟩
theorem Zbl (b o:Nat)(x:Rx)(w:World)(h:RwAt w b o x):(Instr.loadAt 39 (.pointer (some ⟨b,o,none⟩))).run prog w=.ok x.val w:=by
 have c0:=h.c0;have c1:=h.c1;have c2:=h.c2;have c3:=h.c3;have c4:=h.c4;have c5:=h.c5;simp [go_sem,c0,c1,c2,c3,c4,c5,Rw.val,Rx.val]
theorem ZaX (b o len cap k:Nat)(hk:k<len)(w:World):(Instr.indexAt 49 (.slice (some ⟨b,o,none⟩) len cap) (.int .i64 (k:Nat))).run prog w=.ok (.pointer (some ⟨b,o+k*6,none⟩)) w:=by
 (have aa:prog.underlying 49=some (.slice (prog.elem 49)):=by kernel_rfl);(have h1:(0:Int)≤(k:Int):=by omega);simp [go_sem,Instr.indexAt,run_underlying aa,h1,Addr.add_lit];omega
structure Rz (w:World) (a:Option Addr) (m:Nat) (l:List Rx):Prop where
  len:l.length=m
  at':∀j,j<m→∃b off,a=some ⟨b,off,none⟩∧RwAt w b (off+j*6) (l.getD j Rx.zero)
  cols:∀x∈l,Fs w x.a x.n x.c x.r.xs
  fits:∀x∈l,x.r.fits
theorem Rz.keep {B:Nat}{len:Nat}{l:List Rx}(h:Rz w a len l)(hb:Below B w w')(hB:w.heap.size≤B):Rz w' a len l:=by
 refine⟨h.len,fun j hj=>?_,fun x hx=>(h.cols x hx).keep hb hB,h.fits⟩;obtain⟨b,off,ha,hu⟩:=h.at' j hj;exact⟨b,off,ha,hu.keep hb hB⟩
theorem Rz.mem {len:Nat}{l:List Rx}(h:Rz w a len l)(hj:j<len):l.getD j Rx.zero∈l:=by
 (have:j<l.length:=by rw [h.len];exact hj);simp [List.getD,this]
def rws (l:List Rx):List Rw:=l.map Rx.r
theorem ZaR (l:List Rx):(rws l).length=l.length:=by simp [rws]
theorem ZcL (l:List Rx)(j:Nat):(rws l).getD j zeroR=(l.getD j Rx.zero).r:=by
 unfold rws;by_cases h:j<l.length
 · simp [List.getD,h]
 · have h':l.length≤j:=Nat.le_of_not_lt h;simp [List.getD,h',Rx.zero]
def Zav (l:List Rx):List Value:=l.flatMap Rx.cells
theorem Zbs:∀l:List Rx,(Zav l).length=l.length*6
 | []=>rfl
 | x :: l=>by
  have e:Zav (x :: l)=x.cells ++ Zav l:=rfl
  rw [e,List.length_append,Zbs l,List.length_cons]
  have:x.cells.length=6:=rfl
  omega
theorem Zgn (l m:List Rx):Zav (l ++ m)=Zav l ++ Zav m:=by simp [Zav]
theorem Zbt (l:List Rx):∀u∈Zav l,u.oneCell'=true:=by
 intro u hu;obtain⟨x,_,hx⟩:=List.mem_flatMap.1 hu;simp only [Rx.cells,List.mem_cons,List.not_mem_nil,or_false] at hx;rcases hx with rfl | rfl | rfl | rfl | rfl | rfl <;> rfl
theorem Zcx:∀(l:List Rx)(j t:Nat),j<l.length→t<6→(Zav l)[j*6+t]? = (l.getD j Rx.zero).cells[t]?
 | [],j,t,hj,_=>by simp at hj
 | x :: l,0,t,_,ht=>by
  have e:Zav (x :: l)=x.cells ++ Zav l:=rfl
  have hl:x.cells.length=6:=rfl
  rw [e,Nat.zero_mul,Nat.zero_add,List.getElem?_append_left (by omega)]
  rfl
 | x :: l,j+1,t,hj,ht=>by
  have e:Zav (x :: l)=x.cells ++ Zav l:=rfl
  have hl:x.cells.length=6:=rfl
  rw [e,List.getElem?_append_right (by omega),hl,show (j+1)*6+t-6=j*6+t by omega]
  exact Zcx l j t (by simpa using hj) ht
theorem Zmc:(prog.info? 39).map (fun i=>(i.zero,i.size,i.bytes))=some (some (.agg #[.float .f64 0,.bool false,.slice none 0 0,.int .i64 0,.int .i64 0,.int .i64 0]),6,64):=by kernel_rfl
structure ColR (w0 w:World) (x:Rx):Prop where
  fs:Fs w x.a x.n x.c x.r.xs
  home:∀b off,x.a=some ⟨b,off,none⟩→0<x.n→b<w0.heap.size∨∃C fr,w.heap[b]? = some (Obj.cells C 32 fr)
theorem ColR.keep {x:Rx}(h:ColR w0 w x)(hb:Bl w w'):ColR w0 w' x:=by
 refine⟨h.fs.keep hb (Nat.le_refl _),fun b off ha hn=>?_⟩;rcases h.home b off ha hn with k | ⟨C,fr,k⟩
 · exact .inl k
 · exact .inr ⟨C,fr,(hb.block b (Array.getElem?_eq_some_iff.1 k).1).trans k⟩
theorem Fs.same {W:World}{c:Nat}(h:Fs w a n c xs)(hs:∀b off,a=some ⟨b,off,none⟩→0<n→W.heap[b]? = w.heap[b]?):Fs W a n c xs:=by
 refine⟨⟨h.vs.1,h.vs.2.1,fun j hj=>?_⟩,h.fit,h.nil,h.le,h.big⟩;obtain⟨b,off,ha,hc⟩:=h.vs.2.2 j hj;refine⟨b,off,ha,?_⟩;rw [← hc];simp only [World.cell?,hs b off ha (by omega)]
structure Rq (w0 w:World) (s:Sl) (l:List Rx):Prop where
  own:Own 39 6 w s (Zav l)
  new:∀k,s.blk=some k→w0.heap.size≤k
  below:Bl w0 w
  cols:∀x∈l,ColR w0 w x
  fits:∀x∈l,x.r.fits
theorem Rq.len {l:List Rx}(h:Rq w0 w s l):l.length=s.len:=by
 have:=h.own.1;rw [Zbs] at this;omega
theorem Rq.keep {l:List Rx}(h:Rq w0 w s l)(hb:Bl w w'):Rq w0 w' s l:=
 ⟨h.own.frame (fun k hk=>hb.block k (h.own.lt hk)),h.new,Zac h.below hb,fun x hx=>(h.cols x hx).keep hb,h.fits⟩
theorem Own.rwAt {l:List Rx}(h:Own 39 6 w s (Zav l)){off:Nat}(ha:s.a=some ⟨b,off,none⟩)(j:Nat)(hj:j<l.length):RwAt w b (off+j*6) (l.getD j Rx.zero):=by
 refine RwAt.of fun t ht=>?_;have hg:=Zcx l j t hj ht;have aa:t<(l.getD j Rx.zero).cells.length:=ht;rw [List.getElem?_eq_getElem aa] at hg ⊢;have:=h.cell ha (j*6+t) _ hg;rwa [Addr.add_lit,← Nat.add_assoc] at this
theorem Rq.rz {l:List Rx}(h:Rq w0 w s l):Rz w s.a s.len l:=by
 refine⟨h.len,fun j hj=>?_,fun x hx=>(h.cols x hx).fs,h.fits⟩;rcases h.own.2 with ⟨h0,_⟩ | ⟨g,off,cur,ha,_⟩
 · rw [h0] at hj;exact absurd hj (Nat.not_lt_zero _)
 · exact⟨g,off,ha,h.own.rwAt ha j (by rw [h.len];exact hj)⟩
theorem Rq.nil (w0 w:World)(hb:Bl w0 w):Rq w0 w Sl.nil []:=
 ⟨⟨rfl,.inl ⟨rfl,rfl⟩⟩,(fun k hk=>by cases hk),hb,(fun x hx=>by cases hx),fun x hx=>by cases hx⟩
theorem Rq.new0 (w0 w:World)(hb:Bl w0 w):Rq w0 (w.alloc (.cells #[] 39)) ⟨some ⟨w.heap.size,0,none⟩,0,0⟩ []:=by
 refine⟨⟨rfl,.inr ⟨w.heap.size,0,_,rfl,heap_alloc_new w _,by simp,Nat.le_refl _,by simp,rfl⟩⟩,fun k hk=>?_,Zac hb (Zab w _),(fun x hx=>by cases hx),fun x hx=>by cases hx⟩;have e:some w.heap.size=some k:=hk;cases e;exact hb.size
theorem Zpe (w:World)(x:Rx):Src prog 6 49 (.slice (some ⟨w.heap.size,0,none⟩) 1 1) 1 (Zav [x]) (w.alloc (.cells #[.float .f64 x.r.key,.bool x.r.dead,.slice x.a x.n x.c,.int .i64 x.r.wr,.int .i64 x.r.cell,.int .i64 x.r.no] 39)):=by
 refine Src.ofSlice _ underlying49 ⟨w.heap.size,0,none⟩ 1 1 (Zav [x]) rfl (fun j u hj=>?_) (Zbt _);have hb:(w.alloc (.cells #[.float .f64 x.r.key,.bool x.r.dead,.slice x.a x.n x.c,.int .i64 x.r.wr,.int .i64 x.r.cell,.int .i64 x.r.no] 39)).heap[w.heap.size]? = some (.cells #[.float .f64 x.r.key,.bool x.r.dead,.slice x.a x.n x.c,.int .i64 x.r.wr,.int .i64 x.r.cell,.int .i64 x.r.no] 39):=heap_alloc_new w _;rw [Addr.add_lit,cell_of_row _ _ _ _ _ _ hb];simpa [Zav,Rx.cells] using hj
theorem Rz.src {c:Nat}{l:List Rx}(h:Rz w a m l)(h0:a=none→m=0∧c=0):Src prog 6 49 (.slice a m c) m (Zav l) w:=by
 cases a with
 | none =>
  obtain⟨rfl,rfl⟩:=h0 rfl;have hl:l=[]:=List.eq_nil_of_length_eq_zero h.len;subst hl;exact Src.ofNil w underlying49 0
 | some ad =>
  refine Src.ofSlice _ underlying49 ad m c (Zav l) (by rw [Zbs,h.len]) (fun j u hj=>?_) (Zbt _);have ab:j<l.length*6:=by
   have:=(List.getElem?_eq_some_iff.1 hj).1;rwa [Zbs] at this
  (have hq:j / 6<m:=by rw [← h.len];omega);obtain⟨b,off,ha,aa⟩:=h.at' (j / 6) hq;cases ha;have hg:=Zcx l (j / 6) (j % 6) (by rw [h.len];exact hq) (Nat.mod_lt _ (by decide));rw [show j / 6*6+j % 6=j by omega] at hg;rw [hg] at hj;rw [Addr.add_lit];(have hm:j % 6=0∨j % 6=1∨j % 6=2∨j % 6=3∨j % 6=4∨j % 6=5:=by omega);rcases hm with e | e | e | e | e | e <;> rw [e] at hj <;> simp only [Rx.cells,List.getElem?_cons_zero,List.getElem?_cons_succ,Option.some.injEq] at hj <;> subst hj
  · rw [show off+j=off+j / 6*6 by omega];exact aa.c0
  · rw [show off+j=off+j / 6*6+1 by omega];exact aa.c1
  · rw [show off+j=off+j / 6*6+2 by omega];exact aa.c2
  · rw [show off+j=off+j / 6*6+3 by omega];exact aa.c3
  · rw [show off+j=off+j / 6*6+4 by omega];exact aa.c4
  · rw [show off+j=off+j / 6*6+5 by omega];exact aa.c5
theorem Rq.app {l:List Rx}(h:Rq w0 w s l){v:Value}{k:List Rx}(af:Src prog 6 49 v m (Zav k) w)(hk:k.length=m)(hc:∀x∈k,ColR w0 w x)(hf:∀x∈k,x.r.fits)(hl:l.length+k.length≤1000000) :
    ∃s' W,(∀ty,(Builtin.append_ #[49,49] ty #[s.val,v]).run prog w=.ok s'.val W)∧Rq w0 W s' (l ++ k)∧Frm (fun k=>s.blk=some k) w W:=by
  obtain⟨s',W,ae,ho,ah,ad,ag⟩:=Zaz underlying49 Zmc rfl (by decide) _ s (Zav l) h.own (Zbt l) v m (Zav k) af (by rw [← h.len,← hk];exact hl) 0;have ac:∀y,ColR w0 w y→ColR w0 W y:=by
   intro y hy;have aa:∀b off,y.a=some ⟨b,off,none⟩→0<y.n→W.heap[b]? = w.heap[b]?:=by
    intro b off ha hn;obtain⟨b',off',ha',hc,_,_⟩:=hy.fs.at 0 hn;rw [ha'] at ha;cases ha;refine ad.block b (World.block_lt_of_cell? _ _ hc) ?_;intro e;rcases hy.home b off ha' hn with k | ⟨C,fr,k⟩
    · have:=h.new b e;omega
    · obtain⟨cur,ab⟩:=h.own.kind e;rw [k] at ab;simp only [Option.some.injEq,Obj.cells.injEq] at ab;exact absurd ab.2.1 (by decide)
   refine⟨hy.fs.same aa,fun b off ha hn=>?_⟩;rcases hy.home b off ha hn with k | ⟨C,fr,k⟩
   · exact .inl k
   · exact .inr ⟨C,fr,(aa b off ha hn).trans k⟩
  refine⟨s',W,fun ty=>ae,⟨by rw [Zgn];exact ho,fun k e=>?_,?_,fun y hy=>?_,fun y hy=>?_⟩,ad⟩
  · rcases ag with e' | ⟨e',_⟩
    · exact h.new k (by rw [← e'];exact e)
    · rw [e'] at e;cases e;exact h.below.size
  · exact h.below.trans (ad.below h.below.size (fun k e=>h.new k e))
  · rcases List.mem_append.1 hy with hy | hy
    · exact ac y (h.cols y hy)
    · exact ac y (hc y hy)
  · rcases List.mem_append.1 hy with hy | hy
    · exact h.fits y hy
    · exact hf y hy
theorem Rq.one {l:List Rx}(h:Rq w0 w s l)(x:Rx)(hx:ColR w0 w x)(hf:x.r.fits)(hl:l.length+1≤1000000) :
    ∃s' W,(∀ty,(Builtin.append_ #[49,49] ty #[s.val,.slice (some ⟨w.heap.size,0,none⟩) 1 1]).run prog (w.alloc (.cells #[.float .f64 x.r.key,.bool x.r.dead,.slice x.a x.n x.c,.int .i64 x.r.wr,.int .i64 x.r.cell,.int .i64 x.r.no] 39))=.ok s'.val W)∧Rq w0 W s' (l ++ [x])∧Frm (fun k=>s.blk=some k) w W:=by
  have hB:=Zab w (.cells #[.float .f64 x.r.key,.bool x.r.dead,.slice x.a x.n x.c,.int .i64 x.r.wr,.int .i64 x.r.cell,.int .i64 x.r.no] 39);obtain⟨s',W,aa,hq,ab⟩:=(h.keep hB).app (Zpe w x) rfl (fun y hy=>by rw [List.mem_singleton.1 hy];exact hx.keep hB) (fun y hy=>by rw [List.mem_singleton.1 hy];exact hf) hl;exact⟨s',W,aa,hq,(Frm.ofBelow hB).trans ab (fun i _ h=>h)⟩
abbrev Bt:=Int × Int
def btV (x:Bt):Value:=.agg #[.int .i64 x.1,.int .i64 x.2]
def Zba (l:List Bt):List Value:=l.flatMap fun x=>[.int .i64 x.1,.int .i64 x.2]
theorem Zf7:∀l:List Bt,(Zba l).length=l.length*2
 | []=>rfl
 | x :: l=>by
  have e:Zba (x :: l)=[.int .i64 x.1,.int .i64 x.2] ++ Zba l:=rfl
  rw [e,List.length_append,Zf7 l,List.length_cons]
  simp only [List.length_cons,List.length_nil]
  omega
theorem Zgp (l m:List Bt):Zba (l ++ m)=Zba l ++ Zba m:=by simp [Zba]
theorem Zf8 (l:List Bt):∀u∈Zba l,u.oneCell'=true:=by
 intro u hu;obtain⟨x,_,hx⟩:=List.mem_flatMap.1 hu;simp only [List.mem_cons,List.not_mem_nil,or_false] at hx;rcases hx with rfl | rfl <;> rfl
theorem Zd9:∀(l:List Bt)(j t:Nat),j<l.length→t<2→(Zba l)[j*2+t]? = ([Value.int .i64 (l.getD j (0,0)).1,Value.int .i64 (l.getD j (0,0)).2]:List Value)[t]?
 | [],j,t,hj,_=>by simp at hj
 | x :: l,0,t,_,ht=>by
  have e:Zba (x :: l)=[.int .i64 x.1,.int .i64 x.2] ++ Zba l:=rfl
  rw [e,Nat.zero_mul,Nat.zero_add,List.getElem?_append_left (by simpa using ht)]
  rfl
 | x :: l,j+1,t,hj,ht=>by
  have e:Zba (x :: l)=[.int .i64 x.1,.int .i64 x.2] ++ Zba l:=rfl
  rw [e,List.getElem?_append_right (by simp only [List.length_cons,List.length_nil];omega)]
  simp only [List.length_cons,List.length_nil]
  rw [show (j+1)*2+t-(0+1+1)=j*2+t by omega]
  exact Zd9 l j t (by simpa using hj) ht
theorem ZqO:(prog.info? 67).map (fun i=>(i.zero,i.size,i.bytes))=some (some (.agg #[.int .i64 0,.int .i64 0]),2,16):=by kernel_rfl
def ZcC (w:World) (s:Sl) (l:List Bt):Prop:=Own 67 2 w s (Zba l)
theorem ZcC.len {l:List Bt}(h:ZcC w s l):l.length=s.len:=by
 have:=h.1;rw [Zf7] at this;omega
theorem ZcC.at {l:List Bt}(h:ZcC w s l)(hj:j<s.len):∃b off,s.a=some ⟨b,off,none⟩∧w.cell? ⟨b,off+j*2,none⟩=some (.int .i64 (l.getD j (0,0)).1)∧w.cell? ⟨b,off+j*2+1,none⟩=some (.int .i64 (l.getD j (0,0)).2):=by
 rcases h.2 with ⟨h0,_⟩ | ⟨g,off,cur,ha,_⟩
 · rw [h0] at hj;exact absurd hj (Nat.not_lt_zero _)
 · (have hl:j<l.length:=by rw [h.len];exact hj);have e0:=Zd9 l j 0 hl (by decide);have e1:=Zd9 l j 1 hl (by decide);have k0:=Own.cell h ha _ _ e0;have k1:=Own.cell h ha _ _ e1;rw [Addr.add_lit] at k0 k1;exact⟨g,off,ha,by simpa using k0,by rw [Nat.add_assoc];simpa using k1⟩
theorem ZcC.new0 (w:World):ZcC (w.alloc (.cells #[] 67)) ⟨some ⟨w.heap.size,0,none⟩,0,0⟩ []:=
 ⟨rfl,.inr ⟨w.heap.size,0,_,rfl,heap_alloc_new w _,by simp,Nat.le_refl _,by simp,rfl⟩⟩
theorem Zr0 (w:World)(x:Bt):Src prog 2 84 (.slice (some ⟨w.heap.size,0,none⟩) 1 1) 1 (Zba [x]) (w.alloc (.cells #[.int .i64 x.1,.int .i64 x.2] 67)):=by
 refine Src.ofSlice _ underlying84 ⟨w.heap.size,0,none⟩ 1 1 (Zba [x]) rfl (fun j u hj=>?_) (Zf8 _);have hb:(w.alloc (.cells #[.int .i64 x.1,.int .i64 x.2] 67)).heap[w.heap.size]? = some (.cells #[.int .i64 x.1,.int .i64 x.2] 67):=heap_alloc_new w _;rw [Addr.add_lit,cell_of_row _ _ _ _ _ _ hb];simpa [Zba] using hj
theorem ZcC.one {l:List Bt}(h:ZcC w s l)(x:Bt)(hl:l.length+1≤1000000) :
    ∃s' W,(∀ty,(Builtin.append_ #[84,84] ty #[s.val,.slice (some ⟨w.heap.size,0,none⟩) 1 1]).run prog (w.alloc (.cells #[.int .i64 x.1,.int .i64 x.2] 67))=.ok s'.val W)∧ZcC W s' (l ++ [x])∧Frm (fun k=>s.blk=some k) w W∧(s'.blk=s.blk∨∀k,s'.blk=some k→w.heap.size≤k):=by
  have hB:=Zab w (.cells #[.int .i64 x.1,.int .i64 x.2] 67);have hk:Own 67 2 (w.alloc (.cells #[.int .i64 x.1,.int .i64 x.2] 67)) s (Zba l):=Own.frame h (fun k hk=>hB.block k (Own.lt h hk));obtain⟨s',W,aa,ho,ad,ac,ab⟩:=Zaz underlying84 ZqO rfl (by decide) _ s (Zba l) hk (Zf8 l) _ 1 (Zba [x]) (Zr0 w x) (by rw [← ZcC.len h];exact hl) 0;refine⟨s',W,fun ty=>aa,by unfold ZcC;rw [Zgp];exact ho,?_,?_⟩
  · exact(Frm.ofBelow hB).trans ac (fun i _ h=>h)
  · rcases ab with e | ⟨e,_⟩
    · exact .inl e
    · refine .inr fun k hk=>?_;rw [e] at hk;cases hk;rw [Zae];omega
theorem ZjX (k:Nat)(d:Bool)(t c n:Int)(w:World):(Instr.build 39 #[(1,.bool d),(0,.float .f64 k),(3,.int .i64 t),(4,.agg #[.int .i64 c,.int .i64 n])]).run prog w=.ok (.agg #[.float .f64 k,.bool d,.slice none 0 0,.int .i64 t,.int .i64 c,.int .i64 n]) w:=by
 simp [go_sem,Instr.build]
theorem Za2 (h:w'.heap[b]? = w.heap[b]?)(o:Nat):w'.cell? ⟨b,o,none⟩=w.cell? ⟨b,o,none⟩:=by
 unfold World.cell?;simp only [h]
theorem Zrq (w0 w:World)(b off N c2:Nat)(h6:6≤N)(y0 y1 y2 y3 y4:It)(af:ItAt w0 b (off+0*4) y0)(ag:ItAt w0 b (off+1*4) y1)(ah:ItAt w0 b (off+2*4) y2)(ai:ItAt w0 b (off+3*4) y3)(aj:ItAt w0 b (off+4*4) y4)(hW:Bl w0 w)
    {Q:Exit→Act→World→Prop}(ae:A.tmps.size=95)(ad:A.defers=[])(s6:A.tmps.getD 6 undef=.slice (some ⟨b,off,none⟩) N c2)
    (hend:∀(u:Nat→Value) w',w'=w.drew.alloc (.cells #[.float .f64 y1.x,.bool (y0.n == 1),.slice none 0 0,.int .i64 y2.n,.int .i64 y3.n,.int .i64 y4.n] 39)→Q .normal ((Pl.pu A u [43,44,45,46,47,48,49,50,51,52,53,54,55,56,57,58,59,60,61,62,63,64,65]).put (some 9) (.pointer (some ⟨w.drew.heap.size,0,none⟩))) w') :
    Pl.rg prog 11 f134 Q A w:=by
  have aa:Bl w0 w.drew:=hW.drew;have hA:=Pl.At.same (v:=.slice (some ⟨b,off,none⟩) N c2) (d:=6) (Pl.At.here ae ad) s6;refine Pl.qb (S:=fun w'=>Bl w0 w') hA aa ?_;rw [show (Pl.fd 11 f134).size=25 by kernel_rfl];refine Pl.q0 0 43 (.slice (some ⟨b,off,none⟩) N c2) (Pl.q1) (Pl.q2 (.tmp 6)) aa ?_;refine Pl.q0 1 44 (.pointer (some ⟨b,off+0*4,none⟩)) (Pl.q1) (Pl.qa 183 (.tmp 43) (.const (.int .i64 0)) (Zau b off N c2 0 (by omega))) aa ?_;refine Pl.q0 2 45 (.pointer (some ⟨b,off+0*4+1,none⟩)) (Pl.q1) (Pl.q6 182 (.tmp 44) 1 (Za4 b (off+0*4) 1 (by decide))) aa ?_;refine Pl.q0 3 46 (.int .i64 y0.n) (Pl.q1) (Pl.q4 3 (.tmp 45) (fun w' hS=>Za8 b (off+0*4+1) _ w' (Zao af hS).2.1)) aa ?_;refine Pl.q0 4 47 (.bool (y0.n == 1)) (Pl.q1) (Pl.qc .eql 3 3 (.tmp 46) (.const (.int .i64 1)) (.int .i64 y0.n) (.int .i64 1) (fun w=>by simp [go_sem,eqGuard])) aa ?_;refine Pl.q0 5 48 (.slice (some ⟨b,off,none⟩) N c2) (Pl.q1) (Pl.q2 (.tmp 6)) aa ?_;refine Pl.q0 6 49 (.pointer (some ⟨b,off+1*4,none⟩)) (Pl.q1) (Pl.qa 183 (.tmp 48) (.const (.int .i64 1)) (Zau b off N c2 1 (by omega))) aa ?_;refine Pl.q0 7 50 (.pointer (some ⟨b,off+1*4+2,none⟩)) (Pl.q1) (Pl.q6 182 (.tmp 49) 2 (Za4 b (off+1*4) 2 (by decide))) aa ?_;refine Pl.q0 8 51 (.float .f64 y1.x) (Pl.q1) (Pl.q4 32 (.tmp 50) (fun w' hS=>ZdH b (off+1*4+2) _ w' (Zao ag hS).2.2.1)) aa ?_;refine Pl.q0 9 52 (.slice (some ⟨b,off,none⟩) N c2) (Pl.q1) (Pl.q2 (.tmp 6)) aa ?_;refine Pl.q0 10 53 (.pointer (some ⟨b,off+2*4,none⟩)) (Pl.q1) (Pl.qa 183 (.tmp 52) (.const (.int .i64 2)) (Zau b off N c2 2 (by omega))) aa ?_;refine Pl.q0 11 54 (.pointer (some ⟨b,off+2*4+1,none⟩)) (Pl.q1) (Pl.q6 182 (.tmp 53) 1 (Za4 b (off+2*4) 1 (by decide))) aa ?_;refine Pl.q0 12 55 (.int .i64 y2.n) (Pl.q1) (Pl.q4 3 (.tmp 54) (fun w' hS=>Za8 b (off+2*4+1) _ w' (Zao ah hS).2.1)) aa ?_;refine Pl.q0 13 56 (.slice (some ⟨b,off,none⟩) N c2) (Pl.q1) (Pl.q2 (.tmp 6)) aa ?_;refine Pl.q0 14 57 (.pointer (some ⟨b,off+3*4,none⟩)) (Pl.q1) (Pl.qa 183 (.tmp 56) (.const (.int .i64 3)) (Zau b off N c2 3 (by omega))) aa ?_;refine Pl.q0 15 58 (.pointer (some ⟨b,off+3*4+1,none⟩)) (Pl.q1) (Pl.q6 182 (.tmp 57) 1 (Za4 b (off+3*4) 1 (by decide))) aa ?_;refine Pl.q0 16 59 (.int .i64 y3.n) (Pl.q1) (Pl.q4 3 (.tmp 58) (fun w' hS=>Za8 b (off+3*4+1) _ w' (Zao ai hS).2.1)) aa ?_;refine Pl.q0 17 60 (.slice (some ⟨b,off,none⟩) N c2) (Pl.q1) (Pl.q2 (.tmp 6)) aa ?_;refine Pl.q0 18 61 (.pointer (some ⟨b,off+4*4,none⟩)) (Pl.q1) (Pl.qa 183 (.tmp 60) (.const (.int .i64 4)) (Zau b off N c2 4 (by omega))) aa ?_;refine Pl.q0 19 62 (.pointer (some ⟨b,off+4*4+1,none⟩)) (Pl.q1) (Pl.q6 182 (.tmp 61) 1 (Za4 b (off+4*4) 1 (by decide))) aa ?_;refine Pl.q0 20 63 (.int .i64 y4.n) (Pl.q1) (Pl.q4 3 (.tmp 62) (fun w' hS=>Za8 b (off+4*4+1) _ w' (Zao aj hS).2.1)) aa ?_;refine Pl.q0 21 64 (.agg #[.int .i64 y3.n,.int .i64 y4.n]) (Pl.q1) (Pl.q_39 37 [(0,(.tmp 59)),(1,(.tmp 63))] (fun w=>Zfz y3.n y4.n w)) aa ?_;refine Pl.q0 22 65 (.agg #[.float .f64 y1.x,.bool (y0.n == 1),.slice none 0 0,.int .i64 y2.n,.int .i64 y3.n,.int .i64 y4.n]) (Pl.q1) (Pl.q_39 39 [(1,(.tmp 47)),(0,(.tmp 51)),(3,(.tmp 55)),(4,(.tmp 64))] (fun w=>ZjX y1.x (y0.n == 1) y2.n y3.n y4.n w)) aa ?_;have ab:Bl w0 (w.drew.alloc (.cells #[.float .f64 0,.bool false,.slice none 0 0,.int .i64 0,.int .i64 0,.int .i64 0] 39)):=aa.alloc aa.size _;refine Pl.qf 23 9 (.pointer (some ⟨w.drew.heap.size,0,none⟩)) (w.drew.alloc (.cells #[.float .f64 0,.bool false,.slice none 0 0,.int .i64 0,.int .i64 0,.int .i64 0] 39)) (Pl.q1) (Pl.qx 39 (ZgN w.drew)) ab ?_;have ac:Bl w0 (w.drew.alloc (.cells #[.float .f64 y1.x,.bool (y0.n == 1),.slice none 0 0,.int .i64 y2.n,.int .i64 y3.n,.int .i64 y4.n] 39)):=aa.alloc aa.size _;refine Pl.ql 24 (w.drew.alloc (.cells #[.float .f64 y1.x,.bool (y0.n == 1),.slice none 0 0,.int .i64 y2.n,.int .i64 y3.n,.int .i64 y4.n] 39)) (Pl.q1) (Pl.qm 39 (.tmp 9) (.tmp 65) (Zcq y1.x (y0.n == 1) none 0 0 y2.n y3.n y4.n w.drew)) ac ?_;refine Pl.q8 (fun A' hA'=>?_);exact Pl.en hA' hA [43,44,45,46,47,48,49,50,51,52,53,54,55,56,57,58,59,60,61,62,63,64,65,9] (hend hA'.fn _ rfl)
theorem Zrr (W0 w:World)(B p:Nat)(R:Rw)(v:Value)(us:List Value)(hW:Below B W0 w)(hp:B≤p)(hB:B≤w.heap.size)(al:RwBlk w p R v)(ho:OwnsV 32 w B v us)(hl:us.length≤1000)(b off N c2 k:Nat)(y:It)(C0:Array Value)(fr0:Nat × Nat)(hk:k<N)(am:w.heap[b]? = some (Obj.cells C0 182 fr0))(aw:b≠p)(ay:ItAt w b (off+k*4) y)
    {Q:Exit→Act→World→Prop}(bb:A.tmps.size=95)(ax:A.defers=[])(s6:A.tmps.getD 6 undef=.slice (some ⟨b,off,none⟩) N c2)(s9:A.tmps.getD 9 undef=.pointer (some ⟨p,0,none⟩))(s10:A.tmps.getD 10 undef=.int .i64 (k:Nat))
    (hend:∀(u:Nat→Value) w' v',ZoG W0 w w' B p R v' (us ++ [.float .f64 y.x])→Q .normal (Pl.pu A u [72,74,75,76,77,78,73,79,80,81]) w') :
    Pl.rg prog 15 f134 Q A w:=by
  have ae:=ho.form;have au:RwBlk w.drew p R v:=al;have az:OwnsV 32 w.drew B v us:=ho;have ap:Below B W0 w.drew:=hW.drew;have ac:=Zab w.drew (.cells #[.float .f64 y.x] 32);have aq:Below B W0 (w.drew.alloc (.cells #[.float .f64 y.x] 32)):=ap.alloc hB _;have ak:RwBlk (w.drew.alloc (.cells #[.float .f64 y.x] 32)) p R v:=au.keep ac;have ba:=az.keep ac (Nat.le_refl _);have bc:=ZjQ 32 w.drew (.float .f64 y.x) rfl;obtain⟨v2,w2,ah,an,av,ag⟩:=Zcl Zm0 (w.drew.alloc (.cells #[.float .f64 y.x] 32)) 35 B v us ba (some ⟨w.drew.heap.size,0,none⟩) 1 1 [.float .f64 y.x] bc (fun h=>by cases h) (by omega) (Nat.le_trans hB ac.size);have ar:Below B W0 w2:=aq.trans av;have aa:RwBlk w2 p R v:=(ag p _ _ _ ak (by decide)).trans ak;have ab:=ZlC (w:=w) (W0:=W0) ar hp aa an (fun k C t fr hk ht=>(ag k C t fr ((ac.block k (Array.getElem?_eq_some_iff.1 hk).1).trans hk) ht).trans (ac.block k (Array.getElem?_eq_some_iff.1 hk).1)) (Nat.le_trans ac.size av.size);have af:b<w.drew.heap.size:=(Array.getElem?_eq_some_iff.1 am).1;have ad:(fun w'=>Below B W0 w'∧w'.heap[b]? = w.heap[b]?) w.drew:=⟨ap,rfl⟩;have aj:(fun w'=>Below B W0 w'∧w'.heap[b]? = w.heap[b]?) (w.drew.alloc (.cells #[.float .f64 y.x] 32)):=⟨aq,ac.block b af⟩;have ai:(fun w'=>Below B W0 w'∧w'.heap[b]? = w.heap[b]?) w2:=⟨ar,(ag b _ _ _ ((ac.block b af).trans am) (by decide)).trans (ac.block b af)⟩;have ao:(fun w'=>Below B W0 w'∧w'.heap[b]? = w.heap[b]?) (w2.setCell ⟨p,2,none⟩ v2):=⟨ab.below,ab.stay b _ _ _ am (by decide) aw⟩;have hA:=Pl.At.same (v:=.int .i64 (k:Nat)) (d:=10) (Pl.At.same (v:=.pointer (some ⟨p,0,none⟩)) (d:=9) (Pl.At.same (v:=.slice (some ⟨b,off,none⟩) N c2) (d:=6) (Pl.At.here bb ax) s6) s9) s10;refine Pl.qb (S:=fun w'=>Below B W0 w'∧w'.heap[b]? = w.heap[b]?) hA ad ?_;rw [show (Pl.fd 15 f134).size=11 by kernel_rfl];refine Pl.q0 0 72 (.pointer (some ⟨p,2,none⟩)) (Pl.q1) (Pl.q6 39 (.tmp 9) 2 (ZaL p)) ad ?_;refine Pl.q0 2 74 (.slice (some ⟨b,off,none⟩) N c2) (Pl.q1) (Pl.q2 (.tmp 6)) ad ?_;refine Pl.q0 3 75 (.int .i64 (k:Nat)) (Pl.q1) (Pl.q2 (.tmp 10)) ad ?_;refine Pl.q0 4 76 (.pointer (some ⟨b,off+k*4,none⟩)) (Pl.q1) (Pl.qa 183 (.tmp 74) (.tmp 75) (Zau b off N c2 k hk)) ad ?_;refine Pl.q0 5 77 (.pointer (some ⟨b,off+k*4+2,none⟩)) (Pl.q1) (Pl.q6 182 (.tmp 76) 2 (Za4 b (off+k*4) 2 (by decide))) ad ?_;refine Pl.q0 6 78 (.float .f64 y.x) (Pl.q1) (Pl.q4 32 (.tmp 77) (fun w' hS=>ZdH b (off+k*4+2) _ w' ((Za2 hS.2 _).trans ay.2.2.1))) ad ?_;refine Pl.qs 1 7 ?_ ?_
  · refine Pl.qj 1 73 v w.drew (Pl.q_49 35 (.tmp 72) (Zh1 p 2 v ae w.drew au.c2)) ad ?_;refine Pl.q_45 7 ?_;refine Pl.qj 7 79 (.slice (some ⟨w.drew.heap.size,0,none⟩) 1 1) (w.drew.alloc (.cells #[.float .f64 y.x] 32)) (Pl.qu 35 (.tmp 78) (ZgS y.x w.drew)) aj ?_;refine Pl.qf 8 80 v2 w2 (Pl.q1) (Pl.q_50 35 35 (.tmp 73) (.tmp 79) ah) ai ?_;refine Pl.q0 9 81 (.pointer (some ⟨p,2,none⟩)) (Pl.q1) (Pl.q6 39 (.tmp 9) 2 (ZaL p)) ai ?_;refine Pl.ql 10 (w2.setCell ⟨p,2,none⟩ v2) (Pl.q1) (Pl.qm 35 (.tmp 81) (.tmp 80) (Zgb p 2 v2 v an.form w2 aa.c2 (aa.fz 2))) ao ?_;refine Pl.q8 (fun A' hA'=>?_);exact Pl.en hA' hA [72,74,75,76,77,78,73,79,80,81] (hend hA'.fn _ _ ab)
  · refine Pl.qj 7 79 (.slice (some ⟨w.drew.heap.size,0,none⟩) 1 1) (w.drew.alloc (.cells #[.float .f64 y.x] 32)) (Pl.qu 35 (.tmp 78) (ZgS y.x w.drew)) aj ?_;refine Pl.q_45 1 ?_;refine Pl.qj 1 73 v (w.drew.alloc (.cells #[.float .f64 y.x] 32)) (Pl.q_49 35 (.tmp 72) (Zh1 p 2 v ae (w.drew.alloc (.cells #[.float .f64 y.x] 32)) ak.c2)) aj ?_;rw [Pl.qg 79 73];refine Pl.qf 8 80 v2 w2 (Pl.q1) (Pl.q_50 35 35 (.tmp 73) (.tmp 79) ah) ai ?_;refine Pl.q0 9 81 (.pointer (some ⟨p,2,none⟩)) (Pl.q1) (Pl.q6 39 (.tmp 9) 2 (ZaL p)) ai ?_;refine Pl.ql 10 (w2.setCell ⟨p,2,none⟩ v2) (Pl.q1) (Pl.qm 35 (.tmp 81) (.tmp 80) (Zgb p 2 v2 v an.form w2 aa.c2 (aa.fz 2))) ao ?_;refine Pl.q8 (fun A' hA'=>?_);exact Pl.en hA' hA [72,74,75,76,77,78,73,79,80,81] (hend hA'.fn _ _ ab)
theorem ZpZ (w0 w:World)(p:Nat)(X:Rw)(a:Option Addr)(len cap:Nat)(hx:RwBlk w0 p X (.slice a len cap))(ae:Fs w0 a len cap X.xs)(hf:X.fits)(pa:Option Addr)(pl pc:Nat)(xs:List Nat)(hc:Came w0 pa pl pc xs)(hm:X.may=false)(hW:Bl w0 w)
    {Q:Exit→Act→World→Prop}(af:A.tmps.size=95)(ad:A.defers=[])(s0:A.tmps.getD 0 undef=.slice pa pl pc)(s9:A.tmps.getD 9 undef=.pointer (some ⟨p,0,none⟩))
    (hend:∀(u:Nat→Value) w',Bl w0 w'→Q .normal ((Pl.pu A u [82,83,84,85,86,87,88,89,90,91]).put (some 92) (.bool true)) w') :
    Pl.rg prog 16 f134 Q A w:=by
  have ab:Bl w0 w.drew:=hW.drew;have hA:=Pl.At.same (v:=.pointer (some ⟨p,0,none⟩)) (d:=9) (Pl.At.same (v:=.slice pa pl pc) (d:=0) (Pl.At.here af ad) s0) s9;refine Pl.qb (S:=fun w'=>Bl w0 w') hA ab ?_;rw [show (Pl.fd 16 f134).size=11 by kernel_rfl];refine Pl.q0 0 82 (X.val (.slice a len cap)) (Pl.q1) (Pl.q4 39 (.tmp 9) (fun w' hS=>ZbU p X (.slice a len cap) ⟨_,_,_,rfl⟩ w' (hx.keep hS))) ab ?_;refine Pl.qe 1 83 60 [(.tmp 82)] #[39] (Pl.q1) Zgt (Calls.mono (Zdn X false hm a len cap w.drew (ae.keep ab (Nat.le_refl _)) hf) ?_);rintro e w1 ⟨rfl,ac⟩;have aa:=ab.trans (ac.mono ab.size);refine⟨.bool false,rfl,aa,?_⟩;refine Pl.q0 2 84 (.bool true) (Pl.q1) (Pl.qv 4 (.tmp 83) false) aa ?_;refine Pl.q0 3 85 (.bool true) (Pl.q1) (Pl.q2 (.tmp 84)) aa ?_;refine Pl.q5 4 86 (Pl.q7 3 85 false) aa ?_;refine Pl.q5 5 87 (Pl.q7 3 85 false) aa ?_;refine Pl.q5 6 88 (Pl.q7 3 85 false) aa ?_;refine Pl.q5 7 89 (Pl.q7 3 85 false) aa ?_;refine Pl.q5 8 90 (Pl.q7 3 85 false) aa ?_;refine Pl.q5 9 91 (Pl.q7 3 85 false) aa ?_;refine Pl.q0 10 92 (.bool true) (Pl.q1) (Pl.qp (.tmp 85) (.const (.bool true)) (.tmp 91)) aa ?_;refine Pl.q8 (fun A' hA'=>?_);exact Pl.en hA' hA [82,83,84,85,86,87,88,89,90,91,92] (hend hA'.fn _ aa)
theorem Zqa (w0 w:World)(p:Nat)(X:Rw)(a:Option Addr)(len cap:Nat)(hx:RwBlk w0 p X (.slice a len cap))(ae:Fs w0 a len cap X.xs)(hf:X.fits)(pa:Option Addr)(pl pc:Nat)(xs:List Nat)(hc:Came w0 pa pl pc xs)(hm:X.may=true)(ai:¬(bstr X.bytes).toList=(bstr xs).toList)(hW:Bl w0 w)
    {Q:Exit→Act→World→Prop}(ak:A.tmps.size=95)(ah:A.defers=[])(s0:A.tmps.getD 0 undef=.slice pa pl pc)(s9:A.tmps.getD 9 undef=.pointer (some ⟨p,0,none⟩))
    (hend:∀(u:Nat→Value) w',Bl w0 w'→Q .normal ((Pl.pu A u [82,83,84,85,86,89,90,87,88,91]).put (some 92) (.bool true)) w') :
    Pl.rg prog 16 f134 Q A w:=by
  have ab:Bl w0 w.drew:=hW.drew;have hA:=Pl.At.same (v:=.pointer (some ⟨p,0,none⟩)) (d:=9) (Pl.At.same (v:=.slice pa pl pc) (d:=0) (Pl.At.here ak ah) s0) s9;refine Pl.qb (S:=fun w'=>Bl w0 w') hA ab ?_;rw [show (Pl.fd 16 f134).size=11 by kernel_rfl];refine Pl.q0 0 82 (X.val (.slice a len cap)) (Pl.q1) (Pl.q4 39 (.tmp 9) (fun w' hS=>ZbU p X (.slice a len cap) ⟨_,_,_,rfl⟩ w' (hx.keep hS))) ab ?_;refine Pl.qe 1 83 60 [(.tmp 82)] #[39] (Pl.q1) Zgt (Calls.mono (Zdn X true hm a len cap w.drew (ae.keep ab (Nat.le_refl _)) hf) ?_);rintro e w1 ⟨rfl,af⟩;have aa:=ab.trans (af.mono ab.size);refine⟨.bool true,rfl,aa,?_⟩;refine Pl.q0 2 84 (.bool false) (Pl.q1) (Pl.qv 4 (.tmp 83) true) aa ?_;refine Pl.q0 3 85 (.bool false) (Pl.q1) (Pl.q2 (.tmp 84)) aa ?_;refine Pl.q0 4 86 (X.val (.slice a len cap)) (Pl.q3 3 85 false) (Pl.q4 39 (.tmp 9) (fun w' hS=>ZbU p X (.slice a len cap) ⟨_,_,_,rfl⟩ w' (hx.keep hS))) aa ?_;refine Pl.q0 7 89 (.slice pa pl pc) (Pl.q3 3 85 false) (Pl.q2 (.tmp 0)) aa ?_;refine Pl.q0 8 90 (.string (bstr xs)) (Pl.q3 3 85 false) (Pl.q_47 107 9 (.tmp 89) (.slice pa pl pc) (fun w' hS=>Zam pc (hc.bs.keep hS (Nat.le_refl _)))) aa ?_;refine Pl.qe 5 87 102 [(.tmp 86)] #[39] (Pl.q3 3 85 false) Zhf (Calls.mono (Zck X a len cap w1 (ae.keep aa (Nat.le_refl _)) hf hm) ?_);rintro e w2 ⟨v2,rfl,aj,ag⟩;have ac:=aa.trans (ag.mono aa.size);obtain⟨ba,bc,rfl,ad,_⟩:=aj.bs (ZbN hm);refine⟨.slice ba X.bytes.length bc,rfl,ac,?_⟩;refine Pl.qw 6 88 (.string (bstr X.bytes)) (Pl.q3 3 85 false) (Pl.q_48 107 9 (.tmp 87) (Zam bc ad)) ac ?_;refine Pl.q0 9 91 (.bool true) (Pl.q3 3 85 false) (Pl.qc .neq 9 9 (.tmp 88) (.tmp 90) (.string (bstr X.bytes)) (.string (bstr xs)) (fun w=>by simp [go_sem,eqGuard,ai])) ac ?_;refine Pl.q0 10 92 (.bool true) (Pl.q1) (Pl.qk (.tmp 85) (.const (.bool true)) (.tmp 91)) ac ?_;refine Pl.q8 (fun A' hA'=>?_);exact Pl.en hA' hA [82,83,84,85,86,89,90,87,88,91,92] (hend hA'.fn _ ac)
theorem Zqb (w0 w:World)(p:Nat)(X:Rw)(a:Option Addr)(len cap:Nat)(hx:RwBlk w0 p X (.slice a len cap))(ae:Fs w0 a len cap X.xs)(hf:X.fits)(pa:Option Addr)(pl pc:Nat)(xs:List Nat)(hc:Came w0 pa pl pc xs)(hm:X.may=true)(ah:X.bytes=xs)(hW:Bl w0 w)
    {Q:Exit→Act→World→Prop}(ak:A.tmps.size=95)(ai:A.defers=[])(s0:A.tmps.getD 0 undef=.slice pa pl pc)(s9:A.tmps.getD 9 undef=.pointer (some ⟨p,0,none⟩))
    (hend:∀(u:Nat→Value) w',Bl w0 w'→Q .normal ((Pl.pu A u [82,83,84,85,86,89,90,87,88,91]).put (some 92) (.bool false)) w') :
    Pl.rg prog 16 f134 Q A w:=by
  have ab:Bl w0 w.drew:=hW.drew;have hA:=Pl.At.same (v:=.pointer (some ⟨p,0,none⟩)) (d:=9) (Pl.At.same (v:=.slice pa pl pc) (d:=0) (Pl.At.here ak ai) s0) s9;refine Pl.qb (S:=fun w'=>Bl w0 w') hA ab ?_;rw [show (Pl.fd 16 f134).size=11 by kernel_rfl];refine Pl.q0 0 82 (X.val (.slice a len cap)) (Pl.q1) (Pl.q4 39 (.tmp 9) (fun w' hS=>ZbU p X (.slice a len cap) ⟨_,_,_,rfl⟩ w' (hx.keep hS))) ab ?_;refine Pl.qe 1 83 60 [(.tmp 82)] #[39] (Pl.q1) Zgt (Calls.mono (Zdn X true hm a len cap w.drew (ae.keep ab (Nat.le_refl _)) hf) ?_);rintro e w1 ⟨rfl,af⟩;have aa:=ab.trans (af.mono ab.size);refine⟨.bool true,rfl,aa,?_⟩;refine Pl.q0 2 84 (.bool false) (Pl.q1) (Pl.qv 4 (.tmp 83) true) aa ?_;refine Pl.q0 3 85 (.bool false) (Pl.q1) (Pl.q2 (.tmp 84)) aa ?_;refine Pl.q0 4 86 (X.val (.slice a len cap)) (Pl.q3 3 85 false) (Pl.q4 39 (.tmp 9) (fun w' hS=>ZbU p X (.slice a len cap) ⟨_,_,_,rfl⟩ w' (hx.keep hS))) aa ?_;refine Pl.q0 7 89 (.slice pa pl pc) (Pl.q3 3 85 false) (Pl.q2 (.tmp 0)) aa ?_;refine Pl.q0 8 90 (.string (bstr xs)) (Pl.q3 3 85 false) (Pl.q_47 107 9 (.tmp 89) (.slice pa pl pc) (fun w' hS=>Zam pc (hc.bs.keep hS (Nat.le_refl _)))) aa ?_;refine Pl.qe 5 87 102 [(.tmp 86)] #[39] (Pl.q3 3 85 false) Zhf (Calls.mono (Zck X a len cap w1 (ae.keep aa (Nat.le_refl _)) hf hm) ?_);rintro e w2 ⟨v2,rfl,aj,ag⟩;have ac:=aa.trans (ag.mono aa.size);obtain⟨ba,bc,rfl,ad,_⟩:=aj.bs (ZbN hm);refine⟨.slice ba X.bytes.length bc,rfl,ac,?_⟩;refine Pl.qw 6 88 (.string (bstr xs)) (Pl.q3 3 85 false) (Pl.q_48 107 9 (.tmp 87) (by rw [← ah];exact Zam bc ad)) ac ?_;refine Pl.q0 9 91 (.bool false) (Pl.q3 3 85 false) (Pl.qc .neq 9 9 (.tmp 88) (.tmp 90) (.string (bstr xs)) (.string (bstr xs)) (fun w=>by simp [go_sem,eqGuard])) ac ?_;refine Pl.q0 10 92 (.bool false) (Pl.q1) (Pl.qk (.tmp 85) (.const (.bool true)) (.tmp 91)) ac ?_;refine Pl.q8 (fun A' hA'=>?_);exact Pl.en hA' hA [82,83,84,85,86,89,90,87,88,91,92] (hend hA'.fn _ ac)
def Zd2 (xs:List Nat) (w:World) (e:Ending) (w':World):Prop:=
  Bl w w'∧(decB xs=none→e=.returned (.tuple #[Zd1,.bool false])) ∧
    (∀r,decB xs=some r→r.fits∧∃a len cap,e=.returned (.tuple #[r.val (.slice a len cap),.bool true])∧Fs w' a len cap r.xs∧OwnsV 32 w' w.heap.size (.slice a len cap) (fVals r.xs))
theorem Zd2.no (hd:decB xs=none)(hb:Bl w w'):Zd2 xs w (.returned (.tuple #[Zd1,.bool false])) w':=
 ⟨hb,fun _=>rfl,fun r h=>by rw [hd] at h;cases h⟩
theorem Zk4 (n:Nat):∀t,t<(headK ++ List.replicate n (4:Int)).length→1≤(headK ++ List.replicate n (4:Int)).getD t 0∧(headK ++ List.replicate n (4:Int)).getD t 0≤5:=by
 intro t ht;have aa:(headK ++ List.replicate n (4:Int)).getD t 0∈headK ++ List.replicate n (4:Int):=by
  simp only [List.getD,List.getElem?_eq_getElem ht,Option.getD_some];exact List.getElem_mem ht
 rcases List.mem_append.1 aa with h | h
 · exact Zdc _ h
 · rw [(List.mem_replicate.1 h).2];decide
theorem Zk5 (k:Nat):kVals (headK ++ List.replicate (k+1) 4)=kVals (headK ++ List.replicate k 4) ++ [.int .i64 4]:=by
 rw [List.replicate_succ',← List.append_assoc];simp [kVals]
theorem ZgH (a:Option Addr)(len cap:Nat)(xs:List Nat)(w:World)(h:Came w a len cap xs)(ef:20≤len)(h4:xs.getD 19 0≤4)(hl:len≤100000) :
    Calls prog 134 #[.slice a len cap] w (Zd2 xs w):=by
  have ej:∀(w:World) (a:Addr) (m:Mode) (x:Nat),(store a (.float .f64 x) m).run prog w=stored prog w a (.float .f64 x) m:=fun w a m x=>run_store prog w a _ m rfl;have HZ:Hi (RwBlk (w.alloc (.cells #[.float .f64 0,.bool false,.slice none 0 0,.int .i64 0,.int .i64 0,.int .i64 0] 39)) w.heap.size zeroR (.slice none 0 0)):=Zai w zeroR (.slice none 0 0);have HW:=Zh (Zab w (.cells #[.float .f64 0,.bool false,.slice none 0 0,.int .i64 0,.int .i64 0,.int .i64 0] 39));have H:=Zh h;have bz:=Zh h.bs.2.1;have ee:=Zh h.bs.1;have ax:=Zh (ZnC h.bs.2.1);have ay:Hi (∀{L Q},_→_):=@ZnD xs h.bs.2.1;(have i1:¬(len:Int)<20:=by omega);obtain⟨W1,au⟩:∃W1,W1=w.alloc (.cells #[.float .f64 0,.bool false,.slice none 0 0,.int .i64 0,.int .i64 0,.int .i64 0] 39):=⟨_,rfl⟩;(have aj:W1.heap.size=w.heap.size+1:=by rw [au];simp);rw [← au] at HZ HW;obtain⟨b,off,rfl,c19⟩:=(h.bs.keep HW.o (Nat.le_refl _)).2.2 19 (by omega);obtain⟨n,hn⟩:∃n,n=xs.getD 19 0:=⟨_,rfl⟩;rw [← hn] at c19 h4 ax ay;have ed:=Zh hn;(have i2:¬(4:Int)<(n:Int):=by omega);(have eb:IntKind.i64.wrap (n:Int)=(n:Int):=by rw [IntKind.wrap_i64];omega);have aw:=Zh c19;have bp:Hi (OwnsV 3 (W1.alloc (.cells #[.int .i64 1,.int .i64 4,.int .i64 3,.int .i64 2,.int .i64 3,.int .i64 1] 3)) W1.heap.size (.slice (some ⟨w.heap.size+1,0,none⟩) 6 6) (kVals (headK ++ List.replicate 0 4))):=by
   have:=OwnsV.lit 3 W1 W1.heap.size (kVals headK) (Nat.le_refl _) (by decide);rw [aj] at this;rw [aj];exact this
  have bq:=Zh (Zab W1 (.cells #[.int .i64 1,.int .i64 4,.int .i64 3,.int .i64 2,.int .i64 3,.int .i64 1] 3));rw [au] at c19;have bv:=Zh au;have ds:=Zh aj;rw [au] at bp bq;clear h hn au aj;go_enter func134,ntmps134;go_wp2_with fail;rw [← bv.o] at bp bq ⊢;clear c19;go_loopw [4,5] (fun v i wr=>∃k:Nat,k≤n∧i=.int .i64 k∧Hi (OwnsV 3 wr W1.heap.size v (kVals (headK ++ List.replicate k 4)))∧Hi (Bl W1 wr)) (fun _ i _=>n-(intOf i).toNat)
  case atStart=>exact ⟨0,by omega,rfl,bp,bq⟩
  case round =>
   obtain⟨k,hk,rfl,aq,bc⟩:=hrel;have d19:wr.cell? ⟨b,off+19,none⟩=some (.int .u8 (n:Nat)):=(bc.o.cell (World.block_lt_of_cell? W1 _ aw.o)).trans aw.o;rcases Nat.lt_or_ge k n with bk | dy
   · have dp:=Zh (aq.o.keep (Zab wr (.cells #[.int .i64 4] 3)) (Nat.le_refl _));have cs:=Zh (bc.o.trans ((Zab wr (.cells #[.int .i64 4] 3)).mono bc.o.size));have HV:=Zh (ZjQ 3 wr (.int .i64 4) rfl);(have ao:Hi ((kVals (headK ++ List.replicate k 4)).length+1≤1000000):=by show _≤_;simp [kVals,headK];omega);go_wp2_with (at_builtin;refine ZaJ ZjD _ rfl (.tmp 30) (.tmp 31) rfl W1.heap.size _ _ rfl dp.o _ _ _ [.int .i64 4] rfl HV.o (fun h=>by cases h) ao.o cs.o.size ?_);intro v6 w6 df cy _;have dn:=Zh df;have dj:=Zh (cs.o.trans cy);clear df cy d19;go_wp2;go_roundw
     case rel =>
      refine⟨k+1,by omega,by go_num,?_,dj⟩;rw [Zk5];exact dn
     case measure=>simp only [intOf];omega
   · (have db:k=n:=by omega);have al:OwnsV 3 wr W1.heap.size u4 (kVals (headK ++ List.replicate n 4)):=by
      have:=aq.o;rw [db] at this;exact this
     obtain⟨ka,kc,dc,cl,_⟩:=al.vs (Zhv _);(have bj:(kVals (headK ++ List.replicate n 4)).length=6+n:=by simp [kVals,headK];omega);rw [bj] at dc cl;subst dc;have bx:=Zh (HW.o.trans (bc.o.mono HW.o.size));have cu:=Zh (HZ.o.keep bc.o);obtain⟨K,hK⟩:∃K,K=headK ++ List.replicate n 4:=⟨_,rfl⟩;have hT:=ZiH _ len cap xs ka (6+n) kc K wr (H.o.keep bx.o (Nat.le_refl _)) (by rw [hK];exact Zj5 cl) hl (by omega);unfold ZaS at hT;rw [ZbZ (by rw [hK];exact Zk4 n)] at hT;rw [← hK] at ax ay;have HT:=Zh hT;have ei:∀k∈K,1≤k∧k≤5:=by
      rw [hK];intro k hk;rcases List.mem_append.1 hk with h | h
      · exact Zdc k h
      · rw [(List.mem_replicate.1 h).2];decide
     obtain⟨N,hN⟩:∃N,N=6+n:=⟨_,rfl⟩;rw [← hN] at HT ⊢;have br:=Zh hN;clear db al aq cl bj hT hK hN;cases hT1:tks xs K [] 0 with
     | none =>
      have az:=Zh (ax.o hT1);rw [hT1] at HT;simp only at HT;clear hT1 ay ax;go_wp2_with fail;refine HT.o.mono ?_;rintro e w2 ⟨v2,rfl,ap,_,_⟩;have bw:=Zh (Zac bx.o ap);have ag:=Zh (cu.o.keep ap);have z0:=ag.o.c0;have z1:=ag.o.c1;have z2:=ag.o.c2;have z3:=ag.o.c3;have z4:=ag.o.c4;have z5:=ag.o.c5;have f0:=ag.o.fz;simp only [zeroR] at z0 z1 z3 z4 z5;clear ap d19;go_wp2_with fail;show bodyPost prog f134 _ Exit.ret _ (setRw w2 w.heap.size zeroR (.slice none 0 0));refine Zcb rfl ag.o zeroR (.slice none 0 0) (.bool false) ⟨_,_,_,rfl⟩ (by rfl) (by rfl) (by rfl) ?_;exact Zd2.no az.o (Zal bw.o (Nat.le_refl _) _ _)
     | some LQ =>
      obtain⟨L,Q⟩:=LQ;obtain⟨cw,m,hm,bf,de⟩:=ay.o hT1;rw [hT1] at HT;simp only at HT;have ai:=Zh (cw.trans br.o.symm);have HM:=Zh hm;have bb:=Zh bf;have bt:=Zh de;clear hT1 ay ax cw hm bf de;go_wp2_with fail;refine HT.o.mono ?_;rintro e w2 ⟨v2,rfl,ap,ci,cf⟩;have bw:=Zh (Zac bx.o ap);have ag:=Zh (cu.o.keep ap);(have cv:6≤N:=by rw [br.o];omega);(have dw:N≤10:=by rw [br.o];omega);obtain⟨g,cp,cur,dg,dx,cg⟩:∃g cp cur,v2=.slice (some ⟨g,0,none⟩) N cp∧wr.heap.size≤g∧w2.heap[g]? = some (Obj.cells cur 182 (0,0)):=by
       rcases ci.2 with ⟨_,h0⟩ | ⟨g,cp,cur,hv,hb,hg,_⟩
       · rw [ai.o] at h0;omega
       · exact⟨g,cp,cur,by rw [hv,ai.o],hb,hg⟩
      obtain⟨p2,c2,ck,is2,_⟩:=ci.is cf;rw [dg,ai.o] at ck;simp only [Value.slice.injEq] at ck;obtain⟨rfl,_,rfl⟩:=ck;subst dg;rw [ai.o] at is2;have cx:∀j,j<N→ItAt w2 g (0+j*4) (L.getD j itD):=fun j hj=>by
       obtain⟨_,_,e,h⟩:=is2.2.2 j hj;simp only [Option.some.injEq,Addr.mk.injEq,and_true] at e;obtain⟨rfl,rfl⟩:=e;exact h
      have an:=Zh cx;have cn:=Zh cg;have ab:=Zh (ZiI cf (by rw [ai.o];exact cv));have ch:g<w2.heap.size:=(Array.getElem?_eq_some_iff.1 cg).1;have ec:w.heap.size<w2.heap.size:=(Array.getElem?_eq_some_iff.1 ag.o).1;clear ap ci cf is2 cx cg HT d19 dx;go_wp2_with fail;refine Pl.q9 (ops:=Pl.fd 11 f134) ?_;refine Zrq w2 w2 g 0 N cp cv _ _ _ _ _ (an.o 0 (by omega)) (an.o 1 (by omega)) (an.o 2 (by omega)) (an.o 3 (by omega)) (an.o 4 (by omega)) (Below.refl _ _) (by rfl) (by rfl) (by rfl) ?_;intro u w3 cm;simp only [Pl.pu,List.foldl,Act.put,List.setIfInBounds_toArray,List.set];(have bh:Bl w2 w3:=by rw [cm];exact ((Below.refl _ _).drew).alloc (Nat.le_refl _) _);(have dh:RwBlk w3 w2.heap.size ⟨(L.getD 1 itD).x,(L.getD 0 itD).n == 1,[],(L.getD 2 itD).n,(L.getD 3 itD).n,(L.getD 4 itD).n⟩ (.slice none 0 0):=by rw [cm];exact Zai w2.drew ⟨(L.getD 1 itD).x,(L.getD 0 itD).n == 1,[],(L.getD 2 itD).n,(L.getD 3 itD).n,(L.getD 4 itD).n⟩ (.slice none 0 0));have ct:=Zh dh;have dt:=Zh (Zac bw.o bh);have du:=Zh (ag.o.keep bh);have dk:=Zh (bh.block g ch);have da:w2.drew.heap.size=w2.heap.size:=rfl;rw [da];obtain⟨R0,cd⟩:∃R0:Rw,R0=⟨(L.getD 1 itD).x,(L.getD 0 itD).n == 1,[],(L.getD 2 itD).n,(L.getD 3 itD).n,(L.getD 4 itD).n⟩:=⟨_,rfl⟩;rw [← cd] at ct;have dq:=Zh cd;clear cm bh dh da cd;go_wp2_with fail;go_loopw [10] (fun i wr2=>∃k:Nat,6≤k∧k≤N∧i=.int .i64 k∧Hi (∃v,RwBlk wr2 w2.heap.size R0 v∧OwnsV 32 wr2 w.heap.size v (fVals (((L.drop 6).map It.x).take (k-6))))∧Hi (Bl w wr2)∧Hi (RwBlk wr2 w.heap.size zeroR (.slice none 0 0))∧Hi (wr2.heap[g]? = w2.heap[g]?)) (fun i _=>N-(intOf i).toNat)
      case atStart=>exact ⟨6,by omega,by omega,rfl,⟨_,ct.o,OwnsV.nil _ _ _⟩,dt,du,dk⟩
      case round =>
       obtain⟨k,eg,eh,rfl,hv,ae,ah,ad⟩:=hrel;rcases Nat.lt_or_ge k N with bk | dy
       · obtain⟨v,be,am⟩:=hv.o;have dr:=Zh be;have bu:=Zh am;have bd:=an.o k bk;have dm:Hi (ItAt wr g (0+k*4) (L.getD k itD)):=⟨(Za2 ad.o _).trans bd.1,(Za2 ad.o _).trans bd.2.1,(Za2 ad.o _).trans bd.2.2.1,(Za2 ad.o _).trans bd.2.2.2⟩;have co:Hi (wr.heap[g]? = some (Obj.cells cur 182 (0,0))):=ad.o.trans cn.o;have ao:Hi ((fVals (((L.drop 6).map It.x).take (k-6))).length≤1000):=by
          show _≤_;simp [fVals];omega
         clear be am hv bd;go_wp2_with fail;refine Pl.q9 (ops:=Pl.fd 15 f134) ?_;refine Zrr w wr w.heap.size w2.heap.size R0 v _ ae.o (by omega) ae.o.size dr.o bu.o ao.o g 0 N cp k (L.getD k itD) cur (0,0) bk co.o (by omega) dm.o (by rfl) (by rfl) (by rfl) (by rfl) (by rfl) ?_;intro u' w5 v5 bi;simp only [Pl.pu,List.foldl,Act.put,List.setIfInBounds_toArray,List.set];have bm:=Zh bi;have dv:Hi (RwBlk w5 w.heap.size zeroR (.slice none 0 0)):=(bi.stay _ _ _ _ ah.o (by decide) (by omega)).trans ah.o;have dl:Hi (w5.heap[g]? = w2.heap[g]?):=(bi.stay _ _ _ _ co.o (by decide) (by omega)).trans ad.o;clear bi;go_wp2;go_roundw
         case rel =>
          refine⟨k+1,by omega,by omega,by go_num,⟨v5,bm.o.blk,?_⟩,bm.o.below,dv,dl⟩;(have dz:k-6<(L.drop 6).length:=by rw [List.length_drop,ai.o];omega);have e:fVals (((L.drop 6).map It.x).take (k+1-6))=fVals (((L.drop 6).map It.x).take (k-6)) ++ [.float .f64 (L.getD k itD).x]:=by
           rw [show k+1-6=(k-6)+1 by omega,List.take_succ_eq_append_getElem (by simpa using dz)];(have bj:k<L.length:=by rw [ai.o];exact bk);(have:L[6+(k-6)]'(by omega)=L[k]:=by congr 1;omega);simp [fVals,List.getD,bj,this]
          rw [e];exact bm.o.owns
         case measure=>simp only [intOf];omega
       · have cj:((L.drop 6).map It.x).take (k-6)=(L.drop 6).map It.x:=List.take_of_length_le (by rw [List.length_map,List.length_drop,ai.o];omega);rw [cj] at hv;obtain⟨v,be,am⟩:=hv.o;obtain⟨X,hX⟩:∃X,X=Zdt L (L.drop 6):=⟨_,rfl⟩;rw [HM.o] at hX am ab cj;rw [← hX] at bb bt ab;(have ce:X.xs=m.map It.x:=by rw [hX];rfl);rw [← ce] at am;obtain⟨nm,bl⟩:∃nm,X.xs.length=nm:=⟨_,rfl⟩;have ea:nm≤10:=by
          rw [← bl,ce,List.length_map,← HM.o,List.length_drop,ai.o];omega
         obtain⟨ca,cc,rfl,cz⟩:=am.fs ab.o.xs bl (by omega);have di:RwBlk wr w2.heap.size X (.slice ca nm cc):=by
          have:=be;rw [dq.o] at this;rw [hX];exact this
         have bg:=Zh di;have bo:=Zh cz;have bu:=Zh am;have ac:=ab;have cb:=Zh bl;have ak:=H.o.keep ae.o (Nat.le_refl _);have bn:=Zh ak;clear be am hv cj ce bl di cz hX ak an cn;go_wp2_with fail;refine Pl.q9 (ops:=Pl.fd 16 f134) ?_;cases hmay:X.may
         · have az:Hi (decB xs=none):=bt.o (fun h=>by rw [hmay] at h;cases h.1);refine ZpZ wr wr w2.heap.size X ca nm cc bg.o bo.o ac.o _ len cap xs bn.o hmay (Below.refl _ _) (by rfl) (by rfl) (by rfl) (by rfl) ?_;intro u2 w4 af;simp only [Pl.pu,List.foldl,Act.put,List.setIfInBounds_toArray,List.set];clear hmay;have ba:=Zh (Zac ae.o af);have aa:=Zh (ah.o.keep af);have z0:=aa.o.c0;have z1:=aa.o.c1;have z2:=aa.o.c2;have z3:=aa.o.c3;have z4:=aa.o.c4;have z5:=aa.o.c5;have f0:=aa.o.fz;simp only [zeroR] at z0 z1 z3 z4 z5;clear af;go_wp2_with fail;show bodyPost prog f134 _ Exit.ret _ (setRw w4 w.heap.size zeroR (.slice none 0 0));refine Zcb rfl aa.o zeroR (.slice none 0 0) (.bool false) ⟨_,_,_,rfl⟩ (by rfl) (by rfl) (by rfl) ?_;exact Zd2.no az.o (Zal ba.o (Nat.le_refl _) _ _)

         · by_cases av:X.bytes=xs
           · have cr:Hi (decB xs=some X):=bb.o hmay ac.o av;refine Zqb wr wr w2.heap.size X ca nm cc bg.o bo.o ac.o _ len cap xs bn.o hmay av (Below.refl _ _) (by rfl) (by rfl) (by rfl) (by rfl) ?_;intro u2 w4 af;simp only [Pl.pu,List.foldl,Act.put,List.setIfInBounds_toArray,List.set];clear hmay av;have ba:=Zh (Zac ae.o af);have aa:=Zh (ah.o.keep af);have ar:=Zh (bg.o.keep af);have cq:=Zh (bu.o.keep af (Nat.le_refl _));have z0:=aa.o.c0;have z1:=aa.o.c1;have z2:=aa.o.c2;have z3:=aa.o.c3;have z4:=aa.o.c4;have z5:=aa.o.c5;have f0:=aa.o.fz;simp only [zeroR] at z0 z1 z3 z4 z5;have x0:=ar.o.c0;have x1:=ar.o.c1;have x2:=ar.o.c2;have x3:=ar.o.c3;have x4:=ar.o.c4;have x5:=ar.o.c5;clear af;go_wp2_with fail;show bodyPost prog f134 _ Exit.ret _ (setRw w4 w.heap.size X (.slice ca nm cc));refine Zcb rfl aa.o X (.slice ca nm cc) (.bool true) ⟨_,_,_,rfl⟩ (by rfl) (by rfl) (by rfl) ?_;refine⟨Zal ba.o (Nat.le_refl _) _ _,(fun h=>by rw [cr.o] at h;cases h),fun r h=>?_⟩;rw [cr.o] at h;simp only [Option.some.injEq] at h;subst h;exact⟨ac.o,ca,nm,cc,rfl,(cq.o.setRw aa.o _ _).fsAt ac.o.xs (by rw [cb.o];omega),cq.o.setRw aa.o _ _⟩

           · have az:Hi (decB xs=none):=bt.o (fun h=>av h.2);have dd:¬(bstr X.bytes).toList=(bstr xs).toList:=beq_eq_false_iff_ne.1 (ZhY (ZbN hmay) bz.o av);refine Zqa wr wr w2.heap.size X ca nm cc bg.o bo.o ac.o _ len cap xs bn.o hmay dd (Below.refl _ _) (by rfl) (by rfl) (by rfl) (by rfl) ?_;intro u2 w4 af;simp only [Pl.pu,List.foldl,Act.put,List.setIfInBounds_toArray,List.set];clear hmay av dd;have ba:=Zh (Zac ae.o af);have aa:=Zh (ah.o.keep af);have z0:=aa.o.c0;have z1:=aa.o.c1;have z2:=aa.o.c2;have z3:=aa.o.c3;have z4:=aa.o.c4;have z5:=aa.o.c5;have f0:=aa.o.fz;simp only [zeroR] at z0 z1 z3 z4 z5;clear af;go_wp2_with fail;show bodyPost prog f134 _ Exit.ret _ (setRw w4 w.heap.size zeroR (.slice none 0 0));refine Zcb rfl aa.o zeroR (.slice none 0 0) (.bool false) ⟨_,_,_,rfl⟩ (by rfl) (by rfl) (by rfl) ?_;exact Zd2.no az.o (Zal ba.o (Nat.le_refl _) _ _)
theorem Zp9 (w:World)(g b2 o2 len2 cap2 i k:Nat)
    {Q:Exit→Act→World→Prop}(ab:A.tmps.size=78)(aa:A.defers=[])(s2:A.tmps.getD 2 undef=.slice (some ⟨b2,o2,none⟩) len2 cap2)(s3:A.tmps.getD 3 undef=.pointer (some ⟨g,0,none⟩))(s10:A.tmps.getD 10 undef=.int .i64 (i:Int))(s11:A.tmps.getD 11 undef=.bool true)(s12:A.tmps.getD 12 undef=.int .i64 (k:Int))
    (hend:∀(u:Nat→Value) w',Bl w w'→Q .normal ((Pl.pu A u [38,39,40,41,42,43,44,45,46,47,48,49,50]).put (some 11) (.bool true)) w') :
    Pl.rg prog 13 f63 Q A w:=by
  have hA:=Pl.At.same (v:=.int .i64 (k:Int)) (d:=12) (Pl.At.same (v:=.bool true) (d:=11) (Pl.At.same (v:=.int .i64 (i:Int)) (d:=10) (Pl.At.same (v:=.pointer (some ⟨g,0,none⟩)) (d:=3) (Pl.At.same (v:=.slice (some ⟨b2,o2,none⟩) len2 cap2) (d:=2) (Pl.At.here ab aa) s2) s3) s10) s11) s12;refine Pl.qb (S:=(fun w'=>Bl w w')) hA (Zaa w) ?_;rw [show (Pl.fd 13 f63).size=14 by kernel_rfl];refine Pl.q0 0 38 (.bool true) (Pl.q1) (Pl.q2 (.tmp 11)) (Zaa w) ?_;refine Pl.q0 1 39 (.bool true) (Pl.q1) (Pl.q2 (.tmp 38)) (Zaa w) ?_;refine Pl.q5 2 40 (Pl.q7 1 39 false) (Zaa w) ?_;refine Pl.q5 3 41 (Pl.q7 1 39 false) (Zaa w) ?_;refine Pl.q5 4 42 (Pl.q7 1 39 false) (Zaa w) ?_;refine Pl.q5 5 43 (Pl.q7 1 39 false) (Zaa w) ?_;refine Pl.q5 6 44 (Pl.q7 1 39 false) (Zaa w) ?_;refine Pl.q5 7 45 (Pl.q7 1 39 false) (Zaa w) ?_;refine Pl.q5 8 46 (Pl.q7 1 39 false) (Zaa w) ?_;refine Pl.q5 9 47 (Pl.q7 1 39 false) (Zaa w) ?_;refine Pl.q5 10 48 (Pl.q7 1 39 false) (Zaa w) ?_;refine Pl.q5 11 49 (Pl.q7 1 39 false) (Zaa w) ?_;refine Pl.q0 12 50 (.bool true) (Pl.q1) (Pl.qp (.tmp 39) (.const (.bool true)) (.tmp 49)) (Zaa w) ?_;refine Pl.q0 13 11 (.bool true) (Pl.q1) (Pl.qd (.tmp 50)) (Zaa w) ?_;refine Pl.q8 (fun A' hA'=>?_);exact Pl.en hA' hA [38,39,40,41,42,43,44,45,46,47,48,49,50,11] (hend hA'.fn _ (Zaa w))
theorem ZpA (w:World)(g b o len cap b2 o2 len2 cap2 i k:Nat)(v:Value)(x y:Int)(hi:i<len)(hk:k<len2)(hg:LfBlk w g (.slice (some ⟨b,o,none⟩) len cap) v)(hx:w.cell? ⟨b2,o2+k,none⟩=some (.int .i64 x))(hy:w.cell? ⟨b,o+i,none⟩=some (.int .i64 y))(h1:x=y)
    {Q:Exit→Act→World→Prop}(ab:A.tmps.size=78)(aa:A.defers=[])(s2:A.tmps.getD 2 undef=.slice (some ⟨b2,o2,none⟩) len2 cap2)(s3:A.tmps.getD 3 undef=.pointer (some ⟨g,0,none⟩))(s10:A.tmps.getD 10 undef=.int .i64 (i:Int))(s11:A.tmps.getD 11 undef=.bool false)(s12:A.tmps.getD 12 undef=.int .i64 (k:Int))
    (hend:∀(u:Nat→Value) w',Bl w w'→Q .normal ((Pl.pu A u [38,39,40,41,42,43,44,45,46,47,48,49,50]).put (some 11) (.bool true)) w') :
    Pl.rg prog 13 f63 Q A w:=by
  have hA:=Pl.At.same (v:=.int .i64 (k:Int)) (d:=12) (Pl.At.same (v:=.bool false) (d:=11) (Pl.At.same (v:=.int .i64 (i:Int)) (d:=10) (Pl.At.same (v:=.pointer (some ⟨g,0,none⟩)) (d:=3) (Pl.At.same (v:=.slice (some ⟨b2,o2,none⟩) len2 cap2) (d:=2) (Pl.At.here ab aa) s2) s3) s10) s11) s12;refine Pl.qb (S:=(fun w'=>Bl w w')) hA (Zaa w) ?_;rw [show (Pl.fd 13 f63).size=14 by kernel_rfl];refine Pl.q0 0 38 (.bool false) (Pl.q1) (Pl.q2 (.tmp 11)) (Zaa w) ?_;refine Pl.q0 1 39 (.bool false) (Pl.q1) (Pl.q2 (.tmp 38)) (Zaa w) ?_;refine Pl.q0 2 40 (.slice (some ⟨b2,o2,none⟩) len2 cap2) (Pl.q3 1 39 false) (Pl.q2 (.tmp 2)) (Zaa w) ?_;refine Pl.q0 3 41 (.int .i64 (k:Int)) (Pl.q3 1 39 false) (Pl.q2 (.tmp 12)) (Zaa w) ?_;refine Pl.q0 4 42 (.pointer (some ⟨b2,o2+k,none⟩)) (Pl.q3 1 39 false) (Pl.qa 29 (.tmp 40) (.tmp 41) (ixI1 b2 o2 len2 cap2 k hk)) (Zaa w) ?_;refine Pl.q0 5 43 (.int .i64 x) (Pl.q3 1 39 false) (Pl.q4 3 (.tmp 42) (fun w' hS=>ldI1 b2 (o2+k) x w' (Zaf hx hS))) (Zaa w) ?_;refine Pl.q0 6 44 (.pointer (some ⟨g,0,none⟩)) (Pl.q3 1 39 false) (Pl.q6 101 (.tmp 3) 0 (Zgu g)) (Zaa w) ?_;refine Pl.q0 7 45 (.slice (some ⟨b,o,none⟩) len cap) (Pl.q3 1 39 false) (Pl.q4 29 (.tmp 44) (fun w' hS=>Zg1 g ⟨some ⟨b,o,none⟩,len,cap⟩ v w' (hg.below hS))) (Zaa w) ?_;refine Pl.q0 8 46 (.int .i64 (i:Int)) (Pl.q3 1 39 false) (Pl.q2 (.tmp 10)) (Zaa w) ?_;refine Pl.q0 9 47 (.pointer (some ⟨b,o+i,none⟩)) (Pl.q3 1 39 false) (Pl.qa 29 (.tmp 45) (.tmp 46) (ixI1 b o len cap i hi)) (Zaa w) ?_;refine Pl.q0 10 48 (.int .i64 y) (Pl.q3 1 39 false) (Pl.q4 3 (.tmp 47) (fun w' hS=>ldI1 b (o+i) y w' (Zaf hy hS))) (Zaa w) ?_;refine Pl.q0 11 49 (.bool true) (Pl.q3 1 39 false) (Pl.qc .eql 3 3 (.tmp 43) (.tmp 48) (.int .i64 x) (.int .i64 y) (eqlT x y _ _ h1)) (Zaa w) ?_;refine Pl.q0 12 50 (.bool true) (Pl.q1) (Pl.qk (.tmp 39) (.const (.bool true)) (.tmp 49)) (Zaa w) ?_;refine Pl.q0 13 11 (.bool true) (Pl.q1) (Pl.qd (.tmp 50)) (Zaa w) ?_;refine Pl.q8 (fun A' hA'=>?_);exact Pl.en hA' hA [38,39,40,41,42,43,44,45,46,47,48,49,50,11] (hend hA'.fn _ (Zaa w))
theorem ZpB (w:World)(g b o len cap b2 o2 len2 cap2 i k:Nat)(v:Value)(x y:Int)(hi:i<len)(hk:k<len2)(hg:LfBlk w g (.slice (some ⟨b,o,none⟩) len cap) v)(hx:w.cell? ⟨b2,o2+k,none⟩=some (.int .i64 x))(hy:w.cell? ⟨b,o+i,none⟩=some (.int .i64 y))(h1:¬(x=y))
    {Q:Exit→Act→World→Prop}(ab:A.tmps.size=78)(aa:A.defers=[])(s2:A.tmps.getD 2 undef=.slice (some ⟨b2,o2,none⟩) len2 cap2)(s3:A.tmps.getD 3 undef=.pointer (some ⟨g,0,none⟩))(s10:A.tmps.getD 10 undef=.int .i64 (i:Int))(s11:A.tmps.getD 11 undef=.bool false)(s12:A.tmps.getD 12 undef=.int .i64 (k:Int))
    (hend:∀(u:Nat→Value) w',Bl w w'→Q .normal ((Pl.pu A u [38,39,40,41,42,43,44,45,46,47,48,49,50]).put (some 11) (.bool false)) w') :
    Pl.rg prog 13 f63 Q A w:=by
  have hA:=Pl.At.same (v:=.int .i64 (k:Int)) (d:=12) (Pl.At.same (v:=.bool false) (d:=11) (Pl.At.same (v:=.int .i64 (i:Int)) (d:=10) (Pl.At.same (v:=.pointer (some ⟨g,0,none⟩)) (d:=3) (Pl.At.same (v:=.slice (some ⟨b2,o2,none⟩) len2 cap2) (d:=2) (Pl.At.here ab aa) s2) s3) s10) s11) s12;refine Pl.qb (S:=(fun w'=>Bl w w')) hA (Zaa w) ?_;rw [show (Pl.fd 13 f63).size=14 by kernel_rfl];refine Pl.q0 0 38 (.bool false) (Pl.q1) (Pl.q2 (.tmp 11)) (Zaa w) ?_;refine Pl.q0 1 39 (.bool false) (Pl.q1) (Pl.q2 (.tmp 38)) (Zaa w) ?_;refine Pl.q0 2 40 (.slice (some ⟨b2,o2,none⟩) len2 cap2) (Pl.q3 1 39 false) (Pl.q2 (.tmp 2)) (Zaa w) ?_;refine Pl.q0 3 41 (.int .i64 (k:Int)) (Pl.q3 1 39 false) (Pl.q2 (.tmp 12)) (Zaa w) ?_;refine Pl.q0 4 42 (.pointer (some ⟨b2,o2+k,none⟩)) (Pl.q3 1 39 false) (Pl.qa 29 (.tmp 40) (.tmp 41) (ixI1 b2 o2 len2 cap2 k hk)) (Zaa w) ?_;refine Pl.q0 5 43 (.int .i64 x) (Pl.q3 1 39 false) (Pl.q4 3 (.tmp 42) (fun w' hS=>ldI1 b2 (o2+k) x w' (Zaf hx hS))) (Zaa w) ?_;refine Pl.q0 6 44 (.pointer (some ⟨g,0,none⟩)) (Pl.q3 1 39 false) (Pl.q6 101 (.tmp 3) 0 (Zgu g)) (Zaa w) ?_;refine Pl.q0 7 45 (.slice (some ⟨b,o,none⟩) len cap) (Pl.q3 1 39 false) (Pl.q4 29 (.tmp 44) (fun w' hS=>Zg1 g ⟨some ⟨b,o,none⟩,len,cap⟩ v w' (hg.below hS))) (Zaa w) ?_;refine Pl.q0 8 46 (.int .i64 (i:Int)) (Pl.q3 1 39 false) (Pl.q2 (.tmp 10)) (Zaa w) ?_;refine Pl.q0 9 47 (.pointer (some ⟨b,o+i,none⟩)) (Pl.q3 1 39 false) (Pl.qa 29 (.tmp 45) (.tmp 46) (ixI1 b o len cap i hi)) (Zaa w) ?_;refine Pl.q0 10 48 (.int .i64 y) (Pl.q3 1 39 false) (Pl.q4 3 (.tmp 47) (fun w' hS=>ldI1 b (o+i) y w' (Zaf hy hS))) (Zaa w) ?_;refine Pl.q0 11 49 (.bool false) (Pl.q3 1 39 false) (Pl.qc .eql 3 3 (.tmp 43) (.tmp 48) (.int .i64 x) (.int .i64 y) (eqlF x y _ _ h1)) (Zaa w) ?_;refine Pl.q0 12 50 (.bool false) (Pl.q1) (Pl.qk (.tmp 39) (.const (.bool true)) (.tmp 49)) (Zaa w) ?_;refine Pl.q0 13 11 (.bool false) (Pl.q1) (Pl.qd (.tmp 50)) (Zaa w) ?_;refine Pl.q8 (fun A' hA'=>?_);exact Pl.en hA' hA [38,39,40,41,42,43,44,45,46,47,48,49,50,11] (hend hA'.fn _ (Zaa w))
theorem Zex (f:Int→Bool)(h:m<t.length):ixI f (t.drop m) m=if f (t.getD m 0)=true then (m:Int) else ixI f (t.drop (m+1)) (m+1):=by
 have e:t.drop m=t.getD m 0 :: t.drop (m+1):=by
  rw [List.drop_eq_getElem_cons h];simp [List.getD,h]
 rw [e,ixI]
theorem ZcW (h:k<t.length)(y:Int):(t.take (k+1)).contains y=((t.take k).contains y || (t.getD k 0 == y)):=by
 have e:t.take (k+1)=t.take k ++ [t.getD k 0]:=by
  rw [List.take_succ_eq_append_getElem h];simp [List.getD,h]
 rw [e,Bool.eq_iff_iff];simp only [List.contains_iff_mem,List.mem_append,List.mem_singleton,Bool.or_eq_true,beq_iff_eq];exact or_congr Iff.rfl ⟨fun h=>h.symm,fun h=>h.symm⟩
theorem OwnN.off {W:World}{v:Sl}{q:Nat}(h:OwnN w v t)(f:Frm (fun k=>k=q) w W)(ha:v.a=some ⟨b,o,none⟩)(aa:b≠q):OwnN W v t:=by
 refine Own.frame h (fun k hk=>f.block k (Own.lt h hk) (fun e=>?_));rw [Sl.blk,ha] at hk;have e2:some b=some k:=hk;cases e2;exact aa e
theorem Tb.join {D:Nat→Prop}{wr w2:World}{u v:Sl}{l:List Sb}(t1:Tb D w wr u v l)(aa:∀W,Bl w W→Gb (Old D w) W v l)(p:Int)(f:Nat)(hf:f<4)(hb:Bl wr w2){cc:Nat}(ho:OwnN w2 ⟨some ⟨b,o,none⟩,4,cc⟩ t)(hw:wr.heap.size≤b):∃W3 W4 W5,(Instr.storeAt 29 (.pointer (some ⟨w.heap.size,0,none⟩)) (.slice (some ⟨b,o,none⟩) 4 cc)).run prog w2=.ok () W3∧LfBlk W3 w.heap.size (.slice (some ⟨b,o,none⟩) 4 cc) v.val∧(Instr.storeAt 3 (.pointer (some ⟨b,o+f,none⟩)) (.int .i64 p)).run prog W3=.ok () W4∧LfBlk W4 w.heap.size (.slice (some ⟨b,o,none⟩) 4 cc) v.val∧(Instr.storeAt 101 (.pointer (some ⟨w.heap.size+1,0,none⟩)) (lfV ⟨some ⟨b,o,none⟩,4,cc⟩ v)).run prog W4=.ok () W5∧LfBlk W5 (w.heap.size+1) (.slice (some ⟨b,o,none⟩) 4 cc) v.val∧JnIs D w l ⟨t.set f p,0⟩ (.returned (.tuple #[lfV ⟨some ⟨b,o,none⟩,4,cc⟩ v,.int .i64 0])) W5:=by
 have t2:=t1.below hb;have ae:=t1.sz;obtain⟨W3,ab,k3,f3⟩:=Zr3 w2 _ _ _ t2.k1 ⟨some ⟨b,o,none⟩,4,cc⟩;have o3:=ho.off f3 rfl (by omega);have r3:=t2.k2.off f3 (by omega);have e3:Bl w W3:=t2.e.trans (f3.below t2.e.size (fun k hk=>by rw [hk];exact Nat.le_refl _));obtain⟨W4,ac,o4,f4⟩:=Zr5 W3 b o 4 cc t o3 f hf p;have k4:=k3.off f4 (by omega);have r4:=r3.off f4 (by omega);have e4:Bl w W4:=e3.trans (f4.below e3.size (fun k hk=>by rw [hk];omega));obtain⟨W5,ad,k5,f5⟩:=ZgK W4 _ _ _ r4 ⟨some ⟨b,o,none⟩,4,cc⟩ v;have o5:=o4.off f5 rfl (by omega);have e5:Bl w W5:=e4.trans (f5.below e4.size (fun k hk=>by rw [hk];omega));refine⟨W3,W4,W5,ab,k3,ac,k4,ad,k5,e5,_,v,rfl,o5.gi (fun k hk=>?_) (by show 4≤_;omega),aa W5 e5⟩;have e:some b=some k:=hk;cases e;exact .inr (by omega)
theorem Zov {D:Nat→Prop}(w:World)(u v:Sl)(t:List Int)(l:List Sb)(hi:Gi D w u t)(hg:Gb D w v l)(p:Int)(r:Sl)(live:List Int)(hr:Gi D w r live)(hu:u.len=4)(h1:1≤p)(h2:p≤2147483647)(X:Js)(bu:p∈t→X=⟨t,0⟩)(bt:¬p∈t→freeI t live<0→X=⟨t,8⟩)(bs:¬p∈t→∀f:Nat,freeI t live=(f:Int)→X=⟨t.set f p,0⟩) :
    Calls prog 63 #[lfV u v,.int .i64 p,r.val] w fun e w'=>JnIs D w l X e w':=by
  have hT:=Tb.start u hg;have c0:=hT.k1.c0;have c1:=hT.k1.c1;(have cd:t.length=4:=by rw [hi.len];exact hu);have bv:=hr.len;have cc:=hr.big;have HI:=Zh (hi.below hT.e (Nat.le_refl _));have HR:=Zh (hr.below hT.e (Nat.le_refl _));have HT:=Zh hT;have br:Hi (∀W,Bl w W→Gi (Old D w) W u t):=fun W hB=>hi.old hB;have bf:Hi (∀W,Bl w W→Gb (Old D w) W v l):=fun W hB=>hg.old hB;have bm:=Zh bu;have bl:=Zh bt;have bg:=Zh bs;have ag:Hi (∀(w1:World) (c:Int),Tb D w w1 u v l→X=⟨t,c⟩→∃W,(Instr.storeAt 101 (.pointer (some ⟨w.heap.size+1,0,none⟩)) (lfV u v)).run prog w1=.ok () W∧LfBlk W (w.heap.size+1) u.val v.val∧JnIs D w l X (.returned (.tuple #[lfV u v,.int .i64 c])) W):=by
   intro w1 c t1 hX;obtain⟨W,ao,k,f,hB⟩:=t1.lay v;rw [hX];exact⟨W,ao,k,hB,u,v,rfl,hi.old hB,hg.old hB⟩
  clear hi hr hg hT bu bt bs;obtain⟨a,len,cap⟩:=v;obtain⟨ua,ul,uc⟩:=u;obtain⟨ra,rl,rc⟩:=r;replace hu:ul=4:=hu;subst hu;unfold lfV Sl.val at *;simp only at *;(have i1:¬p<1:=by omega);(have i2:¬2147483647<p:=by omega);go_enter func63,ntmps63;go_wp2_with fail;generalize (w.alloc (.cells #[.slice ua 4 uc,.slice a len cap] 101)).alloc (.cells #[.slice none 0 0,.slice none 0 0] 101)=W at *;have H0:=Zh (Below.refl W.heap.size W);obtain⟨ub,uo,bq,_⟩:=HI.o.cell 0 (by show 0<4;omega);replace bq:ua=some ⟨ub,uo,none⟩:=bq;subst bq;have au:Hi (∀i,i<4→W.cell? ⟨ub,uo+i,none⟩=some (.int .i64 (t.getD i 0))):=by
   intro i hi;obtain⟨b',o',ha,hc⟩:=HI.o.cell i hi;simp only [Option.some.injEq,Addr.mk.injEq,and_true] at ha;obtain⟨rfl,rfl⟩:=ha;exact hc
  clear c0 c1;go_loopw [8,9,10] (fun fv dv iv wr=>∃c:Nat,c≤4∧iv=.int .i64 ((c:Int)-1)∧fv=.int .i64 (ixI (fun x=>x == 0) (t.drop c) c)∧dv=.int .i64 (ixI (fun x=>!(live.contains x)) (t.drop c) c)∧Hi (Bl W wr)∧Hi (∀j,c≤j→j<4→t.getD j 0≠p)) (fun _ _ iv _=>(intOf iv+1).toNat)
  case atStart =>
   have e:t.drop 4=[]:=List.drop_of_length_le (by omega);exact⟨4,by omega,rfl,by rw [e];rfl,by rw [e];rfl,H0,fun j h h'=>by omega⟩
  case round =>
   obtain⟨c,cb,rfl,rfl,rfl,bh,bj⟩:=hrel;have ac:=Zh (HT.o.below bh.o);have c0:=ac.o.k1.c0;have c1:=ac.o.k1.c1;unfold Sl.val at c0 c1;simp only at c0 c1;cases c with
   | zero =>
    have bd:=Zh (HI.o.below bh.o (Nat.le_refl _));have d2:=(ac.o.k1.below (Zab _ (.cells #[] 3))).c0;unfold Sl.val at d2;simp only at d2;have ap:¬p∈t:=by
     intro hm;obtain⟨j,hj,e⟩:=Zre hm;exact bj.o j (Nat.zero_le _) (by omega) e
    have bp:=Zj1 (t:=t) live;rw [List.drop_zero];have ai:freeI t live=if 0≤ixI (fun x=>x == 0) t 0 then ixI (fun x=>x == 0) t 0 else ixI (fun x=>!(live.contains x)) t 0:=rfl;obtain⟨F0,ba⟩:∃F0,F0=ixI (fun x=>x == 0) t 0:=⟨_,rfl⟩;obtain⟨D0,az⟩:∃D0,D0=ixI (fun x=>!(live.contains x)) t 0:=⟨_,rfl⟩;rw [← ba,← az] at ai ⊢;clear ba az bj;by_cases hf:F0<0
    · rw [if_neg (by omega)] at ai;by_cases hd:D0<0
      · obtain⟨W2,ao,k2,hF⟩:=ag.o _ 8 ac.o (bl.o ap (by omega));have ak:=Zh ao;have HK:=Zh k2;have HF:=Zh hF;clear ao k2 hF ai bp ap;unfold Sl.val at HK;go_wp2_with (refine Zad _ rfl rfl 101 (.tmp 6) (.tmp 66) rfl (.pointer (some ⟨w.heap.size+1,0,none⟩)) (.agg #[.slice (some ⟨ub,uo,none⟩) 4 uc,.slice a len cap]) rfl rfl W2 ak.o ?_);refine bodyPost_ret (Zbg (u:=⟨some ⟨ub,uo,none⟩,4,uc⟩) (v:=⟨a,len,cap⟩) rfl HK.o _ rfl rfl) rfl ?_;exact HF.o
      · obtain⟨f,rfl⟩:=Int.eq_ofNat_of_zero_le (by omega:0≤D0);(have bo:f<4:=by omega);have HX:=Zh (bg.o ap f ai);clear ai bp ap bm bl bg ag br HI HR HT au H0;go_wp2_with (at_builtin;refine Zb7 _ rfl (.tmp 67) (.tmp 69) rfl ⟨some ⟨ub,uo,none⟩,4,uc⟩ t rfl rfl bd.o ?_);intro u2 w2 ho ah aa bb;obtain⟨b,o,ha⟩:=ho.pos (by rw [ah];show 0<4;omega);obtain⟨sa,sn,sc⟩:=u2;replace ha:sa=some ⟨b,o,none⟩:=ha;replace ah:sn=4:=ah;subst ha;subst ah;obtain⟨W3,W4,W5,ad,k3,ae,k4,af,k5,hF⟩:=ac.o.join bf.o p f bo aa ho (bb b rfl);have g0:=k3.c0;have g1:=k4.c0;have g2:=k4.c1;have al:=Zh ad;have am:=Zh ae;have an:=Zh af;have bk:=Zh k5;have HF:Hi (JnIs D w l X (.returned (.tuple #[lfV ⟨some ⟨b,o,none⟩,4,sc⟩ ⟨a,len,cap⟩,.int .i64 0])) W5):=by
         show JnIs _ _ _ _ _ _;rw [HX.o];exact hF
        clear ho aa bb k3 k4 k5 ad ae af hF ac bf bd HX c0 c1 d2;unfold lfV Sl.val at *;simp only at *;go_wp2_with (first | refine Zad _ rfl rfl 29 (.tmp 71) (.tmp 70) rfl (.pointer (some ⟨w.heap.size,0,none⟩)) (.slice (some ⟨b,o,none⟩) 4 sc) rfl rfl W3 al.o ?_ | refine Zad _ rfl rfl 3 (.tmp 76) (.tmp 75) rfl (.pointer (some ⟨b,o+f,none⟩)) (.int .i64 p) rfl rfl W4 am.o ?_ | refine Zad _ rfl rfl 101 (.tmp 6) (.tmp 77) rfl (.pointer (some ⟨w.heap.size+1,0,none⟩)) (.agg #[.slice (some ⟨b,o,none⟩) 4 sc,.slice a len cap]) rfl rfl W5 an.o ?_);refine bodyPost_ret (Zbg (u:=⟨some ⟨b,o,none⟩,4,sc⟩) (v:=⟨a,len,cap⟩) rfl bk.o _ rfl rfl) rfl ?_;exact HF.o
    · rw [if_pos (by omega)] at ai;obtain⟨f,rfl⟩:=Int.eq_ofNat_of_zero_le (by omega:0≤F0);(have bo:f<4:=by omega);have HX:=Zh (bg.o ap f ai);clear ai bp ap bm bl bg ag br HI HR HT au H0;go_wp2_with (at_builtin;refine Zb7 _ rfl (.tmp 67) (.tmp 69) rfl ⟨some ⟨ub,uo,none⟩,4,uc⟩ t rfl rfl bd.o ?_);intro u2 w2 ho ah aa bb;obtain⟨b,o,ha⟩:=ho.pos (by rw [ah];show 0<4;omega);obtain⟨sa,sn,sc⟩:=u2;replace ha:sa=some ⟨b,o,none⟩:=ha;replace ah:sn=4:=ah;subst ha;subst ah;obtain⟨W3,W4,W5,ad,k3,ae,k4,af,k5,hF⟩:=ac.o.join bf.o p f bo aa ho (bb b rfl);have g0:=k3.c0;have g1:=k4.c0;have g2:=k4.c1;have al:=Zh ad;have am:=Zh ae;have an:=Zh af;have bk:=Zh k5;have HF:Hi (JnIs D w l X (.returned (.tuple #[lfV ⟨some ⟨b,o,none⟩,4,sc⟩ ⟨a,len,cap⟩,.int .i64 0])) W5):=by
       show JnIs _ _ _ _ _ _;rw [HX.o];exact hF
      clear ho aa bb k3 k4 k5 ad ae af hF ac bf bd HX c0 c1 d2;unfold lfV Sl.val at *;simp only at *;go_wp2_with (first | refine Zad _ rfl rfl 29 (.tmp 71) (.tmp 70) rfl (.pointer (some ⟨w.heap.size,0,none⟩)) (.slice (some ⟨b,o,none⟩) 4 sc) rfl rfl W3 al.o ?_ | refine Zad _ rfl rfl 3 (.tmp 76) (.tmp 75) rfl (.pointer (some ⟨b,o+f,none⟩)) (.int .i64 p) rfl rfl W4 am.o ?_ | refine Zad _ rfl rfl 101 (.tmp 6) (.tmp 77) rfl (.pointer (some ⟨w.heap.size+1,0,none⟩)) (.agg #[.slice (some ⟨b,o,none⟩) 4 sc,.slice a len cap]) rfl rfl W5 an.o ?_);refine bodyPost_ret (Zbg (u:=⟨some ⟨b,o,none⟩,4,sc⟩) (v:=⟨a,len,cap⟩) rfl bk.o _ rfl rfl) rfl ?_;exact HF.o
   | succ m =>
    (have e:(((m+1:Nat):Int)-1)=(m:Int):=by omega);rw [e];have ci:=Zaf (au.o m (by omega)) bh.o;obtain⟨y,hy⟩:∃y,y=t.getD m 0:=⟨_,rfl⟩;rw [← hy] at ci;by_cases bx:y=p
    · have hX:X=⟨t,0⟩:=bm.o (by rw [← bx,hy];exact Zdp (by omega));obtain⟨W2,ao,k2,hF⟩:=ag.o _ 0 ac.o hX;have ak:=Zh ao;have HK:=Zh k2;have HF:=Zh hF;clear hX ao k2 hF hy;unfold Sl.val at HK;go_wp2_with (refine Zad _ rfl rfl 101 (.tmp 6) (.tmp 31) rfl (.pointer (some ⟨w.heap.size+1,0,none⟩)) (.agg #[.slice (some ⟨ub,uo,none⟩) 4 uc,.slice a len cap]) rfl rfl W2 ak.o ?_);refine bodyPost_ret (Zbg (u:=⟨some ⟨ub,uo,none⟩,4,uc⟩) (v:=⟨a,len,cap⟩) rfl HK.o _ rfl rfl) rfl ?_;exact HF.o
    · have HY:=Zh hy;clear hy;go_wp2_with fail;go_loopw [11,12] (fun lv kv wz=>∃k:Nat,k≤rl∧kv=.int .i64 (k:Int)∧lv=.bool ((live.take k).contains y)∧Hi (Bl W wz)) (fun _ kv _=>rl-(intOf kv).toNat)
      case atStart=>exact ⟨0,Nat.zero_le _,rfl,rfl,bh⟩
      case round =>
       rename World=>wo;obtain⟨k,hk,rfl,rfl,ab⟩:=hrel;rcases Nat.lt_or_ge k rl with bi | bz
       · (have i3:(k:Int)<(rl:Int):=by omega);obtain⟨rb,ro,ha,hx⟩:=HR.o.cell k bi;replace ha:ra=some ⟨rb,ro,none⟩:=ha;subst ha;have ax:=Zh (HT.o.k1.below ab.o);have av:=Zh (Zaf hx ab.o);(have aw:Hi (wo.cell? ⟨ub,uo+m,none⟩=some (.int .i64 y)):=by rw [HY.o];exact Zaf (au.o m (by omega)) ab.o);have hq:=ZcW (t:=live) (k:=k) (by rw [bv];exact bi) y;clear hx c0 c1 ci ac;obtain⟨q,bc⟩:∃q,q=(live.take k).contains y:=⟨_,rfl⟩;rw [← bc] at hq ⊢;clear bc;cases q with
         | true =>
          (have HQ:Hi ((live.take (k+1)).contains y=true):=by show _=_;rw [hq];rfl);clear hq;go_wp2_with fail;refine Pl.q9 (ops:=Pl.fd 13 f63) ?_;refine Zp9 _ w.heap.size rb ro rl rc m k (by rfl) rfl (by rfl) (by rfl) (by rfl) (by rfl) (by rfl) ?_;intro u1 w2 aa;simp only [Pl.pu,List.foldl,Act.put,List.setIfInBounds_toArray,List.set];have ar:=Zh (Zac ab.o aa);clear aa ax av aw;go_wp2;go_roundw;exact ⟨k+1,by omega,by go_num,by rw [HQ.o],ar⟩;simp only [intOf];omega
         | false =>
          by_cases aq:live.getD k 0=y
          · have HQ:Hi ((live.take (k+1)).contains y=true):=by
             show _=_;rw [hq,aq];simp
            have bn:=Zh aq;clear hq aq;go_wp2_with fail;refine Pl.q9 (ops:=Pl.fd 13 f63) ?_;refine ZpA _ w.heap.size ub uo 4 uc rb ro rl rc m k _ (live.getD k 0) y (by omega) bi ax.o av.o aw.o bn.o (by rfl) rfl (by rfl) (by rfl) (by rfl) (by rfl) (by rfl) ?_;intro u1 w2 aa;simp only [Pl.pu,List.foldl,Act.put,List.setIfInBounds_toArray,List.set];have ar:=Zh (Zac ab.o aa);clear aa ax av aw;go_wp2;go_roundw;exact ⟨k+1,by omega,by go_num,by rw [HQ.o],ar⟩;simp only [intOf];omega
          · have HQ:Hi ((live.take (k+1)).contains y=false):=by
             show _=_;rw [hq];simpa using aq
            have bn:=Zh aq;clear hq aq;go_wp2_with fail;refine Pl.q9 (ops:=Pl.fd 13 f63) ?_;refine ZpB _ w.heap.size ub uo 4 uc rb ro rl rc m k _ (live.getD k 0) y (by omega) bi ax.o av.o aw.o bn.o (by rfl) rfl (by rfl) (by rfl) (by rfl) (by rfl) (by rfl) ?_;intro u1 w2 aa;simp only [Pl.pu,List.foldl,Act.put,List.setIfInBounds_toArray,List.set];have ar:=Zh (Zac ab.o aa);clear aa ax av aw;go_wp2;go_roundw;exact ⟨k+1,by omega,by go_num,by rw [HQ.o],ar⟩;simp only [intOf];omega
       · (have i3:¬(k:Int)<(rl:Int):=by omega);have be:Hi (∀j,m≤j→j<4→t.getD j 0≠p):=by
          intro j hj ca;by_cases e:j=m
          · rw [e,← HY.o];exact bx
          · exact bj.o j (by omega) ca
         have z0:=(HT.o.k1.below ab.o).c0;have zy:=Zaf (au.o m (by omega)) ab.o;rw [← HY.o] at zy;unfold Sl.val at z0;simp only at z0;have s1:=Zex (fun x=>x == 0) (t:=t) (m:=m) (by omega);have s2:=Zex (fun x=>!(live.contains x)) (t:=t) (m:=m) (by omega);rw [← HY.o] at s1 s2;rw [List.take_of_length_le (by rw [bv];exact bz)];obtain⟨F0,ba⟩:∃F0,F0=ixI (fun x=>x == 0) (t.drop (m+1)) (m+1):=⟨_,rfl⟩;obtain⟨D0,az⟩:∃D0,D0=ixI (fun x=>!(live.contains x)) (t.drop (m+1)) (m+1):=⟨_,rfl⟩;rw [← ba] at s1 ⊢;rw [← az] at s2 ⊢;obtain⟨q,bc⟩:∃q,q=live.contains y:=⟨_,rfl⟩;rw [← bc] at s2 ⊢;clear ba az bc c0 c1 ci ac bj;by_cases bw:y=0
         · (have ay:Hi (ixI (fun x=>x == 0) (t.drop m) m=(m:Int)):=by show _=_;rw [s1,if_pos (by simp [bw])]);clear s1;cases q with
           | true =>
            (have aj:Hi (ixI (fun x=>!(live.contains x)) (t.drop m) m=D0):=by show _=_;rw [s2];rfl);clear s2;go_wp2;go_roundw;exact ⟨m,by omega,by go_num,by rw [ay.o],by rw [aj.o],ab,be⟩;simp only [intOf];omega
           | false =>
            (have aj:Hi (ixI (fun x=>!(live.contains x)) (t.drop m) m=(m:Int)):=by show _=_;rw [s2];rfl);clear s2;go_wp2;go_roundw;exact ⟨m,by omega,by go_num,by rw [ay.o],by rw [aj.o],ab,be⟩;simp only [intOf];omega
         · (have ay:Hi (ixI (fun x=>x == 0) (t.drop m) m=F0):=by show _=_;rw [s1,if_neg (by simp [bw])]);clear s1;cases q with
           | true =>
            (have aj:Hi (ixI (fun x=>!(live.contains x)) (t.drop m) m=D0):=by show _=_;rw [s2];rfl);clear s2;go_wp2;go_roundw;exact ⟨m,by omega,by go_num,by rw [ay.o],by rw [aj.o],ab,be⟩;simp only [intOf];omega
           | false =>
            (have aj:Hi (ixI (fun x=>!(live.contains x)) (t.drop m) m=(m:Int)):=by show _=_;rw [s2];rfl);clear s2;go_wp2;go_roundw;exact ⟨m,by omega,by go_num,by rw [ay.o],by rw [aj.o],ab,be⟩;simp only [intOf];omega
theorem ZhH {D:Nat→Prop}(w:World)(u v:Sl)(t:List Int)(l:List Sb)(hi:Gi D w u t)(hg:Gb D w v l)(p:Int)(r:Sl)(live:List Int)(hr:Gi D w r live)(hu:u.len=4) :
    Calls prog 63 #[lfV u v,.int .i64 p,r.val] w fun e w'=>JnIs D w l (joinI t p live) e w':=by
  by_cases hp:p<1∨2147483647<p
  · have e:joinI t p live=⟨t,1⟩:=if_pos hp;rw [e];exact ZmI w u v t l hi hg p r hp
  · refine Zov w u v t l hi hg p r live hr hu (by omega) (by omega) _ (fun hm=>?_) (fun hm hf=>?_) (fun hm f hf=>?_)
    · unfold joinI;rw [if_neg hp,if_pos (by simpa using hm)]
    · unfold joinI;rw [if_neg hp,if_neg (by simpa using hm),if_pos hf]
    · unfold joinI;rw [if_neg hp,if_neg (by simpa using hm),if_neg (by omega),hf];rfl
end Go.Proofs.YtiecfcjlhldhdaaGreat
