/-
  Lemmas.
-/
import Derived.Test.YtdojdcncncgncaaGreatKtbc
namespace Go.Proofs.YtdojdcncncgncaaGreat
open Go.RowKit
set_option linter.unusedVariables false
set_option maxRecDepth 100000
set_option maxHeartbeats 4000000
variable {a b:Nat}
def upK (a b:Rw):Prop:=Fl.rk a.key<Fl.rk b.key
theorem Zgz (ha:a<18446744073709551616)(hb:b<18446744073709551616):Fl.less a b=true↔Fl.rk a<Fl.rk b:=by
 rw [← Fl.rk_less a b ha hb];simp
theorem Zm8 (ha:a<18446744073709551616)(hb:b<18446744073709551616):Fl.less a b=false↔Fl.rk b≤Fl.rk a:=by
 rw [← Fl.rk_less a b ha hb];simp
theorem Znq (ha:a<18446744073709551616)(hb:b<18446744073709551616)(ka:Fl.key a=a)(kb:Fl.key b=b)(h:Fl.rk a=Fl.rk b):a=b:=by
 rw [← ka,← kb,← Fl.of_rk a ha,← Fl.of_rk b hb,h]
structure Zfg (r:Rw):Prop where
  fit:r.key<18446744073709551616
  key:Fl.key r.key=r.key
theorem ZiO (r:Rw):insK [] r=[r]:=rfl
theorem Zhb (x:Rw)(l:List Rw)(r:Rw):insK (x :: l) r=if Fl.less x.key r.key=true then x :: insK l r else r :: x :: l:=by
 unfold insK;by_cases h:Fl.less x.key r.key=true
 · rw [if_pos h,show posK r.key (x :: l)=posK r.key l+1 by rw [posK,if_pos h]];simp
 · rw [if_neg h,show posK r.key (x :: l)=0 by rw [posK,if_neg h]];simp
theorem Zdy {r z:Rw}:∀{l:List Rw},z∈insK l r↔z=r∨z∈l
 | []=>by simp [ZiO]
 | x :: l=>by
  rw [Zhb]
  split
  · rw [List.mem_cons,Zdy (l:=l),List.mem_cons]
    constructor
    · rintro (h | h | h)
      · exact .inr (.inl h)
      · exact .inl h
      · exact .inr (.inr h)
    · rintro (h | h | h)
      · exact .inr (.inl h)
      · exact .inl h
      · exact .inr (.inr h)
  · rw [List.mem_cons]
theorem ZkY {r:Rw}(hr:Zfg r):∀{l:List Rw},(∀x∈l,Zfg x∧x.key≠r.key)→l.Pairwise upK→(insK l r).Pairwise upK
 | [],_,_=>by rw [ZiO];exact List.pairwise_singleton _ _
 | x :: l,hg,hp=>by
  obtain⟨hx,hl⟩:=List.pairwise_cons.1 hp
  have aa:=hg x List.mem_cons_self
  rw [Zhb]
  split
  · rename_i h
    refine List.pairwise_cons.2 ⟨fun z hz=>?_,ZkY hr (fun y hy=>hg y (List.mem_cons_of_mem _ hy)) hl⟩
    rcases Zdy.1 hz with rfl | hz
    · exact(Zgz aa.1.fit hr.fit).1 h
    · exact hx z hz
  · rename_i h
    have h1:Fl.rk r.key≤Fl.rk x.key:=(Zm8 aa.1.fit hr.fit).1 (by simpa using h)
    have h2:Fl.rk r.key≠Fl.rk x.key:=fun e=>aa.2 (Znq hr.fit aa.1.fit hr.key aa.1.key e).symm
    have h3:upK r x:=Nat.lt_of_le_of_ne h1 h2
    refine List.pairwise_cons.2 ⟨fun z hz=>?_,hp⟩
    rcases List.mem_cons.1 hz with rfl | hz
    · exact h3
    · exact Nat.lt_trans h3 (hx z hz)
theorem ZlU:∀{l m:List Rw},l.Pairwise upK→m.Pairwise upK→(∀z,z∈l↔z∈m)→l=m
 | [],[],_,_,_=>rfl
 | [],y :: m,_,_,h=>by have:=(h y).2 List.mem_cons_self;cases this
 | x :: l,[],_,_,h=>by have:=(h x).1 List.mem_cons_self;cases this
 | x :: l,y :: m,h1,h2,h=>by
  obtain⟨hx,hl⟩:=List.pairwise_cons.1 h1
  obtain⟨hy,hm⟩:=List.pairwise_cons.1 h2
  have irr:∀z:Rw,¬upK z z:=fun z=>Nat.lt_irrefl _
  have e:x=y:=by
   rcases List.mem_cons.1 ((h x).1 List.mem_cons_self) with e | hx'
   · exact e
   · rcases List.mem_cons.1 ((h y).2 List.mem_cons_self) with e | hy'
     · exact e.symm
     · exact absurd (Nat.lt_trans (hx y hy') (hy x hx')) (irr x)
  subst e;rw [ZlU hl hm (fun z=>⟨fun hz=>?_,fun hz=>?_⟩)]
  · rcases List.mem_cons.1 ((h z).1 (List.mem_cons_of_mem _ hz)) with e | h'
    · subst e;exact absurd (hx z hz) (irr z)
    · exact h'
  · rcases List.mem_cons.1 ((h z).2 (List.mem_cons_of_mem _ hz)) with e | h'
    · subst e;exact absurd (hy z hz) (irr z)
    · exact h'
def inK (lo hi:Nat) (r:Rw):Prop:=Fl.less r.key lo=false∧Fl.less r.key hi=true
theorem ZnA {lo hi:Nat}:∀(l:List Hr)(o:List Rw),(∀h∈l,Zfg h.r)→ZbN l→(∀x∈o,Zfg x)→o.Pairwise upK→(∀x∈o,∀h∈l,x.key≠h.r.key) →
    (l.foldl (Zg8 lo hi) o).Pairwise upK∧(∀x∈l.foldl (Zg8 lo hi) o,Zfg x)∧∀z,z∈l.foldl (Zg8 lo hi) o↔z∈o∨∃h∈l,h.r=z∧inK lo hi z
  | [],o,_,_,hg,hp,_=>⟨hp,hg,fun z=>by simp⟩
  | h :: l,o,hl,h1,hg,hp,hd=>by
   obtain⟨hh,h1'⟩:=List.pairwise_cons.1 h1
   have aa:=hl h List.mem_cons_self
   rw [List.foldl_cons]
   by_cases hc:(Fl.less h.r.key lo || !(Fl.less h.r.key hi))=true
   · rw [show Zg8 lo hi o h=o by rw [Zg8,if_pos hc]]
     obtain⟨a,b,c⟩:=ZnA l o (fun x hx=>hl x (List.mem_cons_of_mem _ hx)) h1' hg hp (fun x hx g hg'=>hd x hx g (List.mem_cons_of_mem _ hg'))
     refine⟨a,b,fun z=>?_⟩
     rw [c z]
     constructor
     · rintro (hz | ⟨g,hg',rfl,hi'⟩)
       · exact .inl hz
       · exact .inr ⟨g,List.mem_cons_of_mem _ hg',rfl,hi'⟩
     · rintro (hz | ⟨g,hg',rfl,hi'⟩)
       · exact .inl hz
       · rcases List.mem_cons.1 hg' with rfl | hg'
         · rw [hi'.1,hi'.2] at hc;cases hc
         · exact .inr ⟨g,hg',rfl,hi'⟩
   · rw [show Zg8 lo hi o h=insK o h.r by rw [Zg8,if_neg hc]]
     have ab:inK lo hi h.r:=by
      cases q1:Fl.less h.r.key lo <;> cases q2:Fl.less h.r.key hi <;> rw [q1,q2] at hc <;> first | exact ⟨q1,q2⟩ | exact absurd rfl hc
     obtain⟨a,b,c⟩:=ZnA l (insK o h.r) (fun x hx=>hl x (List.mem_cons_of_mem _ hx)) h1' (fun x hx=>by rcases Zdy.1 hx with rfl | hx;exact aa;exact hg x hx) (ZkY aa (fun x hx=>⟨hg x hx,hd x hx h List.mem_cons_self⟩) hp) (fun x hx g hg'=>by
      rcases Zdy.1 hx with rfl | hx
      · exact hh g hg'
      · exact hd x hx g (List.mem_cons_of_mem _ hg'))
     refine⟨a,b,fun z=>?_⟩;rw [c z,Zdy];constructor
     · rintro ((rfl | hz) | ⟨g,hg',rfl,hi'⟩)
       · exact .inr ⟨h,List.mem_cons_self,rfl,ab⟩
       · exact .inl hz
       · exact .inr ⟨g,List.mem_cons_of_mem _ hg',rfl,hi'⟩
     · rintro (hz | ⟨g,hg',rfl,hi'⟩)
       · exact .inl (.inr hz)
       · rcases List.mem_cons.1 hg' with rfl | hg'
         · exact .inl (.inl rfl)
         · exact .inr ⟨g,hg',rfl,hi'⟩
theorem Zl2 {lo hi:Nat}{l:List Hr}(hl:∀h∈l,Zfg h.r)(h1:ZbN l):(Zek lo hi l).Pairwise upK∧(∀x∈Zek lo hi l,Zfg x)∧∀z,z∈Zek lo hi l↔∃h∈l,h.r=z∧inK lo hi z:=by
 obtain⟨a,b,c⟩:=ZnA (lo:=lo) (hi:=hi) l [] hl h1 (fun x hx=>by cases hx) List.Pairwise.nil (fun x hx=>by cases hx);exact⟨a,b,fun z=>by rw [show Zek lo hi l=l.foldl (Zg8 lo hi) [] from rfl,c z];simp⟩
theorem Gl.good {D:Nat→Prop}{w:World}{s:Sl}{L:List Lb}(h:Gl D w s L):∀g∈allH (lfs L),Zfg g.r:=by
 intro g hg;obtain⟨h1,h2,h3⟩:=Zex.1 hg;refine⟨(Zk5 ?_ h3).key,(Zes hg).1⟩;have hm:lf (lfs L) g.i∈lfs L:=Zbe h1;obtain⟨x,hx,aa⟩:=List.mem_map.1 hm;rw [← aa] at h2 ⊢;have hk:g.k<x.v.len:=by
  (have e:(bss x.l).length=x.v.len:=by rw [Zag,(h.it x hx).2.len]);rw [← e];exact h2
 exact((h.it x hx).2.at hk).1.came.bs.2.1
end Go.Proofs.YtdojdcncncgncaaGreat
