/-
  Lemmas.
-/
import Derived.Test.YtdojdcncncgncaaGreatKobc
namespace Go.Proofs.YtdojdcncncgncaaGreat
open Go.RowKit
set_option linter.unusedVariables false
set_option maxRecDepth 100000
set_option maxHeartbeats 4000000
variable {a b:Nat}
theorem Zec.form {w w' : World} {l : List Lf} {k : Nat} {e : Ending} (h : Zec w l k e w') : ∃ (x : Rx) (b : Bt) (t : Bool), e = .returned (.tuple #[x.val, btV b, .bool t]) ∧ Below w.heap.size w w' ∧ Fs w' x.a x.n x.c x.r.xs ∧ ((findH l k = none ∧ x.r = zeroR ∧ b = (0, 0) ∧ t = false) ∨ ∃ g, findH l k = some g ∧ x.r = g.r ∧ b = ((g.i : Int), (g.k : Int)) ∧ t = true) := by
 cases hf : findH l k with
 | none => exact ⟨Rx.zero, (0, 0), false, h.2.1 hf, h.1, ZjY w', .inl ⟨rfl, rfl, rfl, rfl⟩⟩
 | some g =>
  obtain ⟨_, x, hx, he, hc⟩ := h.2.2 g hf
  exact ⟨x, _, true, he, h.1, hc.fs, .inr ⟨g, rfl, hx, rfl, rfl⟩⟩
def upK (a b : Rw) : Prop := Fl.rk a.key < Fl.rk b.key
theorem Zgd {a b : Nat} (ha : a < 18446744073709551616) (hb : b < 18446744073709551616) : Fl.less a b = true ↔ Fl.rk a < Fl.rk b := by
  rw [← Fl.rk_less a b ha hb]; simp
theorem ZlT {a b : Nat} (ha : a < 18446744073709551616) (hb : b < 18446744073709551616) : Fl.less a b = false ↔ Fl.rk b ≤ Fl.rk a := by
  rw [← Fl.rk_less a b ha hb]; simp
theorem Zm9 {a b : Nat} (ha : a < 18446744073709551616) (hb : b < 18446744073709551616) (ka : Fl.key a = a) (kb : Fl.key b = b) (h : Fl.rk a = Fl.rk b) : a = b := by
  rw [← ka, ← kb, ← Fl.of_rk a ha, ← Fl.of_rk b hb, h]
structure ZeQ (r : Rw) : Prop where
  fit : r.key < 18446744073709551616
  key : Fl.key r.key = r.key
theorem Ziq (r : Rw) : insK [] r = [r] := rfl
theorem ZgE (x : Rw) (l : List Rw) (r : Rw) : insK (x :: l) r = if Fl.less x.key r.key = true then x :: insK l r else r :: x :: l := by
 unfold insK
 by_cases h : Fl.less x.key r.key = true
 · rw [if_pos h, show posK r.key (x :: l) = posK r.key l + 1 by rw [posK, if_pos h]]
   simp
 · rw [if_neg h, show posK r.key (x :: l) = 0 by rw [posK, if_neg h]]
   simp
theorem Zdj {r z : Rw} : ∀ {l : List Rw}, z ∈ insK l r ↔ z = r ∨ z ∈ l
  | [] => by simp [Ziq]
  | x :: l => by
    rw [ZgE]
    split
    · rw [List.mem_cons, Zdj (l := l), List.mem_cons]
      constructor
      · rintro (h | h | h)
        · exact .inr (.inl h)
        · exact .inl h
        · exact .inr (.inr h)
      · rintro (h | h | h)
        · exact .inr (.inl h)
        · exact .inl h
        · exact .inr (.inr h)
    · rw [List.mem_cons]
theorem Zkp {r : Rw} (hr : ZeQ r) : ∀ {l : List Rw}, (∀ x ∈ l, ZeQ x ∧ x.key ≠ r.key) → l.Pairwise upK → (insK l r).Pairwise upK
 | [], _, _ => by rw [Ziq]; exact List.pairwise_singleton _ _
 | x :: l, hg, hp => by
  obtain ⟨hx, hl⟩ := List.pairwise_cons.1 hp
  have hgx := hg x List.mem_cons_self
  rw [ZgE]
  split
  · rename_i h
    refine List.pairwise_cons.2 ⟨fun z hz => ?_, Zkp hr (fun y hy => hg y (List.mem_cons_of_mem _ hy)) hl⟩
    rcases Zdj.1 hz with rfl | hz
    · exact (Zgd hgx.1.fit hr.fit).1 h
    · exact hx z hz
  · rename_i h
    have h1 : Fl.rk r.key ≤ Fl.rk x.key := (ZlT hgx.1.fit hr.fit).1 (by simpa using h)
    have h2 : Fl.rk r.key ≠ Fl.rk x.key := fun e => hgx.2 (Zm9 hr.fit hgx.1.fit hr.key hgx.1.key e).symm
    have h3 : upK r x := Nat.lt_of_le_of_ne h1 h2
    refine List.pairwise_cons.2 ⟨fun z hz => ?_, hp⟩
    rcases List.mem_cons.1 hz with rfl | hz
    · exact h3
    · exact Nat.lt_trans h3 (hx z hz)
theorem Zln : ∀ {l m : List Rw}, l.Pairwise upK → m.Pairwise upK → (∀ z, z ∈ l ↔ z ∈ m) → l = m
 | [], [], _, _, _ => rfl
 | [], y :: m, _, _, h => by have := (h y).2 List.mem_cons_self; cases this
 | x :: l, [], _, _, h => by have := (h x).1 List.mem_cons_self; cases this
 | x :: l, y :: m, h1, h2, h => by
  obtain ⟨hx, hl⟩ := List.pairwise_cons.1 h1
  obtain ⟨hy, hm⟩ := List.pairwise_cons.1 h2
  have irr : ∀ z : Rw, ¬ upK z z := fun z => Nat.lt_irrefl _
  have e : x = y := by
   rcases List.mem_cons.1 ((h x).1 List.mem_cons_self) with e | hx'
   · exact e
   · rcases List.mem_cons.1 ((h y).2 List.mem_cons_self) with e | hy'
     · exact e.symm
     · exact absurd (Nat.lt_trans (hx y hy') (hy x hx')) (irr x)
  subst e
  rw [Zln hl hm (fun z => ⟨fun hz => ?_, fun hz => ?_⟩)]
  · rcases List.mem_cons.1 ((h z).1 (List.mem_cons_of_mem _ hz)) with e | h'
    · subst e; exact absurd (hx z hz) (irr z)
    · exact h'
  · rcases List.mem_cons.1 ((h z).2 (List.mem_cons_of_mem _ hz)) with e | h'
    · subst e; exact absurd (hy z hz) (irr z)
    · exact h'
def inK (lo hi : Nat) (r : Rw) : Prop := Fl.less r.key lo = false ∧ Fl.less r.key hi = true
theorem ZmU {lo hi:Nat}:∀(l:List Hr)(o:List Rw),(∀h∈l,ZeQ h.r)→ZbB l→(∀x∈o,ZeQ x)→o.Pairwise upK→(∀x∈o,∀h∈l,x.key≠h.r.key) →
    (l.foldl (Zgl lo hi) o).Pairwise upK∧(∀x∈l.foldl (Zgl lo hi) o,ZeQ x)∧∀z,z∈l.foldl (Zgl lo hi) o↔z∈o∨∃h∈l,h.r=z∧inK lo hi z
  | [],o,_,_,hg,hp,_=>⟨hp,hg,fun z=>by simp⟩
  | h :: l,o,hl,h1,hg,hp,hd=>by
   obtain⟨hh,h1'⟩:=List.pairwise_cons.1 h1
   have hgh:=hl h List.mem_cons_self
   rw [List.foldl_cons]
   by_cases hc:(Fl.less h.r.key lo || !(Fl.less h.r.key hi))=true
   · rw [show Zgl lo hi o h=o by rw [Zgl,if_pos hc]]
     obtain⟨a,b,c⟩:=ZmU l o (fun x hx=>hl x (List.mem_cons_of_mem _ hx)) h1' hg hp (fun x hx g hg'=>hd x hx g (List.mem_cons_of_mem _ hg'))
     refine⟨a,b,fun z=>?_⟩
     rw [c z]
     constructor
     · rintro (hz | ⟨g,hg',rfl,hi'⟩)
       · exact .inl hz
       · exact .inr ⟨g,List.mem_cons_of_mem _ hg',rfl,hi'⟩
     · rintro (hz | ⟨g,hg',rfl,hi'⟩)
       · exact .inl hz
       · rcases List.mem_cons.1 hg' with rfl | hg'
         · rw [hi'.1,hi'.2] at hc;cases hc
         · exact .inr ⟨g,hg',rfl,hi'⟩
   · rw [show Zgl lo hi o h=insK o h.r by rw [Zgl,if_neg hc]]
     have hin:inK lo hi h.r:=by
      cases q1:Fl.less h.r.key lo <;> cases q2:Fl.less h.r.key hi <;> rw [q1,q2] at hc <;> first | exact ⟨q1,q2⟩ | exact absurd rfl hc
     obtain⟨a,b,c⟩:=ZmU l (insK o h.r) (fun x hx=>hl x (List.mem_cons_of_mem _ hx)) h1' (fun x hx=>by rcases Zdj.1 hx with rfl | hx;exact hgh;exact hg x hx) (Zkp hgh (fun x hx=>⟨hg x hx,hd x hx h List.mem_cons_self⟩) hp) (fun x hx g hg'=>by
      rcases Zdj.1 hx with rfl | hx
      · exact hh g hg'
      · exact hd x hx g (List.mem_cons_of_mem _ hg'))
     refine⟨a,b,fun z=>?_⟩
     rw [c z,Zdj]
     constructor
     · rintro ((rfl | hz) | ⟨g,hg',rfl,hi'⟩)
       · exact .inr ⟨h,List.mem_cons_self,rfl,hin⟩
       · exact .inl hz
       · exact .inr ⟨g,List.mem_cons_of_mem _ hg',rfl,hi'⟩
     · rintro (hz | ⟨g,hg',rfl,hi'⟩)
       · exact .inl (.inr hz)
       · rcases List.mem_cons.1 hg' with rfl | hg'
         · exact .inl (.inl rfl)
         · exact .inr ⟨g,hg',rfl,hi'⟩
theorem ZkL {lo hi : Nat} {l : List Hr} (hl : ∀ h ∈ l, ZeQ h.r) (h1 : ZbB l) : (ZdV lo hi l).Pairwise upK ∧ (∀ x ∈ ZdV lo hi l, ZeQ x) ∧ ∀ z, z ∈ ZdV lo hi l ↔ ∃ h ∈ l, h.r = z ∧ inK lo hi z := by
 obtain ⟨a, b, c⟩ := ZmU (lo := lo) (hi := hi) l [] hl h1 (fun x hx => by cases hx) List.Pairwise.nil (fun x hx => by cases hx)
 exact ⟨a, b, fun z => by rw [show ZdV lo hi l = l.foldl (Zgl lo hi) [] from rfl, c z]; simp⟩
theorem Gl.good {D:Nat→Prop}{w:World}{s:Sl}{L:List Lb}(h:Gl D w s L):∀g∈allH (lfs L),ZeQ g.r:=by
 intro g hg
 obtain⟨h1,h2,h3⟩:=Zei.1 hg
 refine⟨(ZjN ?_ h3).key,(ZcX hg).1⟩
 have hm:lf (lfs L) g.i∈lfs L:=Zbc h1
 obtain⟨x,hx,hxe⟩:=List.mem_map.1 hm
 rw [← hxe] at h2 ⊢
 have hk:g.k<x.v.len:=by
  have e:(bss x.l).length=x.v.len:=by rw [Zah,(h.it x hx).2.len]
  rw [← e];exact h2
 exact((h.it x hx).2.at hk).1.came.bs.2.1
end Go.Proofs.YtdojdcncncgncaaGreat
