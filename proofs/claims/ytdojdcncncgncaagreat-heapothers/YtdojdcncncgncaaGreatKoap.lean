/-
  Lemmas.
-/
import Derived.Test.YtdojdcncncgncaaGreatKoao
namespace Go.Proofs.YtdojdcncncgncaaGreat
open Go.RowKit
set_option linter.unusedVariables false
set_option maxRecDepth 100000
set_option maxHeartbeats 4000000
variable {w W:World}{v u:Sl}{l:List Sb}{g:Nat}{s:List (List Nat)}{i:Int}{r:List Nat}
theorem ZfV : (Tryz.prog.info? 56).map (fun i => (i.zero, i.size, i.bytes)) = some (some (.slice none 0 0), 1, 24) := by kernel_rfl
def Za8 (l : List Sb) : List Value := l.map fun x => x.s.val
theorem Zd7 (l : List Sb) : ∀ u ∈ Za8 l, u.oneCell' = true := by
 intro u hu
 obtain ⟨i, _, rfl⟩ := List.mem_map.1 hu
 rfl
theorem Zfa {l : List Sb} {i : Nat} (h : i < l.length) : (Za8 l)[i]? = some (l.getD i Sb.zero).s.val := by simp [Za8, List.getD, h]
theorem Zbh (l : List Sb) : (Za8 l).length = l.length := by simp [Za8]
def OwnB (w : World) (v : Sl) (l : List Sb) : Prop := Own 56 1 w v (Za8 l)
theorem OwnB.len (h : OwnB w v l) : l.length = v.len := by
 have := h.1
 rw [Zbh] at this
 omega
theorem OwnB.cellAt (h : OwnB w v l) {off:Nat}(ha : v.a = some ⟨g, off, none⟩) {i : Nat} (hi : i < v.len) : w.cell? ⟨g, off + i, none⟩ = some (l.getD i Sb.zero).s.val := by
 have := h.cell ha i _ (Zfa (by rw [h.len]; exact hi))
 rwa [Addr.add_lit] at this
theorem OwnB.frozen (h : OwnB w v l) {off:Nat}(ha : v.a = some ⟨g, off, none⟩) (o : Nat) : w.frozen? ⟨g, o, none⟩ = false := by
 obtain ⟨cur, hc⟩ := h.kind (k := g) (by rw [Sl.blk, ha]; rfl)
 exact frozen_of_row w g _ cur 56 hc
theorem OwnB.pos {w : World} {v : Sl} {l : List Sb} (h : OwnB w v l) (hp : 0 < v.len) : ∃ g off, v.a = some ⟨g, off, none⟩ := by
  rcases h.2 with ⟨h0, _⟩ | ⟨g, off, cur, ha, _⟩
  · rw [h0] at hp; exact absurd hp (Nat.not_lt_zero _)
  · exact ⟨g, off, ha⟩
theorem OwnB.gb {D : Nat → Prop} (h : OwnB w v l) (hb : ∀ x ∈ l, Cm D w x.s x.bs ∧ x.bs.length ≤ 1000) (hD : ∀ k, v.blk = some k → D k) (hm : v.len ≤ 1000) : Gb D w v l := by
 refine ⟨h.len, h.nilcap, h.lecap, hm, fun ad ha _ => hD _ (by rw [Sl.blk, ha]; rfl), fun i hi => ?_, hb⟩
 obtain ⟨g, off, ha⟩ := h.pos (by omega)
 exact ⟨g, off, ha, h.cellAt ha hi⟩
theorem Gb.src {D:Nat→Prop}(h:Gb D w v l):Src Tryz.prog 1 65 v.val v.len (Za8 l) w:=by
 obtain⟨a,len,cap⟩:=v
 have hl:l.length=len:=h.len
 cases a with
 | none =>
  have hc:cap=0:=h.nil rfl
  have h0:len=0:=by have:len≤cap:=h.le;omega
  subst hc;subst h0
  have:l=[]:=List.eq_nil_of_length_eq_zero hl
  subst this
  exact Src.ofNil w Tryz.underlying65 0
 | some ad =>
  refine Src.ofSlice w Tryz.underlying65 ad len cap (Za8 l) (by rw [Zbh,hl,Nat.mul_one]) (fun j u hj=>?_) (Zd7 l)
  have hjl:j<l.length:=by
   have:=(List.getElem?_eq_some_iff.1 hj).1
   rwa [Zbh] at this
  obtain⟨b,off,e,c0⟩:=h.cell j (by show j<len;omega)
  obtain rfl:=Option.some.inj e
  rw [Addr.add_lit,c0,← Zfa hjl,hj]
section
variable {ops : Array Oper} {rest : List Oper} {o : Oper} {a : Act} {Q : Exit → Act → World → Prop}
end
theorem Own.setCell {e:TypeId}{z:Nat}{s:Sl}{vs:List Value}(h:Own e z w s vs){off:Nat}(ha:s.a=some ⟨g,off,none⟩)(j:Nat)(u:Value):Own e z (w.setCell ⟨g,off+j,none⟩ u) s (vs.set j u):=by
 refine⟨by rw [List.length_set];exact h.1,?_⟩
 rcases h.2 with ⟨h0,_⟩ | ⟨g',off',cur,ha',hg,hoc,hlc,hcm,ht⟩
 · rw [h0] at ha;cases ha
 · rw [ha] at ha'
   simp only [Option.some.injEq,Addr.mk.injEq,and_true] at ha'
   obtain⟨rfl,rfl⟩:=ha'
   refine .inr ⟨g,off,_,ha,heap_setCell_same w g (off+j) cur e u hg,by simpa using hoc,hlc,hcm,?_⟩
   rw [Array.toList_setIfInBounds,List.drop_set,if_neg (by omega),Nat.add_sub_cancel_left,List.take_set,ht]
theorem ZiC (l : List Sb) (i : Nat) (x : Sb) : Za8 (l.set i x) = (Za8 l).set i x.s.val := by simp [Za8, List.map_set]
theorem Zeq (l : List Sb) (i : Nat) (x : Sb) : bss (l.set i x) = (bss l).set i x.bs := by simp [bss, List.map_set]
theorem Zgk (w : World) (g off len cap : Nat) (l : List Sb) (o : OwnB w ⟨some ⟨g, off, none⟩, len, cap⟩ l) (i : Nat) (hi : i < len) (x : Sb) : ∃ W, (Instr.storeAt 56 (.pointer (some ⟨g, off + i, none⟩)) x.s.val).run Tryz.prog w = .ok () W ∧ OwnB W ⟨some ⟨g, off, none⟩, len, cap⟩ (l.set i x) ∧ Frm (fun k => k = g) w W := by
 have k0 := o.cellAt rfl hi
 have f0 := o.frozen rfl (off + i)
 refine ⟨w.setCell ⟨g, off + i, none⟩ x.s.val, ?_, ?_, (Frm.refl (fun k => k = g) w).setCell (p := ⟨g, off + i, none⟩) rfl _⟩
 · obtain ⟨⟨sa, sl, sc⟩, bs⟩ := x
   unfold Sl.val at *
   simp [go_sem, Instr.storeAt, k0, f0]
 · unfold OwnB
   rw [ZiC]
   exact Own.setCell o rfl i _
theorem LfBlk.off {w W : World} {p q : Nat} {u v : Value} (k : LfBlk w p u v) (hf : Frm (fun k => k = q) w W) (hne : p ≠ q) : LfBlk W p u v := (hf.block _ k.lt hne).trans k
theorem ZbD (w : World) (p : Nat) (u0 v0 : Value) (k : LfBlk w p u0 v0) (u v : Sl) : ∃ W, (Instr.storeAt 67 (.pointer (some ⟨p, 0, none⟩)) (lfV u v)).run Tryz.prog w = .ok () W ∧ LfBlk W p u.val v.val ∧ Frm (fun k => k = p) w W := by
 have c0 := k.c0
 have c1 := k.c1
 have f0 := k.fz 0
 have f1 := k.fz 1
 refine ⟨(w.setCell ⟨p, 0, none⟩ u.val).setCell ⟨p, 1, none⟩ v.val, ?_, ?_, ((Frm.refl (fun k => k = p) w).setCell (p := ⟨p, 0, none⟩) rfl _).setCell (p := ⟨p, 1, none⟩) rfl _⟩
 · obtain ⟨ua, ul, uc⟩ := u
   obtain ⟨va, vl, vc⟩ := v
   unfold lfV Sl.val
   simp [go_sem, Instr.storeAt, c0, c1, f0, f1]
 · have h1 := heap_setCell_same w p 0 _ 67 u.val k
   have h2 := heap_setCell_same _ p 1 _ 67 v.val h1
   unfold LfBlk
   rw [h2]
   simp
theorem Zi3 (w : World) (p : Nat) (u0 v0 : Value) (k : LfBlk w p u0 v0) (v : Sl) : ∃ W, (Instr.storeAt 65 (.pointer (some ⟨p, 1, none⟩)) v.val).run Tryz.prog w = .ok () W ∧ LfBlk W p u0 v.val ∧ Frm (fun k => k = p) w W := by
 have c1 := k.c1
 have f1 := k.fz 1
 refine ⟨w.setCell ⟨p, 1, none⟩ v.val, ?_, ?_, (Frm.refl (fun k => k = p) w).setCell (p := ⟨p, 1, none⟩) rfl _⟩
 · obtain ⟨va, vl, vc⟩ := v
   unfold Sl.val
   simp [go_sem, Instr.storeAt, c1, f1]
 · have h2 := heap_setCell_same _ p 1 _ 67 v.val k
   unfold LfBlk
   rw [h2]
   simp
theorem Zjd {fn:Func}{x:Nat}(hr:fn.results=#[.cell x 67])(k:LfBlk W g u.val v.val)(tmps:Array Value)(ht:tmps.getD x undef=.pointer (some ⟨g,0,none⟩)):(results fn tmps).run Tryz.prog W=.ok (lfV u v) W:=by
 have c0:=k.c0
 have c1:=k.c1
 unfold lfV Sl.val at *
 have ht2:tmps[x]?.getD undef=.pointer (some ⟨g,0,none⟩):=by simpa using ht
 simp [results,hr,ht2,go_sem,c0,c1]
theorem Zan {fn:Func}{x y:Nat}(hr:fn.results=#[.cell x 67,.tmp y])(k:LfBlk W g u.val v.val)(tmps:Array Value)(ht:tmps.getD x undef=.pointer (some ⟨g,0,none⟩)){z:Value}(hy:tmps.getD y undef=z):(results fn tmps).run Tryz.prog W=.ok (.tuple #[lfV u v,z]) W:=by
 have c0:=k.c0
 have c1:=k.c1
 unfold lfV Sl.val at *
 have ht2:tmps[x]?.getD undef=.pointer (some ⟨g,0,none⟩):=by simpa using ht
 have hy2:tmps[y]?.getD undef=z:=by simpa using hy
 simp [results,hr,ht2,hy2,go_sem,c0,c1]
theorem Cm.wide {D E : Nat → Prop} {w : World} {s : Sl} {xs : List Nat} (h : Cm D w s xs) (hE : ∀ k, D k → E k) : Cm E w s xs := h.mono (fun k hk _ => hE k hk)
theorem Gb.wide {D E : Nat → Prop} {w : World} {v : Sl} {l : List Sb} (h : Gb D w v l) (hE : ∀ k, D k → E k) : Gb E w v l :=
  ⟨h.len, h.nil, h.le, h.big, fun ad ha hl => hE _ (h.home ad ha hl), h.cell, fun x hx => ⟨(h.bs x hx).1.wide hE, (h.bs x hx).2⟩⟩
theorem Gi.wide {D E : Nat → Prop} {w : World} {v : Sl} {t : List Int} (h : Gi D w v t) (hE : ∀ k, D k → E k) : Gi E w v t :=
  ⟨h.len, h.nil, h.le, h.big, fun ad ha hl => hE _ (h.home ad ha hl), h.cell⟩
structure Ans where
  s : List (List Nat)
  e : Int
def setA (s : List (List Nat)) (i : Int) (r : List Nat) : Ans :=
  if Zax s i = false then ⟨s, 3⟩ else if r.length < 1 ∨ 255 < r.length then ⟨s, 1⟩ else if 508 < need (s.set i.toNat r) then ⟨s, 7⟩ else ⟨s.set i.toNat r, 0⟩
theorem ZkZ {s : List (List Nat)} {i : Int} {r : List Nat} (h : Zax s i = false) : setA s i r = ⟨s, 3⟩ := if_pos h
theorem Zmn (h : Zax s i = true) (h1 : r.length < 1 ∨ 255 < r.length) : setA s i r = ⟨s, 1⟩ := by
 unfold setA
 rw [if_neg (by simp [h]), if_pos h1]
theorem Zlb (h : Zax s i = true) (h1 : 1 ≤ r.length) (h2 : r.length ≤ 255) (h3 : 508 < need (s.set i.toNat r)) : setA s i r = ⟨s, 7⟩ := by
 unfold setA
 rw [if_neg (by simp [h]), if_neg (by omega), if_pos h3]
theorem Zla (h : Zax s i = true) (h1 : 1 ≤ r.length) (h2 : r.length ≤ 255) (h3 : ¬ 508 < need (s.set i.toNat r)) : setA s i r = ⟨s.set i.toNat r, 0⟩ := by
 unfold setA
 rw [if_neg (by simp [h]), if_neg (by omega), if_neg h3]
theorem Zf9 (h : Zax s i = true) : ∃ k : Nat, i = (k : Int) ∧ k < s.length := by
 unfold Zax at h
 simp only [Bool.and_eq_true, decide_eq_true_eq] at h
 obtain ⟨k, rfl⟩ := Int.eq_ofNat_of_zero_le h.1
 exact ⟨k, rfl, by omega⟩
structure Tb (D : Nat → Prop) (w w1 : World) (u v : Sl) (l : List Sb) : Prop where
  k1 : LfBlk w1 w.heap.size u.val v.val
  k2 : LfBlk w1 (w.heap.size + 1) (.slice none 0 0) (.slice none 0 0)
  g : Gb D w1 v l
  e : Below w.heap.size w w1
  sz : w.heap.size + 2 ≤ w1.heap.size
theorem Tb.below {D : Nat → Prop} {w w1 w2 : World} {u v : Sl} {l : List Sb} (t : Tb D w w1 u v l) (hb : Below w1.heap.size w1 w2) : Tb D w w2 u v l :=
  ⟨t.k1.below hb, t.k2.below hb, t.g.below hb (Nat.le_refl _), Zac t.e hb, Nat.le_trans t.sz hb.size⟩
theorem Tb.start {D:Nat→Prop}(u:Sl)(hg:Gb D w v l):Tb D w ((w.alloc (.cells #[u.val,v.val] 67)).alloc (.cells #[.slice none 0 0,.slice none 0 0] 67)) u v l:=by
 have hA1:=Zaa w (.cells #[u.val,v.val] 67)
 have hA2:=Zaa (w.alloc (.cells #[u.val,v.val] 67)) (.cells #[.slice none 0 0,.slice none 0 0] 67)
 have hk2:=Zam (w.alloc (.cells #[u.val,v.val] 67)) (.slice none 0 0) (.slice none 0 0)
 rw [Zaf] at hk2
 exact⟨(Zam w u.val v.val).below hA2,hk2,hg.below (Zac hA1 hA2) (Nat.le_refl _),Zac hA1 hA2,by rw [Zaf,Zaf];exact Nat.le_refl _⟩
theorem Cm.none {D : Nat → Prop} (w : World) : Cm D w Sl.nil [] := ⟨⟨⟨rfl, fun _ h => by simp at h, fun i hi => absurd hi (Nat.not_lt_zero _)⟩, fun _ => rfl, Nat.le_refl _, by simp [Sl.nil]⟩, fun _ h _ => by cases h⟩
theorem Zlx (l : List Sb) (n : Nat) : bss (l.take n) = (bss l).take n := by simp [bss, List.map_take]
def dropA (s : List (List Nat)) (i : Int) : Ans := if Zax s i = false then ⟨s, 3⟩ else ⟨trim (s.set i.toNat []), 0⟩
def Zoo : Value → Nat
  | .slice _ n _ => n
  | _ => 0
end Go.Proofs.YtdojdcncncgncaaGreat
