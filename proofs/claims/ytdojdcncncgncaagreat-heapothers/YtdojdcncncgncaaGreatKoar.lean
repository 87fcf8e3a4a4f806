/-
  Lemmas.
-/
import Derived.Test.YtdojdcncncgncaaGreatKoaq
import Derived.Test.YtdojdcncncgncaaGreatKoan
import Derived.Lib.SmallJoins
import Derived.Laws.Cover2
import Derived.Deep.Slices
namespace Go.Proofs.YtdojdcncncgncaaGreat
open Go.RowKit
set_option linter.unusedVariables false
set_option maxRecDepth 100000
set_option maxHeartbeats 4000000
variable {l:List Lf}{r was:Rw}{i k q n:Nat}{w w0 w':World}{b:Int × Int}{live:List Int}{s:Sl}{joins:Bool}{a:Option Addr}{f:Lf}
theorem ZfX {s : List (List Nat)} {y : List Nat} (h : (insA s y).e = 0) : insA s y = ⟨insS s y, ((atE s : Nat) : Int), 0⟩ ∧ 1 ≤ y.length ∧ y.length ≤ 255 ∧ (insS s y).length ≤ 64 ∧ need (insS s y) ≤ 508 := by
 unfold insA at h ⊢
 split at h
 · cases h
 · split at h
   · cases h
   · rename_i h1 h2
     rw [if_neg h1, if_neg h2]
     exact ⟨rfl, by omega, by omega, by omega, by omega⟩
theorem Zky {t : List Int} (ht : t.length = 4) {w : Int} (h1 : 1 ≤ w) (h2 : w ≤ 2147483647) : (joinI t w []).e = 0 := by
 unfold joinI
 rw [if_neg (by omega)]
 split
 · rfl
 · have hx : t.getD 0 0 ∈ t := Zej (by omega)
   have := ZiR (live := []) hx (.inr (by simp))
   rw [if_neg (by omega)]
theorem MayL.put (h : MayL f) (live : List Int) (hi : (insA f.slots (hpB r)).e = 0) : MayL (putL f r live) := by
 obtain ⟨e, h1, h2, h3, h4⟩ := ZfX hi
 unfold putL
 rw [e]
 exact ⟨Zga h.itl _ _, Zkq h.slots h1 h2 h3, h4⟩
theorem ZdG (h : ∀ f ∈ l, MayL f) (hf : MayL f) : ∀ g ∈ l.set i f, MayL g := by
 intro g hg
 rcases List.mem_or_eq_of_mem_set hg with h1 | rfl
 · exact h g h1
 · exact hf
theorem Zi8 (hi : i < l.length) (live : List Int) (he : (insA (lf l i).slots (hpB r)).e = 0) : Zeo l (l.set i (putL (lf l i) r live)) i (atE (lf l i).slots) (hpB r) := by
 obtain ⟨e, _⟩ := ZfX he
 have hs : (putL (lf l i) r live).slots = insS (lf l i).slots (hpB r) := by unfold putL; rw [e]
 have t := Zeo.of (l := l) hi (f := putL (lf l i) r live) (k := atE (lf l i).slots) (fun b hb => by rw [hs, ZmA, if_neg hb])
 rw [hs, ZmA, if_pos rfl] at t
 exact t
structure Zhn (l : List Lf) (r : Rw) (live : List Int) (i : Nat) : Prop where
  hi : i < l.length
  room : roomH (hpB r) l 0 = some i
  ins : (insA (lf l i).slots (hpB r)).e = 0
  join : (joinI (lf l i).itl r.wr live).e = 0
  is : putH l r live = ⟨l.set i (putL (lf l i) r live), ((i : Int), ((atE (lf l i).slots : Nat) : Int)), 0⟩
  may : r.may = true
  wr : r.wr ≠ 0
  new : findH l r.key = none
theorem Zfy (l : List Lf) (r : Rw) (live : List Int) : ((putH l r live).l = l ∧ (putH l r live).b = (0, 0) ∧ (putH l r live).e ≠ 0) ∨ ∃ i, Zhn l r live i := by
 unfold putH
 by_cases h1 : r.may = false ∨ r.wr = 0 ∨ (findH l r.key).isSome = true
 · rw [if_pos h1]
   exact .inl ⟨rfl, rfl, show (1 : Int) ≠ 0 by decide⟩
 · rw [if_neg h1]
   cases hr : roomH (hpB r) l 0 with
   | none => exact .inl ⟨rfl, rfl, show (7 : Int) ≠ 0 by decide⟩
   | some i =>
    by_cases hj : (joinI (lf l i).itl r.wr live).e = 0
    · obtain ⟨_, h2, h3, _⟩ := Zbm hr
      simp only [Nat.sub_zero, Nat.zero_add] at h2 h3
      refine .inr ⟨i, h2, hr, h3, hj, ?_, ?_, ?_, ?_⟩
      · unfold putH
        rw [if_neg h1, hr]
        simp only [hj, if_true]
        rw [(ZfX h3).1]
      · cases hm : r.may
        · exact absurd (.inl hm) h1
        · rfl
      · exact fun e => h1 (.inr (.inl e))
      · cases hf : findH l r.key with
        | none => rfl
        | some g => exact absurd (.inr (.inr (by rw [hf]; rfl))) h1
    · simp only [hj, if_false]
      exact .inl ⟨trivial, trivial, hj⟩
theorem Zc9 {r : Rw} (h : r.may = true) : Fl.key r.key = r.key := (Rw.may_parts h).1.symm
theorem Zhn.mayH (p : Zhn l r live i) (h : MayH l) (hf : r.fits) : MayH (l.set i (putL (lf l i) r live)) := by
 refine h.turn (Zi8 p.hi live p.ins) (ZdG h.leaf (MayL.put (h.leaf _ (Zbc p.hi)) live p.ins)) (.inr ⟨r, Zdb p.may hf, fun a b r' _ hr' => ?_⟩)
 have := Zb9.1 p.new a b r' hr'
 rw [Zc9 p.may] at this
 exact this
theorem ZgP {l : List Lf} (h : MayH l) {r : Rw} (hf : r.fits) (live : List Int) : MayH (putH l r live).l := by
  rcases Zfy l r live with ⟨e, _⟩ | ⟨i, p⟩
  · rw [e]; exact h
  · rw [p.is]; exact p.mayH h hf
theorem Zhn.find (p:Zhn l r live i)(h:MayH l)(hf:r.fits)(hq:r.key≠Fl.key q):findH (putH l r live).l q=findH l q:=by
 rw [p.is]
 refine(Zi8 p.hi live p.ins).find h q (fun r' hr'=>?_) (fun r' hr'=>?_)
 · obtain⟨e,_⟩:=ZfX p.ins
   have hempty:cellH l i (atE (lf l i).slots)=[]:=by
    unfold cellH
    rcases Zb3 (lf l i).slots with ⟨h1,_⟩ | ⟨_,h1,_⟩
    · exact Zhh (by omega)
    · exact List.eq_nil_of_length_eq_zero h1
   rw [hempty,ZbJ] at hr'
   cases hr'
 · rw [Zdb p.may hf] at hr'
   cases hr'
   exact hq
theorem ZdZ {s : List (List Nat)} (h : sl s k ≠ []) : Zax s (k : Int) = true := by
 have hk := Zi2 h
 have hl : 0 < (sl s k).length := List.length_pos_iff.2 h
 unfold Zax
 simp [hk, hl]
theorem ZkY (h:MayL f)(hw:decH (sl f.slots k)=some was)(hm:r.may=true):setA f.slots (k:Int) (hpB r)=⟨f.slots.set k (hpB r),0⟩:=by
 have hk:=Zi2 (ZaP hw)
 have hl:=(Zb6 hw).1
 have h52:=Ze0 hm
 have hn:=Zcm f.slots k (hpB r) hk
 have h508:=h.need
 refine Zla (ZdZ (ZaP hw)) (by omega) (by omega) ?_
 simp only [Int.toNat_natCast]
 unfold need at h508 ⊢
 omega
structure ZcW (l : List Lf) (b : Int × Int) (r : Rw) (joins : Bool) (live : List Int) (i k : Nat) (was : Rw) : Prop where
  hb : b = ((i : Int), (k : Int))
  hw : decH (cellH l i k) = some was
  may : r.may = true
  key : was.key = r.key
  wr : joins = true → r.wr ≠ 0
  join : joins = true → (joinI (lf l i).itl r.wr live).e = 0
  is : layH l b r joins live = ⟨l.set i (layL (lf l i) (k : Int) r joins live), 0⟩
theorem Zfu (l : List Lf) (b : Int × Int) (r : Rw) (joins : Bool) (live : List Int) : ((layH l b r joins live).l = l ∧ (layH l b r joins live).e ≠ 0) ∨ ∃ i k was, ZcW l b r joins live i k was := by
 cases hg : getH l b with
 | none => exact .inl (by unfold layH; rw [hg]; exact ⟨rfl, show (3 : Int) ≠ 0 by decide⟩)
 | some was =>
  obtain ⟨i, k, rfl, hw⟩ := ZgA hg
  by_cases h1 : r.may = false ∨ (joins = true ∧ r.wr = 0) ∨ was.key ≠ r.key
  · exact .inl (by unfold layH; rw [hg]; simp only [if_pos h1]; exact ⟨trivial, by decide⟩)
  · by_cases h2 : joins = true ∧ (joinI (lf l i).itl r.wr live).e ≠ 0
    · refine .inl ?_
      unfold layH
      rw [hg]
      simp only [if_neg h1, Int.toNat_natCast, if_pos h2]
      exact ⟨trivial, h2.2⟩
    · refine .inr ⟨i, k, was, rfl, hw, ?_, ?_, ?_, ?_, ?_⟩
      · cases hm : r.may
        · exact absurd (.inl hm) h1
        · rfl
      · exact Decidable.byContradiction fun e => h1 (.inr (.inr e))
      · exact fun e e0 => h1 (.inr (.inl ⟨e, e0⟩))
      · exact fun e => Decidable.byContradiction fun e0 => h2 ⟨e, e0⟩
      · unfold layH
        rw [hg]
        simp only [if_neg h1, Int.toNat_natCast, if_neg h2]
theorem ZcW.in {l : List Lf} {b : Int × Int} {r : Rw} {joins : Bool} {live : List Int} {i k : Nat} {was : Rw} (p : ZcW l b r joins live i k was) : i < l.length := (Zbw (ZaP p.hw)).1
theorem ZcW.slots (p : ZcW l b r joins live i k was) (h : ∀ f ∈ l, MayL f) : (layL (lf l i) (k : Int) r joins live).slots = (lf l i).slots.set k (hpB r) := by
 unfold layL
 rw [ZkY (h _ (Zbc p.in)) p.hw p.may]
theorem ZcW.turn (p : ZcW l b r joins live i k was) (h : ∀ f ∈ l, MayL f) : Zeo l (l.set i (layL (lf l i) (k : Int) r joins live)) i k (hpB r) := by
 have hs := p.slots h
 have hk := (Zbw (ZaP p.hw)).2
 have t := Zeo.of (l := l) p.in (f := layL (lf l i) (k : Int) r joins live) (k := k) (fun b hb => by rw [hs, Zhi hk, if_neg hb])
 rw [hs, Zhi hk, if_pos rfl] at t
 exact t
theorem ZcW.leaf (p : ZcW l b r joins live i k was) (h : ∀ f ∈ l, MayL f) : MayL (layL (lf l i) (k : Int) r joins live) := by
 have hf := h _ (Zbc p.in)
 have hk := (Zbw (ZaP p.hw)).2
 have h52 := Ze0 p.may
 have hw52 := (Zb6 p.hw).1
 have hn := Zcm (lf l i).slots k (hpB r) hk
 refine ⟨?_, ?_, ?_⟩
 · unfold layL
   simp only
   split
   · exact Zga hf.itl _ _
   · exact hf.itl
 · rw [p.slots h]
   exact hf.slots.set hk (by omega) (by omega)
 · rw [p.slots h]
   have := hf.need
   unfold need at *
   unfold cellH at hw52
   omega
theorem ZcW.mayH {l : List Lf} {b : Int × Int} {r : Rw} {joins : Bool} {live : List Int} {i k : Nat} {was : Rw} (p : ZcW l b r joins live i k was) (h : MayH l) (hf : r.fits) : MayH (l.set i (layL (lf l i) (k : Int) r joins live)) := by
  refine h.turn (p.turn h.leaf) (ZdG h.leaf (p.leaf h.leaf)) (.inr ⟨r, Zdb p.may hf, fun a b r' hn hr' e => hn ?_⟩)
  exact (Zcl.1 h).2.2.1 _ _ _ _ _ _ hr' p.hw (by rw [e, p.key])
theorem Zk9 {l : List Lf} (h : MayH l) {r : Rw} (hf : r.fits) (b : Int × Int) (joins : Bool) (live : List Int) : MayH (layH l b r joins live).l := by
  rcases Zfu l b r joins live with ⟨e, _⟩ | ⟨i, k, was, p⟩
  · rw [e]; exact h
  · rw [p.is]; exact p.mayH h hf
theorem ZcW.find (p : ZcW l b r joins live i k was) (h : MayH l) (hf : r.fits) (hq : r.key ≠ Fl.key q) : findH (layH l b r joins live).l q = findH l q := by
 rw [p.is]
 refine (p.turn h.leaf).find h q (fun r' hr' => ?_) (fun r' hr' => ?_)
 · rw [p.hw] at hr'
   cases hr'
   rw [p.key]
   exact hq
 · rw [Zdb p.may hf] at hr'
   cases hr'
   exact hq
structure ZcJ (l : List Lf) (b : Int × Int) (i k : Nat) (was : Rw) : Prop where
  hb : b = ((i : Int), (k : Int))
  hw : decH (cellH l i k) = some was
  is : dropH l b = ⟨l.set i ⟨(lf l i).itl, trim ((lf l i).slots.set k [])⟩, 0⟩
theorem Zes (l : List Lf) (b : Int × Int) : ((dropH l b).l = l ∧ (dropH l b).e ≠ 0) ∨ ∃ i k was, ZcJ l b i k was := by
 cases hg : getH l b with
 | none => exact .inl (by unfold dropH; rw [hg]; exact ⟨rfl, show (3 : Int) ≠ 0 by decide⟩)
 | some was =>
  obtain ⟨i, k, rfl, hw⟩ := ZgA hg
  refine .inr ⟨i, k, was, rfl, hw, ?_⟩
  unfold dropH
  rw [hg]
  simp only [Int.toNat_natCast]
  have : dropA (lf l i).slots (k : Int) = ⟨trim ((lf l i).slots.set k []), 0⟩ := by
   unfold dropA
   rw [ZdZ (ZaP hw)]
   simp
  rw [this]
theorem ZcJ.in {l : List Lf} {b : Int × Int} {i k : Nat} {was : Rw} (p : ZcJ l b i k was) : i < l.length := (Zbw (ZaP p.hw)).1
theorem ZcJ.turn (p : ZcJ l b i k was) : Zeo l (l.set i ⟨(lf l i).itl, trim ((lf l i).slots.set k [])⟩) i k [] := by
 have hk := (Zbw (ZaP p.hw)).2
 have t := Zeo.of (l := l) p.in (f := ⟨(lf l i).itl, trim ((lf l i).slots.set k [])⟩) (k := k) (fun b hb => by simp only; rw [Zle, Zhi hk, if_neg hb])
 simp only at t
 rw [Zle, Zhi hk, if_pos rfl] at t
 exact t
theorem ZcJ.mayH (p : ZcJ l b i k was) (h : MayH l) : MayH (l.set i ⟨(lf l i).itl, trim ((lf l i).slots.set k [])⟩) := by
 have hf := h.leaf _ (Zbc p.in)
 have hk := (Zbw (ZaP p.hw)).2
 refine h.turn p.turn (ZdG h.leaf ⟨hf.itl, ZmO hf.slots k, ?_⟩) (.inl rfl)
 have h1 := ZjP (s := (lf l i).slots) hk
 have h2 := hf.need
 unfold need at *
 simp only
 omega
theorem Zjg {l : List Lf} (h : MayH l) (b : Int × Int) : MayH (dropH l b).l := by
  rcases Zes l b with ⟨e, _⟩ | ⟨i, k, was, p⟩
  · rw [e]; exact h
  · rw [p.is]; exact p.mayH h
theorem ZcJ.find (p : ZcJ l b i k was) (h : MayH l) (hq : was.key ≠ Fl.key q) : findH (dropH l b).l q = findH l q := by
 rw [p.is]
 refine p.turn.find h q (fun r' hr' => ?_) (fun r' hr' => ?_)
 · rw [p.hw] at hr'
   cases hr'
   exact hq
 · rw [ZbJ] at hr'; cases hr'
theorem Zk0 (hm : r.may = true) {g : Hr} (hg : findH l r.key = some g) : ∃ was, ZcW l ((g.i : Int), (g.k : Int)) r false [] g.i g.k was := by
 obtain ⟨h1, h2⟩ := Zc2 hg
 rw [Zc9 hm] at h2
 rcases Zfu l ((g.i : Int), (g.k : Int)) r false [] with ⟨_, e⟩ | ⟨i, k, was, p⟩
 · refine absurd ?_ e
   unfold layH
   rw [Zka h1]
   simp [hm, h2]
 · have hb := p.hb
   simp only [Prod.mk.injEq, Int.natCast_inj] at hb
   obtain ⟨rfl, rfl⟩ := hb
   exact ⟨was, p⟩
theorem ZiM {g : Hr} (hg : findH l k = some g) : ∃ was, ZcJ l ((g.i : Int), (g.k : Int)) g.i g.k was ∧ was.key = Fl.key k := by
 obtain ⟨h1, h2⟩ := Zc2 hg
 rcases Zes l ((g.i : Int), (g.k : Int)) with ⟨_, e⟩ | ⟨i, k, was, p⟩
 · refine absurd ?_ e
   unfold dropH
   rw [Zka h1]
 · have hb := p.hb
   simp only [Prod.mk.injEq, Int.natCast_inj] at hb
   obtain ⟨rfl, rfl⟩ := hb
   have hw := p.hw
   rw [h1] at hw
   cases hw
   exact ⟨_, p, h2⟩
theorem ZkK (h : MayH l) (hm : r.may = true) (hw : r.wr ≠ 0) (hn : findH l r.key = none) : (roomH (hpB r) l 0 = none ∧ putH l r [] = ⟨l, (0, 0), 7⟩) ∨ ∃ i, Zhn l r [] i := by
 rcases Zfy l r [] with ⟨e1, e2, e3⟩ | p
 · refine .inl ?_
   have hp := Rw.may_parts hm
   have h1 : ¬ (r.may = false ∨ r.wr = 0 ∨ (findH l r.key).isSome = true) := by
    rw [hm, hn]
    simp [hw]
   cases hr : roomH (hpB r) l 0 with
   | none =>
    refine ⟨rfl, ?_⟩
    unfold putH
    rw [if_neg h1, hr]
   | some i =>
    exfalso
    obtain ⟨_, h2, _⟩ := Zbm hr
    simp only [Nat.zero_add] at h2
    have hj := Zky (h.leaf _ (Zbc h2)).itl.1 (w := r.wr) (by omega) (by omega)
    unfold putH at e3
    rw [if_neg h1, hr] at e3
    simp only [hj, if_true] at e3
    exact e3 rfl
 · exact .inr p
open Go.ChangeShapes Go.WideShapes Go.ChangeAt Go.RowKit
section
variable {H : Type} {enc : TypeId × Value → H} {w : World} {base : Nat} {spare : Nat → Bool} {held : Bool}
theorem ZeZ {v : Value} {y : DataW H × List MemPlace} (h : DataW.trod enc Tryz.prog w base spare held n 23 [v] = some y) : ∃ b, v = .float .f64 b ∧ b < 18446744073709551616 := by
 have ht : Tryz.prog.underlying 23 = some (.float .f64) := by kernel_rfl
 cases n with
 | zero => simp [DataW.trod] at h
 | succ n =>
  cases v <;> simp [DataW.trod, ht] at h
  rename_i k b
  obtain ⟨⟨rfl, hw⟩, _⟩ := h
  exact ⟨b, rfl, by simpa [Lit.wf] using hw⟩
theorem ZlY {len cap:Nat}{y:DataW H × List MemPlace}(h:DataW.trod enc Tryz.prog w base spare held n 29 [.slice a len cap]=some y) :
    ∃xs,Fs w a len cap xs:=by
  have hC:Tryz.prog.cellsOf 23=1:=by kernel_rfl
  rcases Go.Deep.open_slice1 Tryz.underlying29 hC h with ⟨hcs,_⟩ | ⟨x,l,c,m,k,V,D,Pl,hcs,hb,hl,hm,hmm,_,hx⟩
  · simp only [List.cons.injEq,Value.slice.injEq,and_true] at hcs
    obtain⟨rfl,rfl,rfl⟩:=hcs
    exact⟨[],⟨⟨rfl,(fun u hu=>by cases hu),fun j hj=>by omega⟩,(fun x hx=>by cases hx),fun _=>rfl,Nat.le_refl _,by omega⟩⟩
  · simp only [List.cons.injEq,Value.slice.injEq,and_true] at hcs
    obtain⟨rfl,rfl,rfl⟩:=hcs
    have hle:len≤m:=by rw [hmm];split <;> omega
    have hsp:0<len→x.spot=none:=by
     intro h0
     have:=World.cell?_spot (hx 0 (by omega)).1
     simpa [Addr.add] using this
    have each:∀i,i<len→∃b,V i=.float .f64 b∧b<18446744073709551616:=by
     intro i hi
     exact ZeZ (hx i (by omega)).2
    obtain⟨f,hf⟩:=@Go.Deep.choose_lt Nat ⟨0⟩ len _ each
    refine⟨(List.range len).map f,⟨⟨by simp [fVals],Zg5 _,?_⟩,?_,(fun e=>by cases e),hl,by unfold maxLen at hm;omega⟩⟩
    · intro j hj
      have hc:=(hx j (by omega)).1
      obtain⟨b,off,spot⟩:=x
      have hspot:spot=none:=hsp (by omega)
      subst hspot
      refine⟨b,off,rfl,?_⟩
      rw [Addr.add_lit] at hc
      rw [hc,(hf j hj).1]
      simp [fVals,hj]
    · intro z hz
      obtain⟨j,hj,rfl⟩:=List.mem_map.1 hz
      exact(hf j (by simpa using hj)).2
end
structure Rx where
  r : Rw
  a : Option Addr
  n : Nat
  c : Nat
def Rx.val (x : Rx) : Value := x.r.val (.slice x.a x.n x.c)
def Rx.zero : Rx := ⟨zeroR, none, 0, 0⟩
def Rx.cells (x : Rx) : List Value := [.float .f64 x.r.key, .bool x.r.dead, .slice x.a x.n x.c, .int .i64 x.r.wr, .int .i64 x.r.cell, .int .i64 x.r.no]
structure RwAt (w : World) (b o : Nat) (x : Rx) : Prop where
  c0 : w.cell? ⟨b, o, none⟩ = some (.float .f64 x.r.key)
  c1 : w.cell? ⟨b, o + 1, none⟩ = some (.bool x.r.dead)
  c2 : w.cell? ⟨b, o + 2, none⟩ = some (.slice x.a x.n x.c)
  c3 : w.cell? ⟨b, o + 3, none⟩ = some (.int .i64 x.r.wr)
  c4 : w.cell? ⟨b, o + 4, none⟩ = some (.int .i64 x.r.cell)
  c5 : w.cell? ⟨b, o + 5, none⟩ = some (.int .i64 x.r.no)
theorem RwAt.keep {B b o : Nat} {x : Rx} (h : RwAt w b o x) (hb : Below B w w') (hB : w.heap.size ≤ B) : RwAt w' b o x := by
 have k : ∀ {p : Addr} {v : Value}, w.cell? p = some v → w'.cell? p = some v := fun {p v} hc => (hb.cell (Nat.lt_of_lt_of_le (World.block_lt_of_cell? w _ hc) hB)).trans hc
 exact ⟨k h.c0, k h.c1, k h.c2, k h.c3, k h.c4, k h.c5⟩
theorem RwAt.of {w : World} {b o : Nat} {x : Rx} (h : ∀ t, t < 6 → w.cell? ⟨b, o + t, none⟩ = x.cells[t]?) : RwAt w b o x :=
  ⟨h 0 (by decide), h 1 (by decide), h 2 (by decide), h 3 (by decide), h 4 (by decide), h 5 (by decide)⟩
theorem Ze7 (b o : Nat) (x : Rx) (w : World) (h : RwAt w b o x) : (Instr.loadAt 33 (.pointer (some ⟨b, o, none⟩))).run Tryz.prog w = .ok x.val w := by
 have c0 := h.c0
 have c1 := h.c1
 have c2 := h.c2
 have c3 := h.c3
 have c4 := h.c4
 have c5 := h.c5
 simp [go_sem, c0, c1, c2, c3, c4, c5, Rw.val, Rx.val]
theorem Zc5 (b o len cap k:Nat)(hk:k<len)(w:World):(Instr.indexAt 38 (.slice (some ⟨b,o,none⟩) len cap) (.int .i64 (k:Nat))).run Tryz.prog w=.ok (.pointer (some ⟨b,o+k*6,none⟩)) w:=by
 have h22:Tryz.prog.underlying 38=some (.slice (Tryz.prog.elem 38)):=by kernel_rfl
 have h1:(0:Int)≤(k:Int):=by omega
 simp [go_sem,Instr.indexAt,run_underlying h22,h1,Addr.add_lit]
 omega
structure Rz (w : World) (a : Option Addr) (m : Nat) (l : List Rx) : Prop where
  len : l.length = m
  at' : ∀ j, j < m → ∃ b off, a = some ⟨b, off, none⟩ ∧ RwAt w b (off + j * 6) (l.getD j Rx.zero)
  cols : ∀ x ∈ l, Fs w x.a x.n x.c x.r.xs
  fits : ∀ x ∈ l, x.r.fits
theorem Rz.keep {B : Nat} {len : Nat} {l : List Rx} (h : Rz w a len l) (hb : Below B w w') (hB : w.heap.size ≤ B) : Rz w' a len l := by
 refine ⟨h.len, fun j hj => ?_, fun x hx => (h.cols x hx).keep hb hB, h.fits⟩
 obtain ⟨b, off, ha, hu⟩ := h.at' j hj
 exact ⟨b, off, ha, hu.keep hb hB⟩
theorem Rz.mem {len : Nat} {l : List Rx} (h : Rz w a len l) {j : Nat} (hj : j < len) : l.getD j Rx.zero ∈ l := by
 have : j < l.length := by rw [h.len]; exact hj
 simp [List.getD, this]
def rws (l : List Rx) : List Rw := l.map Rx.r
theorem ZkX (l : List Rx) : (rws l).length = l.length := by simp [rws]
def ZaF (l : List Rx) : List Value := l.flatMap Rx.cells
theorem Zcz : ∀ l : List Rx, (ZaF l).length = l.length * 6
  | [] => rfl
  | x :: l => by
    have e : ZaF (x :: l) = x.cells ++ ZaF l := rfl
    rw [e, List.length_append, Zcz l, List.length_cons]
    have : x.cells.length = 6 := rfl
    omega
theorem ZfK (l m : List Rx) : ZaF (l ++ m) = ZaF l ++ ZaF m := by simp [ZaF]
theorem ZdB (l : List Rx) : ∀ u ∈ ZaF l, u.oneCell' = true := by
 intro u hu
 obtain ⟨x, _, hx⟩ := List.mem_flatMap.1 hu
 simp only [Rx.cells, List.mem_cons, List.not_mem_nil, or_false] at hx
 rcases hx with rfl | rfl | rfl | rfl | rfl | rfl <;> rfl
theorem ZdA : ∀ (l : List Rx) (j t : Nat), j < l.length → t < 6 → (ZaF l)[j * 6 + t]? = (l.getD j Rx.zero).cells[t]?
  | [], j, t, hj, _ => by simp at hj
  | x :: l, 0, t, _, ht => by
    have e : ZaF (x :: l) = x.cells ++ ZaF l := rfl
    have hl : x.cells.length = 6 := rfl
    rw [e, Nat.zero_mul, Nat.zero_add, List.getElem?_append_left (by omega)]
    rfl
  | x :: l, j + 1, t, hj, ht => by
    have e : ZaF (x :: l) = x.cells ++ ZaF l := rfl
    have hl : x.cells.length = 6 := rfl
    rw [e, List.getElem?_append_right (by omega), hl, show (j + 1) * 6 + t - 6 = j * 6 + t by omega]
    exact ZdA l j t (by simpa using hj) ht
theorem ZnR : (Tryz.prog.info? 33).map (fun i => (i.zero, i.size, i.bytes)) = some (some (.agg #[.float .f64 0, .bool false, .slice none 0 0, .int .i64 0, .int .i64 0, .int .i64 0]), 6, 64) := by kernel_rfl
structure ColR (w0 w : World) (x : Rx) : Prop where
  fs : Fs w x.a x.n x.c x.r.xs
  home : ∀ b off, x.a = some ⟨b, off, none⟩ → 0 < x.n → b < w0.heap.size ∨ ∃ C fr, w.heap[b]? = some (Obj.cells C 23 fr)
theorem ColR.keep {x : Rx} (h : ColR w0 w x) (hb : Below w.heap.size w w') : ColR w0 w' x := by
 refine ⟨h.fs.keep hb (Nat.le_refl _), fun b off ha hn => ?_⟩
 rcases h.home b off ha hn with k | ⟨C, fr, k⟩
 · exact .inl k
 · exact .inr ⟨C, fr, (hb.block b (Array.getElem?_eq_some_iff.1 k).1).trans k⟩
theorem Fs.same {W:World}{c:Nat}{xs : List Nat} (h : Fs w a n c xs) (hs : ∀ b off, a = some ⟨b, off, none⟩ → 0 < n → W.heap[b]? = w.heap[b]?) : Fs W a n c xs := by
 refine ⟨⟨h.vs.1, h.vs.2.1, fun j hj => ?_⟩, h.fit, h.nil, h.le, h.big⟩
 obtain ⟨b, off, ha, hc⟩ := h.vs.2.2 j hj
 refine ⟨b, off, ha, ?_⟩
 rw [← hc]
 simp only [World.cell?, hs b off ha (by omega)]
structure Rq (w0 w : World) (s : Sl) (l : List Rx) : Prop where
  own : Own 33 6 w s (ZaF l)
  new : ∀ k, s.blk = some k → w0.heap.size ≤ k
  below : Below w0.heap.size w0 w
  cols : ∀ x ∈ l, ColR w0 w x
  fits : ∀ x ∈ l, x.r.fits
theorem Rq.len {l : List Rx} (h : Rq w0 w s l) : l.length = s.len := by
 have := h.own.1
 rw [Zcz] at this
 omega
theorem Rq.keep {w0 w w' : World} {s : Sl} {l : List Rx} (h : Rq w0 w s l) (hb : Below w.heap.size w w') : Rq w0 w' s l :=
  ⟨h.own.frame (fun k hk => hb.block k (h.own.lt hk)), h.new, Zac h.below hb, fun x hx => (h.cols x hx).keep hb, h.fits⟩
theorem Own.rwAt {l:List Rx}(h:Own 33 6 w s (ZaF l)){b off:Nat}(ha:s.a=some ⟨b,off,none⟩)(j:Nat)(hj:j<l.length):RwAt w b (off+j*6) (l.getD j Rx.zero):=by
 refine RwAt.of fun t ht=>?_
 have hg:=ZdA l j t hj ht
 have hlt:t<(l.getD j Rx.zero).cells.length:=ht
 rw [List.getElem?_eq_getElem hlt] at hg ⊢
 have:=h.cell ha (j*6+t) _ hg
 rwa [Addr.add_lit,← Nat.add_assoc] at this
theorem Rq.rz {l : List Rx} (h : Rq w0 w s l) : Rz w s.a s.len l := by
 refine ⟨h.len, fun j hj => ?_, fun x hx => (h.cols x hx).fs, h.fits⟩
 rcases h.own.2 with ⟨h0, _⟩ | ⟨g, off, cur, ha, _⟩
 · rw [h0] at hj; exact absurd hj (Nat.not_lt_zero _)
 · exact ⟨g, off, ha, h.own.rwAt ha j (by rw [h.len]; exact hj)⟩
theorem Rq.new0 (w0 w : World) (hb : Below w0.heap.size w0 w) : Rq w0 (w.alloc (.cells #[] 33)) ⟨some ⟨w.heap.size, 0, none⟩, 0, 0⟩ [] := by
 refine ⟨⟨rfl, .inr ⟨w.heap.size, 0, _, rfl, heap_alloc_new w _, by simp, Nat.le_refl _, by simp, rfl⟩⟩, fun k hk => ?_, Zac hb (Zaa w _), (fun x hx => by cases hx), fun x hx => by cases hx⟩
 have e : some w.heap.size = some k := hk
 cases e
 exact hb.size
theorem Zoq (w : World) (x : Rx) : Src Tryz.prog 6 38 (.slice (some ⟨w.heap.size, 0, none⟩) 1 1) 1 (ZaF [x]) (w.alloc (.cells #[.float .f64 x.r.key, .bool x.r.dead, .slice x.a x.n x.c, .int .i64 x.r.wr, .int .i64 x.r.cell, .int .i64 x.r.no] 33)) := by
 refine Src.ofSlice _ Tryz.underlying38 ⟨w.heap.size, 0, none⟩ 1 1 (ZaF [x]) rfl (fun j u hj => ?_) (ZdB _)
 have hb : (w.alloc (.cells #[.float .f64 x.r.key, .bool x.r.dead, .slice x.a x.n x.c, .int .i64 x.r.wr, .int .i64 x.r.cell, .int .i64 x.r.no] 33)).heap[w.heap.size]? = some (.cells #[.float .f64 x.r.key, .bool x.r.dead, .slice x.a x.n x.c, .int .i64 x.r.wr, .int .i64 x.r.cell, .int .i64 x.r.no] 33) := heap_alloc_new w _
 rw [Addr.add_lit, cell_of_row _ _ _ _ _ _ hb]
 simpa [ZaF, Rx.cells] using hj
theorem Rq.app {l:List Rx}(h:Rq w0 w s l){v:Value}{m:Nat}{k:List Rx}(hsrc:Src Tryz.prog 6 38 v m (ZaF k) w)(hk:k.length=m)(hc:∀x∈k,ColR w0 w x)(hf:∀x∈k,x.r.fits)(hl:l.length+k.length≤1000000) :
    ∃s' W,(∀ty,(Builtin.append_ #[38,38] ty #[s.val,v]).run Tryz.prog w=.ok s'.val W)∧Rq w0 W s' (l ++ k)∧Frm (fun k=>s.blk=some k) w W:=by
  obtain⟨s',W,hrun,ho,hlen,hfr,hbk⟩:=ZaO Tryz.underlying38 ZnR rfl (by decide) _ s (ZaF l) h.own (ZdB l) v m (ZaF k) hsrc (by rw [← h.len,← hk];exact hl) 0
  have hcol:∀y,ColR w0 w y→ColR w0 W y:=by
   intro y hy
   have hsame:∀b off,y.a=some ⟨b,off,none⟩→0<y.n→W.heap[b]? = w.heap[b]?:=by
    intro b off ha hn
    obtain⟨b',off',ha',hc,_,_⟩:=hy.fs.at 0 hn
    rw [ha'] at ha
    cases ha
    refine hfr.block b (World.block_lt_of_cell? _ _ hc) ?_
    intro e
    rcases hy.home b off ha' hn with k | ⟨C,fr,k⟩
    · have:=h.new b e
      omega
    · obtain⟨cur,hcur⟩:=h.own.kind e
      rw [k] at hcur
      simp only [Option.some.injEq,Obj.cells.injEq] at hcur
      exact absurd hcur.2.1 (by decide)
   refine⟨hy.fs.same hsame,fun b off ha hn=>?_⟩
   rcases hy.home b off ha hn with k | ⟨C,fr,k⟩
   · exact .inl k
   · exact .inr ⟨C,fr,(hsame b off ha hn).trans k⟩
  refine⟨s',W,fun ty=>hrun,⟨by rw [ZfK];exact ho,fun k e=>?_,?_,fun y hy=>?_,fun y hy=>?_⟩,hfr⟩
  · rcases hbk with e' | ⟨e',_⟩
    · exact h.new k (by rw [← e'];exact e)
    · rw [e'] at e
      cases e
      exact h.below.size
  · exact h.below.trans (hfr.below h.below.size (fun k e=>h.new k e))
  · rcases List.mem_append.1 hy with hy | hy
    · exact hcol y (h.cols y hy)
    · exact hcol y (hc y hy)
  · rcases List.mem_append.1 hy with hy | hy
    · exact h.fits y hy
    · exact hf y hy
theorem Rq.one {l:List Rx}(h:Rq w0 w s l)(x:Rx)(hx:ColR w0 w x)(hf:x.r.fits)(hl:l.length+1≤1000000) :
    ∃s' W,(∀ty,(Builtin.append_ #[38,38] ty #[s.val,.slice (some ⟨w.heap.size,0,none⟩) 1 1]).run Tryz.prog (w.alloc (.cells #[.float .f64 x.r.key,.bool x.r.dead,.slice x.a x.n x.c,.int .i64 x.r.wr,.int .i64 x.r.cell,.int .i64 x.r.no] 33))=.ok s'.val W)∧Rq w0 W s' (l ++ [x])∧Frm (fun k=>s.blk=some k) w W:=by
  have hB:=Zaa w (.cells #[.float .f64 x.r.key,.bool x.r.dead,.slice x.a x.n x.c,.int .i64 x.r.wr,.int .i64 x.r.cell,.int .i64 x.r.no] 33)
  obtain⟨s',W,hrun,hq,hfr⟩:=(h.keep hB).app (Zoq w x) rfl (fun y hy=>by rw [List.mem_singleton.1 hy];exact hx.keep hB) (fun y hy=>by rw [List.mem_singleton.1 hy];exact hf) hl
  exact⟨s',W,hrun,hq,(Frm.ofBelow hB).trans hfr (fun i _ h=>h)⟩
abbrev Bt := Int × Int
def btV (x : Bt) : Value := .agg #[.int .i64 x.1, .int .i64 x.2]
def Zbp (l : List Bt) : List Value := l.flatMap fun x => [.int .i64 x.1, .int .i64 x.2]
theorem Zfe : ∀ l : List Bt, (Zbp l).length = l.length * 2
  | [] => rfl
  | x :: l => by
    have e : Zbp (x :: l) = [.int .i64 x.1, .int .i64 x.2] ++ Zbp l := rfl
    rw [e, List.length_append, Zfe l, List.length_cons]
    simp only [List.length_cons, List.length_nil]
    omega
theorem ZfM (l m : List Bt) : Zbp (l ++ m) = Zbp l ++ Zbp m := by simp [Zbp]
theorem Zff (l : List Bt) : ∀ u ∈ Zbp l, u.oneCell' = true := by
 intro u hu
 obtain ⟨x, _, hx⟩ := List.mem_flatMap.1 hu
 simp only [List.mem_cons, List.not_mem_nil, or_false] at hx
 rcases hx with rfl | rfl <;> rfl
theorem ZnQ : (Tryz.prog.info? 26).map (fun i => (i.zero, i.size, i.bytes)) = some (some (.agg #[.int .i64 0, .int .i64 0]), 2, 16) := by kernel_rfl
def Zeb (w : World) (s : Sl) (l : List Bt) : Prop := Own 26 2 w s (Zbp l)
theorem Zeb.len {l : List Bt} (h : Zeb w s l) : l.length = s.len := by
 have := h.1
 rw [Zfe] at this
 omega
theorem Zeb.new0 (w : World) : Zeb (w.alloc (.cells #[] 26)) ⟨some ⟨w.heap.size, 0, none⟩, 0, 0⟩ [] :=
  ⟨rfl, .inr ⟨w.heap.size, 0, _, rfl, heap_alloc_new w _, by simp, Nat.le_refl _, by simp, rfl⟩⟩
theorem Zop (w : World) (x : Bt) : Src Tryz.prog 2 82 (.slice (some ⟨w.heap.size, 0, none⟩) 1 1) 1 (Zbp [x]) (w.alloc (.cells #[.int .i64 x.1, .int .i64 x.2] 26)) := by
 refine Src.ofSlice _ Tryz.underlying82 ⟨w.heap.size, 0, none⟩ 1 1 (Zbp [x]) rfl (fun j u hj => ?_) (Zff _)
 have hb : (w.alloc (.cells #[.int .i64 x.1, .int .i64 x.2] 26)).heap[w.heap.size]? = some (.cells #[.int .i64 x.1, .int .i64 x.2] 26) := heap_alloc_new w _
 rw [Addr.add_lit, cell_of_row _ _ _ _ _ _ hb]
 simpa [Zbp] using hj
theorem Zeb.one {l:List Bt}(h:Zeb w s l)(x:Bt)(hl:l.length+1≤1000000) :
    ∃s' W,(∀ty,(Builtin.append_ #[82,82] ty #[s.val,.slice (some ⟨w.heap.size,0,none⟩) 1 1]).run Tryz.prog (w.alloc (.cells #[.int .i64 x.1,.int .i64 x.2] 26))=.ok s'.val W)∧Zeb W s' (l ++ [x])∧Frm (fun k=>s.blk=some k) w W∧(s'.blk=s.blk∨∀k,s'.blk=some k→w.heap.size≤k):=by
  have hB:=Zaa w (.cells #[.int .i64 x.1,.int .i64 x.2] 26)
  have hk:Own 26 2 (w.alloc (.cells #[.int .i64 x.1,.int .i64 x.2] 26)) s (Zbp l):=Own.frame h (fun k hk=>hB.block k (Own.lt h hk))
  obtain⟨s',W,hrun,ho,hlen,hfr,hbk⟩:=ZaO Tryz.underlying82 ZnQ rfl (by decide) _ s (Zbp l) hk (Zff l) _ 1 (Zbp [x]) (Zop w x) (by rw [← Zeb.len h];exact hl) 0
  refine⟨s',W,fun ty=>hrun,by unfold Zeb;rw [ZfM];exact ho,?_,?_⟩
  · exact(Frm.ofBelow hB).trans hfr (fun i _ h=>h)
  · rcases hbk with e | ⟨e,_⟩
    · exact .inl e
    · refine .inr fun k hk=>?_
      rw [e] at hk
      cases hk
      rw [Zaf]
      omega
end Go.Proofs.YtdojdcncncgncaaGreat
