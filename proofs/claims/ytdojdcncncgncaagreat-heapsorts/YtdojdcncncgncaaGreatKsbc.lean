/-
  Lemmas.
-/
import Derived.Test.YtdojdcncncgncaaGreatKsbb
import Derived.Test.YtdojdcncncgncaaGreatKsar
namespace Go.Proofs.YtdojdcncncgncaaGreat
open Go.RowKit
set_option linter.unusedVariables false
set_option maxRecDepth 100000
set_option maxHeartbeats 4000000
variable {w w0:World}{s:Sl}{L:List Lb}{n:Nat}
open Go.ChangeShapes Go.WideShapes Go.ChangeAt Go.RowKit
structure InL (w : World) (s : Sl) (L : List Lb) : Prop where
  len : L.length = s.len
  nil : s.a = none → s.cap = 0
  le : s.len ≤ s.cap
  big : s.len ≤ 9223372036854775807
  cell : ∀ i, i < s.len → ∃ b off, s.a = some ⟨b, off, none⟩ ∧ w.cell? ⟨b, off + i * 2, none⟩ = some (L.getD i Lb.zero).u.val ∧ w.cell? ⟨b, off + i * 2 + 1, none⟩ = some (L.getD i Lb.zero).v.val
  it : ∀ x ∈ L, InI w x.u x.t ∧ InS w x.v x.l
theorem InL.gl {w : World} {s : Sl} {L : List Lb} (h : InL w s L) (hl : s.len ≤ 8) (hp : ∀ x ∈ L, Zef x.u x.v x.l) : Gl (fun _ => True) w s L :=
  ⟨h.len, h.nil, h.le, by omega, fun _ _ _ => trivial, h.cell, fun x hx => ⟨(h.it x hx).1.gi (by have := (hp x hx).2.1; omega), (h.it x hx).2.gb (by have := (hp x hx).1; omega) (fun y hy => by have := (hp x hx).2.2 y hy; omega)⟩⟩
section
variable {H : Type} {enc : TypeId × Value → H} {w : World} {base : Nat} {spare : Nat → Bool} {held : Bool}
theorem ZiR {k:Nat}{c0 c1:Value}{y:DataW H × List MemPlace}(hf:DataW.trod enc Tryz.prog w base spare held k 67 [c0,c1]=some y) :
    ∃x:Lb,[c0,c1]=[x.u.val,x.v.val]∧InI w x.u x.t∧InS w x.v x.l:=by
  have h1:Tryz.prog.cellsOf 46=1:=by kernel_rfl
  have h2:Tryz.prog.cellsOf 65=1:=by kernel_rfl
  obtain⟨xs,n,_,_,_,hlen,hfd⟩:=DataW.trod_struct Tryz.underlying67 hf
  match xs,hlen with
  | [y0,y1],_ =>
   have t0:DataW.trod enc Tryz.prog w base spare held n 46 [c0]=some y0:=by simpa [Value.cells,h1] using hfd 0 _ rfl
   have t1:DataW.trod enc Tryz.prog w base spare held n 65 [c1]=some y1:=by simpa [Value.cells,h2] using hfd 1 _ rfl
   obtain⟨a,len,cap,e0⟩:=Go.Joins.slice_form Tryz.underlying46 t0
   obtain⟨a',len',cap',e1⟩:=Go.Joins.slice_form Tryz.underlying65 t1
   simp only [List.cons.injEq,and_true] at e0 e1
   subst e0 e1
   obtain⟨t,ht⟩:=Zjc t0
   obtain⟨l,hl⟩:=Zjd t1
   exact⟨⟨⟨a,len,cap⟩,⟨a',len',cap'⟩,t,l⟩,rfl,ht,hl⟩
theorem Znh {a:Option Addr}{len cap:Nat}{y:DataW H × List MemPlace}(h:DataW.trod enc Tryz.prog w base spare held n 22 [.slice a len cap]=some y) :
    ∃L,InL w ⟨a,len,cap⟩ L:=by
  have hC:Tryz.prog.cellsOf 67=2:=by kernel_rfl
  rcases Go.Deep.open_slice Tryz.underlying22 h with ⟨hcs,_⟩ | ⟨x,l,c,m,k,D,Pl,hcs,hb,hl,hm,hmm,_,hx⟩
  · simp only [List.cons.injEq,Value.slice.injEq,and_true] at hcs
    obtain⟨rfl,rfl,rfl⟩:=hcs
    exact⟨[],⟨rfl,fun _=>rfl,Nat.le_refl _,Nat.zero_le _,(fun j hj=>absurd hj (Nat.not_lt_zero _)),fun x hx=>by cases hx⟩⟩
  · simp only [List.cons.injEq,Value.slice.injEq,and_true] at hcs
    obtain⟨rfl,rfl,rfl⟩:=hcs
    have hle:len≤m:=by rw [hmm];split <;> omega
    have hsp:0<len→x.spot=none:=by
     intro h0
     obtain⟨cs,h1,_⟩:=hx 0 (by omega)
     rw [hC] at h1
     obtain⟨_,hlen,hc⟩:=World.cells?_some h1
     match cs,hlen with
     | [c0,c1],_ =>
      have e0:=hc 0 (by omega)
      have:=World.cell?_spot (by simpa using e0)
      simpa [Addr.add] using this
    have each:∀i,i<len→∃t:Lb,∃b off,x=⟨b,off,none⟩∧w.cell? ⟨b,off+i*2,none⟩=some t.u.val∧w.cell? ⟨b,off+i*2+1,none⟩=some t.v.val∧InI w t.u t.t∧InS w t.v t.l:=by
     intro i hi
     obtain⟨cs,g1,g2⟩:=hx i (by omega)
     rw [hC] at g1
     obtain⟨_,hlen,hc⟩:=World.cells?_some g1
     match cs,hlen with
     | [c0,c1],_ =>
      obtain⟨t,ht,hi1,hi2⟩:=ZiR g2
      have hspot:x.spot=none:=hsp (by omega)
      obtain⟨b,off,spot⟩:=x
      simp only at hspot
      subst hspot
      simp only [List.cons.injEq,and_true] at ht
      have e0:=hc 0 (by omega)
      have e1:=hc 1 (by omega)
      simp only [Addr.add_lit] at e0 e1
      refine⟨t,b,off,rfl,?_,?_,hi1,hi2⟩
      · rw [← ht.1];simpa using e0
      · rw [← ht.2];simpa using e1
    obtain⟨f,hf⟩:=@Go.Deep.choose_lt Lb ⟨Lb.zero⟩ len _ each
    have hget:∀j,j<len→((List.range len).map f).getD j Lb.zero=f j:=fun j hj=>by simp [List.getD,hj]
    refine⟨(List.range len).map f,⟨by simp,(fun e=>by cases e),hl,by show len≤_;unfold maxLen at hm;omega,fun j hj=>?_,fun t ht=>?_⟩⟩
    · replace hj:j<len:=hj
      obtain⟨b,off,rfl,e0,e1,_⟩:=hf j hj
      refine⟨b,off,rfl,?_,?_⟩
      · rw [hget j hj];exact e0
      · rw [hget j hj];exact e1
    · obtain⟨j,hj,rfl⟩:=List.mem_map.1 ht
      obtain⟨_,_,_,_,_,h1,h2⟩:=hf j (by simpa using hj)
      exact⟨h1,h2⟩
end
def Ziw (s : Sl) (L : List Lb) (e : Ending) : Prop := e = .returned (.bool false) ∨ (s.len ≤ 8 ∧ (∀ x ∈ L, Zef x.u x.v x.l) ∧ e = .returned (.bool true))
theorem ZiU (w:World)(s:Sl)(L:List Lb)(h:InL w s L) :
    Calls Tryz.prog 8 #[s.val] w fun e w'=>Ziw s L e∧Below w.heap.size w w':=by
  obtain⟨a,len,cap⟩:=s
  have HL:Hid (L.length=len):=h.len
  have hbig:len≤9223372036854775807:=h.big
  have H:=hide h
  have HLT:=hide (fun (w':World) (hb:Below w.heap.size w w') (x:Lb) (hx:x∈L)=>Zky w' x.u x.v x.l ⟨(h.it x hx).2.len,(h.it x hx).2.nil,(h.it x hx).2.le,(h.it x hx).2.big,fun i hi=>by obtain ⟨b,off,ha,hc⟩:=(h.it x hx).2.cell i hi;exact ⟨b,off,ha,Zak hc hb⟩,fun y hy=>((h.it x hx).2.bs y hy).keep hb (Nat.le_refl _)⟩ (h.it x hx).1.big)
  clear h
  unfold Sl.val
  simp only
  go_enter Tryz.func8,Tryz.ntmps8
  go_wp2_with fail
  go_loopw [3] (fun iv wr=>∃i:Nat,i≤len∧i≤8∧iv=.int .i64 (i:Nat)∧Hid (∀j,j<i→Zef (L.getD j Lb.zero).u (L.getD j Lb.zero).v (L.getD j Lb.zero).l)∧Hid (Below w.heap.size w wr)) (fun iv _=>8-(intOf iv).toNat)
  case atStart=>exact ⟨0,Nat.zero_le _,Nat.zero_le _,rfl,(fun _ h=>absurd h (Nat.not_lt_zero _)),Below.refl _ _⟩
  case round =>
   obtain⟨i,hi,hi8,rfl,hsm,hW⟩:=hrel
   rcases Nat.lt_or_ge i len with hlt | hge
   · have i1:(i:Int)<(len:Int):=by omega
     rcases Nat.lt_or_ge i 8 with h8 | h8
     · have i8:(i:Int)<8:=by omega
       obtain⟨b,off,ha,c0,c1⟩:=H.out.cell i hlt
       replace ha:a=some ⟨b,off,none⟩:=ha
       subst ha
       have hmem:L.getD i Lb.zero∈L:=Zdb (by rw [HL.out];exact hlt)
       have hlc:=HLT.out wr hW.out _ hmem
       obtain⟨x,hx⟩:∃x,x=L.getD i Lb.zero:=⟨_,rfl⟩
       rw [← hx] at c0 c1 hlc
       have HXE:=hide hx
       obtain⟨⟨ua,un,uc⟩,⟨va,vn,vc⟩,xt,xl⟩:=x
       have d0:=Zak c0 hW.out
       have d1:=Zak c1 hW.out
       have HLC:=hide hlc
       have HIX:=hide (ZbJ b off len cap i hlt)
       unfold Sl.val at d0 d1
       unfold lfV Sl.val at HLC
       simp only at d0 d1 HLC
       clear c0 c1 hlc hx hmem
       go_wp2_with fail
       refine HLC.out.mono ?_
       rintro e w1 ⟨hl | ⟨hp,hl⟩,hb1⟩
       · subst hl
         have HB:=hide (Zab hW.out hb1)
         clear hb1 hsm
         go_wp2_with fail
         go_ret
         exact⟨.inl rfl,HB.out⟩
       · subst hl
         have HB:=hide (Zab hW.out hb1)
         have HS:Hid (∀j,j<i+1→Zef (L.getD j Lb.zero).u (L.getD j Lb.zero).v (L.getD j Lb.zero).l):=by
          intro j hj
          rcases Nat.lt_or_ge j i with h1 | h1
          · exact hsm.out j h1
          · obtain rfl:j=i:=by omega
            rw [← HXE.out]
            exact hp
         clear hb1 hsm hp
         go_wp2_with fail
         go_roundw
         case rel=>exact ⟨i+1,by omega,by omega,by go_num,HS,HB⟩
         case measure=>simp only [intOf];omega
     · have i8:¬(i:Int)<8:=by omega
       have i9:¬(len:Int)≤8:=by omega
       clear hsm
       go_wp2_with fail
       go_ret
       exact⟨.inl rfl,hW.out⟩
   · have i1:¬(i:Int)<(len:Int):=by omega
     have i9:(len:Int)≤8:=by omega
     have HA:Hid (∀x∈L,Zef x.u x.v x.l):=by
      intro x hx
      obtain⟨j,hj,rfl⟩:=List.getElem_of_mem hx
      have:=hsm.out j (by rw [HL.out] at hj;omega)
      simpa [List.getD,hj] using this
     have hl8:len≤8:=by omega
     clear hsm
     go_wp2_with fail
     go_ret
     exact⟨.inr ⟨hl8,HA.out,rfl⟩,hW.out⟩
def Zjy (l : List Lf) (e : Ending) : Prop := (MayH l ∧ e = .returned (.int .i64 0)) ∨ (¬ MayH l ∧ e = .returned (.int .i64 1))
structure Zll (F : Prop) : Prop where
  check : ∀ (w : World) (s : Sl) (L : List Lb), Gl (fun _ => True) w s L → Calls Tryz.prog 14 #[s.val] w fun e w' => Zjy (lfs L) e ∧ Below w.heap.size w w'
  find : ∀ (w : World) (s : Sl) (L : List Lb) (key : Nat), Gl (fun _ => True) w s L → key < 18446744073709551616 → MayH (lfs L) → Calls Tryz.prog 10 #[s.val, .float .f64 key] w (ZhD w (lfs L) key)
  findN : ∀ (w : World) (s : Sl) (L : List Lb) (key : Nat), Gl (fun _ => True) w s L → key < 18446744073709551616 → ¬ MayH (lfs L) → Calls Tryz.prog 10 #[s.val, .float .f64 key] w fun e w' => e = .returned (.tuple #[ZcE, btV (0, 0), .bool false]) ∧ Below w.heap.size w w'
  get : ∀ (w : World) (s : Sl) (L : List Lb) (b : Bt), Gl (fun _ => True) w s L → MayH (lfs L) → Calls Tryz.prog 11 #[s.val, btV b] w (Zjz w (lfs L) b)
  getN : ∀ (w : World) (s : Sl) (L : List Lb) (b : Bt), Gl (fun _ => True) w s L → ¬ MayH (lfs L) → Calls Tryz.prog 11 #[s.val, btV b] w fun e w' => e = .returned (.tuple #[ZcE, .bool false]) ∧ Below w.heap.size w w'
  rows : ∀ (w : World) (s : Sl) (L : List Lb) (lo hi : Nat), Gl (fun _ => True) w s L → lo < 18446744073709551616 → hi < 18446744073709551616 → MayH (lfs L) → Calls Tryz.prog 12 #[s.val, .float .f64 lo, .float .f64 hi] w (ZdW w (ZaD lo hi (allH (lfs L))))
  rowsN : ∀ (w : World) (s : Sl) (L : List Lb) (lo hi : Nat), Gl (fun _ => True) w s L → lo < 18446744073709551616 → hi < 18446744073709551616 → ¬ MayH (lfs L) → Calls Tryz.prog 12 #[s.val, .float .f64 lo, .float .f64 hi] w (ZdW w [])
  put : ∀ (w : World) (s : Sl) (L : List Lb) (r : Rw) (ra : Option Addr) (rn rc : Nat) (lv : Sl) (live : List Int), Gl (fun _ => True) w s L → Fs w ra rn rc r.xs → r.fits → Gi (fun _ => True) w lv live → MayH (lfs L) → Calls Tryz.prog 20 #[s.val, r.val (.slice ra rn rc), lv.val] w (Zdz w (putH (lfs L) r live))
  putN : ∀ (w : World) (s : Sl) (L : List Lb) (r : Rw) (ra : Option Addr) (rn rc : Nat) (lv : Sl) (live : List Int), Gl (fun _ => True) w s L → Fs w ra rn rc r.xs → r.fits → Gi (fun _ => True) w lv live → ¬ MayH (lfs L) → Calls Tryz.prog 20 #[s.val, r.val (.slice ra rn rc), lv.val] w (Zdz w ⟨[], (0, 0), 1⟩)
  set : F → ∀ (w : World) (s : Sl) (L : List Lb) (b : Bt) (r : Rw) (ra : Option Addr) (rn rc : Nat) (lv : Sl) (live : List Int), Gl (fun _ => True) w s L → Fs w ra rn rc r.xs → r.fits → Gi (fun _ => True) w lv live → MayH (lfs L) → Calls Tryz.prog 21 #[s.val, btV b, r.val (.slice ra rn rc), lv.val] w (Zbu w (layH (lfs L) b r true live))
  setN : F → ∀ (w : World) (s : Sl) (L : List Lb) (b : Bt) (r : Rw) (ra : Option Addr) (rn rc : Nat) (lv : Sl) (live : List Int), Gl (fun _ => True) w s L → Fs w ra rn rc r.xs → r.fits → Gi (fun _ => True) w lv live → ¬ MayH (lfs L) → Calls Tryz.prog 21 #[s.val, btV b, r.val (.slice ra rn rc), lv.val] w (Zbu w ⟨[], 1⟩)
  lay : F → ∀ (w : World) (s : Sl) (L : List Lb) (b : Bt) (r : Rw) (ra : Option Addr) (rn rc : Nat), Gl (fun _ => True) w s L → Fs w ra rn rc r.xs → r.fits → MayH (lfs L) → Calls Tryz.prog 22 #[s.val, btV b, r.val (.slice ra rn rc)] w (Zbu w (layH (lfs L) b r false []))
  layN : F → ∀ (w : World) (s : Sl) (L : List Lb) (b : Bt) (r : Rw) (ra : Option Addr) (rn rc : Nat), Gl (fun _ => True) w s L → Fs w ra rn rc r.xs → r.fits → ¬ MayH (lfs L) → Calls Tryz.prog 22 #[s.val, btV b, r.val (.slice ra rn rc)] w (Zbu w ⟨[], 1⟩)
  drop : ∀ (w : World) (s : Sl) (L : List Lb) (b : Bt), Gl (fun _ => True) w s L → MayH (lfs L) → Calls Tryz.prog 23 #[s.val, btV b] w (Zbu w (dropH (lfs L) b))
  dropN : ∀ (w : World) (s : Sl) (L : List Lb) (b : Bt), Gl (fun _ => True) w s L → ¬ MayH (lfs L) → Calls Tryz.prog 23 #[s.val, btV b] w (Zbu w ⟨[], 1⟩)
def Zbd (n : Nat) : List Lf := List.replicate n ⟨[0, 0, 0, 0], []⟩
theorem Zij (n a : Nat) : (lf (Zbd n) a).slots = [] := by
 unfold lf Zbd
 rcases Nat.lt_or_ge a n with h | h
 · simp [List.getD, h]
 · simp [List.getD, h, Lf.zero]
theorem Zd2 (n a b : Nat) : cellH (Zbd n) a b = [] := by
 unfold cellH
 rw [Zij]
 rfl
theorem ZiX : MayL ⟨[0, 0, 0, 0], []⟩ := by
 refine ⟨⟨rfl, ?_, ?_⟩, ⟨by simp, (fun i hi => absurd hi (Nat.not_lt_zero _)), fun h => absurd rfl h⟩, by decide⟩
 · intro i hi
   have : i = 0 ∨ i = 1 ∨ i = 2 ∨ i = 3 := by omega
   rcases this with rfl | rfl | rfl | rfl <;> decide
 · intro i hi k hk h
   have : k = 0 ∨ k = 1 ∨ k = 2 ∨ k = 3 := by omega
   rcases this with rfl | rfl | rfl | rfl <;> exact absurd rfl h
theorem ZdD {n : Nat} (h1 : 1 ≤ n) (h2 : n ≤ 62) : MayH (Zbd n) := by
  refine Zey.2 ⟨fun f hf => ?_, fun a b h => absurd (Zd2 n a b) h, fun a b a' b' r r' h => ?_, ?_, ?_⟩
  · rw [(List.mem_replicate.1 hf).2]; exact ZiX
  · rw [Zd2, ZcW] at h; cases h
  · unfold Zbd; rw [List.length_replicate]; exact h1
  · unfold Zbd; rw [List.length_replicate]; exact h2
structure EmI (w0 w : World) (s : Sl) (L : List Lb) : Prop where
  own : OwnL w s L
  new : ∀ k, s.blk = some k → w0.heap.size ≤ k
  below : Below w0.heap.size w0 w
  it : ∀ x ∈ L, x.v = Sl.nil ∧ x.l = [] ∧ x.t = [0, 0, 0, 0] ∧ ∃ g, x.u = ⟨some ⟨g, 0, none⟩, 4, 4⟩ ∧ w.heap[g]? = some (Obj.cells (Zav [0, 0, 0, 0]).toArray 3 (0, 0))
theorem EmI.lfs (h : EmI w0 w s L) : lfs L = Zbd L.length := by
 unfold Go.Proofs.YtdojdcncncgncaaGreat.lfs Zbd
 rw [List.eq_replicate_iff]
 refine ⟨by simp, fun f hf => ?_⟩
 obtain ⟨x, hx, rfl⟩ := List.mem_map.1 hf
 obtain ⟨_, h2, h3, _⟩ := h.it x hx
 unfold Lb.lf
 rw [h2, h3]
 rfl
theorem EmI.gl (h:EmI w0 w s L)(hm:s.len≤900):Gl (fun _=>True) w s L:=by
 refine h.own.gl hm (fun _ _=>trivial) (fun x hx=>?_)
 obtain⟨h1,h2,h3,g,h4,h5⟩:=h.it x hx
 rw [h1,h2,h3,h4]
 refine⟨⟨rfl,(fun e=>by cases e),Nat.le_refl _,by show 4≤1000000;decide,fun _ _ _=>trivial,fun i hi=>⟨g,0,rfl,?_⟩⟩,Gb.none w⟩
 have hi4:i=0∨i=1∨i=2∨i=3:=by have:i<4:=hi;omega
 rcases hi4 with rfl | rfl | rfl | rfl <;> (rw [cell_of_row _ _ _ _ _ _ h5];rfl)
theorem EmI.start (w : World) : EmI w (w.alloc (.cells #[] 67)) ⟨some ⟨w.heap.size, 0, none⟩, 0, 0⟩ [] := by
 refine ⟨OwnL.new0 w, fun k hk => ?_, Zaa w _, fun x hx => by cases hx⟩
 have e : some w.heap.size = some k := hk
 cases e
 exact Nat.le_refl _
theorem EmI.one (h:EmI w0 w s L)(hl:L.length+1≤900) :
    ∃s' W,(∀ty,(Builtin.append_ #[22,22] ty #[s.val,.slice (some ⟨w.heap.size+1,0,none⟩) 1 1]).run Tryz.prog ((w.alloc (.cells (Zav [0,0,0,0]).toArray 3)).alloc (.cells #[.slice (some ⟨w.heap.size,0,none⟩) 4 4,.slice none 0 0] 67))=.ok s'.val W)∧EmI w0 W s' (L ++ [⟨⟨some ⟨w.heap.size,0,none⟩,4,4⟩,Sl.nil,[0,0,0,0],[]⟩]):=by
  have hA:=Zaa w (.cells (Zav [0,0,0,0]).toArray 3)
  have hB:=Zaa (w.alloc (.cells (Zav [0,0,0,0]).toArray 3)) (.cells #[.slice (some ⟨w.heap.size,0,none⟩) 4 4,.slice none 0 0] 67)
  have hAB:=Zab hA hB
  have hk:OwnL ((w.alloc (.cells (Zav [0,0,0,0]).toArray 3)).alloc (.cells #[.slice (some ⟨w.heap.size,0,none⟩) 4 4,.slice none 0 0] 67)) s L:=Own.frame h.own (fun k hk=>hAB.block k (Own.lt h.own hk))
  have hn:=heap_alloc_new w (.cells (Zav [0,0,0,0]).toArray 3)
  have hn2:((w.alloc (.cells (Zav [0,0,0,0]).toArray 3)).alloc (.cells #[.slice (some ⟨w.heap.size,0,none⟩) 4 4,.slice none 0 0] 67)).heap[w.heap.size]? = some (Obj.cells (Zav [0,0,0,0]).toArray 3 (0,0)):=(hB.block _ (by rw [Zaf];omega)).trans hn
  have hnl:=heap_alloc_new (w.alloc (.cells (Zav [0,0,0,0]).toArray 3)) (.cells #[.slice (some ⟨w.heap.size,0,none⟩) 4 4,.slice none 0 0] 67)
  rw [Zaf] at hnl
  have hsrc:Src Tryz.prog 2 22 (.slice (some ⟨w.heap.size+1,0,none⟩) 1 1) 1 (Za0 [⟨⟨some ⟨w.heap.size,0,none⟩,4,4⟩,Sl.nil,[0,0,0,0],[]⟩]) ((w.alloc (.cells (Zav [0,0,0,0]).toArray 3)).alloc (.cells #[.slice (some ⟨w.heap.size,0,none⟩) 4 4,.slice none 0 0] 67)):=by
   refine Src.ofSlice _ Tryz.underlying22 ⟨w.heap.size+1,0,none⟩ 1 1 _ rfl (fun j u hj=>?_) (Zd5 _)
   rw [Addr.add_lit,cell_of_row _ _ _ _ _ _ hnl]
   simpa [Za0,Sl.val,Sl.nil] using hj
  obtain⟨s',W,hrun,ho,hlen,hfr,hbk⟩:=ZaR Tryz.underlying22 Zm0 rfl (by decide) _ s (Za0 L) hk (Zd5 L) _ 1 _ hsrc (by rw [← OwnL.len h.own];omega) 0
  have hkeep:∀g:Nat,((w.alloc (.cells (Zav [0,0,0,0]).toArray 3)).alloc (.cells #[.slice (some ⟨w.heap.size,0,none⟩) 4 4,.slice none 0 0] 67)).heap[g]? = some (Obj.cells (Zav [0,0,0,0]).toArray 3 (0,0))→W.heap[g]? = some (Obj.cells (Zav [0,0,0,0]).toArray 3 (0,0)):=by
   intro g hg
   refine(hfr.block g (Array.getElem?_eq_some_iff.1 hg).1 (fun e=>?_)).trans hg
   obtain⟨cur,hcur⟩:=Own.kind hk e
   rw [hg] at hcur
   simp only [Option.some.injEq,Obj.cells.injEq] at hcur
   exact absurd hcur.2.1 (by decide)
  refine⟨s',W,fun ty=>hrun,⟨by unfold OwnL;rw [Zf5];exact ho,fun k e=>?_,?_,fun x hx=>?_⟩⟩
  · rcases hbk with e' | ⟨e',_⟩
    · exact h.new k (by rw [← e'];exact e)
    · rw [e'] at e
      cases e
      have:=h.below.size
      rw [Zaf,Zaf]
      omega
  · have hb0:Below w0.heap.size w0 ((w.alloc (.cells (Zav [0,0,0,0]).toArray 3)).alloc (.cells #[.slice (some ⟨w.heap.size,0,none⟩) 4 4,.slice none 0 0] 67)):=Zab h.below hAB
    exact hb0.trans (hfr.below hb0.size (fun k e=>h.new k e))
  · rcases List.mem_append.1 hx with hx | hx
    · obtain⟨h1,h2,h3,g,h4,h5⟩:=h.it x hx
      exact⟨h1,h2,h3,g,h4,hkeep g ((hAB.block g (Array.getElem?_eq_some_iff.1 h5).1).trans h5)⟩
    · rw [List.mem_singleton.1 hx]
      exact⟨rfl,rfl,rfl,w.heap.size,rfl,hkeep _ hn2⟩
def Zms (w : World) (n : Nat) (e : Ending) (w' : World) : Prop := ∃ (s : Sl) (L : List Lb), e = .returned (.slice s.a s.len s.cap) ∧ EmI w w' s L ∧ L.length = n
theorem Zi9 (w:World)(n:Nat)(hn:n≤800) :
    Calls Tryz.prog 28 #[.int .i64 (n:Int)] w (Zms w n):=by
  have HS:=hide (EmI.start w)
  go_enter Tryz.func28,Tryz.ntmps28
  go_wp2_with fail
  generalize w.alloc (.cells #[] 67)=W0 at *
  go_loopw [3,4] (fun v iv wr=>∃(i:Nat) (s:Sl) (L:List Lb),i≤n∧iv=.int .i64 (i:Nat)∧v=.slice s.a s.len s.cap∧Hid (EmI w wr s L)∧Hid (L.length=i)) (fun _ iv _=>n-(intOf iv).toNat)
  case atStart=>exact ⟨0,_,[],Nat.zero_le _,rfl,rfl,HS,rfl⟩
  case round =>
   obtain⟨i,s,L,hi,rfl,rfl,hE,hL⟩:=hrel
   rcases Nat.lt_or_ge i n with hlt | hge
   · have j1:(i:Int)<(n:Int):=by omega
     obtain⟨s',W,hrun,hE2⟩:=hE.out.one (by rw [hL.out];omega)
     have HR:=hide hrun
     have HE2:=hide hE2
     have HL2:Hid ((L ++ [(⟨⟨some ⟨wr.heap.size,0,none⟩,4,4⟩,Sl.nil,[0,0,0,0],[]⟩:Lb)]).length=i+1):=by show _=_;rw [List.length_append,hL.out];rfl
     have hmk:=Zk3 4 (by decide) wr
     have HMK:=hide hmk
     unfold Sl.val at HR
     clear hrun hE2 hE hmk
     go_wp2_with (first | refine ZeE _ rfl 46 (.const (.int .i64 4)) (.const (.int .i64 4)) rfl (.int .i64 4) (.int .i64 4) (.slice (some ⟨wr.heap.size,0,none⟩) 4 4) rfl rfl _ HMK.out ?_ | (at_builtin;refine Zaj _ rfl 22 (.tmp 11) (.tmp 14) rfl (.slice s.a s.len s.cap) (.slice (some ⟨wr.heap.size+1,0,none⟩) 1 1) (.slice s'.a s'.len s'.cap) rfl rfl W HR.out ?_))
     go_roundw
     case rel=>exact ⟨i+1,s',_,by omega,by go_num,rfl,HE2,HL2⟩
     case measure=>simp only [intOf];omega
   · have j1:¬(i:Int)<(n:Int):=by omega
     have e0:i=n:=by omega
     have HEND:Hid (Zms w n (.returned (.slice s.a s.len s.cap)) wr):=⟨s,L,rfl,hE.out,by rw [hL.out,e0]⟩
     clear hE hL e0
     go_wp2_with fail
     go_ret
     exact HEND.out
theorem Zff {r : Rw} (hm : r.may = true) : insA [] (hpB r) = ⟨[hpB r], 0, 0⟩ := by
 have h := Zhe hm
 unfold insA
 rw [if_neg (by omega)]
 have e : insS [] (hpB r) = [hpB r] := rfl
 rw [e, if_neg (by simp [need, needS, h])]
 rfl
theorem ZkI (h1 : 1 ≤ n) (h2 : n ≤ 62) {r : Rw} (hm : r.may = true) (hw : r.wr ≠ 0) : Zj3 (Zbd n) r [] 0 := by
 have hn : findH (Zbd n) r.key = none := ZeW.2 (fun a b q hq => by rw [Zd2, ZcW] at hq; cases hq)
 have h0 : (insA (lf (Zbd n) 0).slots (hpB r)).e = 0 := by rw [Zij, Zff hm]
 rcases Zno (ZdD h1 h2) hm hw hn with ⟨hr, _⟩ | ⟨i, p⟩
 · exact absurd h0 (Zc7.1 hr 0 (by unfold Zbd; rw [List.length_replicate]; exact h1))
 · obtain ⟨_, _, _, h4⟩ := Zbl p.room
   cases i with
   | zero => exact p
   | succ i => exact absurd h0 (h4 0 (by omega))
def awR : Rw := ⟨4613937818241073152, false, [], 5, 0, 0⟩
theorem ZgU : awR.may = true := by decide
theorem Zf1 : awR.fits := ⟨by decide, (fun x hx => by cases hx), by decide, by decide, by decide⟩
theorem Zmw : putH (Zbd 2) awR [] = ⟨[⟨[5, 0, 0, 0], [hpB awR]⟩, ⟨[0, 0, 0, 0], []⟩], (0, 0), 0⟩ := by
 have p := ZkI (n := 2) (by decide) (by decide) ZgU (by decide)
 rw [p.is]
 have e : lf (Zbd 2) 0 = ⟨[0, 0, 0, 0], []⟩ := rfl
 have e2 : putL (lf (Zbd 2) 0) awR [] = ⟨[5, 0, 0, 0], [hpB awR]⟩ := by
  unfold putL
  rw [e, Zff ZgU]
  rfl
 rw [e2]
 rfl
def awL : List Lf := [⟨[5, 0, 0, 0], [hpB awR]⟩, ⟨[0, 0, 0, 0], []⟩]
theorem Zmv : MayH awL := by
 have h := Zk6 (ZdD (n := 2) (by decide) (by decide)) Zf1 []
 rw [Zmw] at h
 exact h
theorem Zmu : allH awL = [⟨awR, 0, 0⟩] := by
 unfold awL allH rowsH rowsS
 simp only [ZhQ ZgU Zf1, rowsS, rowsH, List.append_nil]
theorem ZmC : findH awL 4613937818241073152 = some ⟨awR, 0, 0⟩ := by
 unfold findH
 rw [Zmu]
 rfl
theorem ZmD : ZaD 0 4621256167635550208 (allH awL) = [awR] := by
 rw [Zmu]
 rfl
theorem Zb3 {F:Prop}(HS:Zll F)(w:World):Calls Tryz.prog 9 #[] w fun e w'=>e=.returned (.bool true)∧Below w.heap.size w w':=by
 have hsf:∀(w:World) (a:Addr) (m:Mode) (x:Nat),(store a (.float .f64 x) m).run Tryz.prog w=stored Tryz.prog w a (.float .f64 x) m:=fun w a m x=>run_store Tryz.prog w a _ m rfl
 have HE:=hide (Zi9 w 2 (by decide))
 have HH:=hide HS
 clear HS
 go_enter Tryz.func9,Tryz.ntmps9
 go_wp2_with fail
 refine HE.out.mono ?_
 rintro e w1 ⟨⟨sa,sn,sc⟩,L,rfl,hE,hL⟩
 have hlf:lfs L=Zbd 2:=by rw [hE.lfs,hL]
 have hsn:sn≤900:=by have:=hE.own.len;rw [hL] at this;simp only at this;omega
 have hP:=HH.out.put w1 ⟨sa,sn,sc⟩ L awR none 0 0 Sl.nil [] (hE.gl hsn) (Zmx w1) Zf1 (Gi.none w1) (by rw [hlf];exact ZdD (by decide) (by decide))
 rw [hlf,Zmw] at hP
 have HP:=hide hP
 have HB1:=hide hE.below
 unfold Rw.val awR Sl.val Sl.nil at HP
 simp only at HP
 clear hE hL hlf hP hsn HE
 go_wp2_with fail
 refine HP.out.mono ?_
 rintro e w2 ⟨hb2,⟨ta,tn,tc⟩,M,rfl,hM,hMl⟩
 have HB2:=hide (Zab HB1.out hb2)
 have hA:=Zaa w2 (.cells #[.int .i64 0,.int .i64 0] 26)
 have hq:=ZaB w2 (0,0)
 have hst:=ZeK _ w2.heap.size _ hq (0,0)
 have hfr:=Zdt (w2.alloc (.cells #[.int .i64 0,.int .i64 0] 26)) w2.heap.size (0,0)
 have hB3:Below w2.heap.size w2 (setBt (w2.alloc (.cells #[.int .i64 0,.int .i64 0] 26)) w2.heap.size (0,0)):=hA.trans (hfr.below hA.size (fun k hk=>by rw [hk];exact Nat.le_refl _))
 have HQ:=hide (ZaO hq (0,0))
 generalize setBt (w2.alloc (.cells #[.int .i64 0,.int .i64 0] 26)) w2.heap.size (0,0)=W3 at *
 have HST:=hide hst
 have HB3:=hide (Zab HB2.out hB3)
 have HM:=hide (hM.below hB3 (Nat.le_refl _))
 have hMl':lfs M=awL:=hMl
 have hF:=HH.out.find W3 ⟨ta,tn,tc⟩ M 4613937818241073152 HM.out (by decide) (by rw [hMl'];exact Zmv)
 have HF:=hide hF
 have HML:=hide hMl'
 unfold btV at HST
 unfold Sl.val at HF
 simp only at HST HF
 clear hb2 hM hMl hMl' HP hA hq hst hfr hB3 hF
 unfold btV
 go_wp2_with (refine Zac _ rfl rfl 26 (.tmp 2) (.tmp 12) rfl (.pointer (some ⟨w2.heap.size,0,none⟩)) (.agg #[.int .i64 0,.int .i64 0]) rfl rfl W3 HST.out ?_)
 refine HF.out.mono ?_
 intro e w4 ht
 obtain⟨hff,x,hxr,hre,hxc⟩:=ht.2.2 ⟨awR,0,0⟩ (by rw [HML.out];exact ZmC)
 subst hre
 have HB4:=hide (Zab HB3.out ht.1)
 have HQ4:=hide (HQ.out.keep ht.1)
 have HM4:=hide (HM.out.below ht.1 (Nat.le_refl _))
 have hs4:w2.heap.size<w4.heap.size:=HQ4.out.lt
 have hz1:=Zaa w4 (.cells #[.float .f64 0,.bool false,.slice none 0 0,.int .i64 0,.int .i64 0,.int .i64 0] 33)
 have hz2:=Zaa (w4.alloc (.cells #[.float .f64 0,.bool false,.slice none 0 0,.int .i64 0,.int .i64 0,.int .i64 0] 33)) (.cells #[.int .i64 0,.int .i64 0] 26)
 have hzr:RwBlk ((w4.alloc (.cells #[.float .f64 0,.bool false,.slice none 0 0,.int .i64 0,.int .i64 0,.int .i64 0] 33)).alloc (.cells #[.int .i64 0,.int .i64 0] 26)) w4.heap.size zeroR (.slice none 0 0):=(Zai w4 zeroR (.slice none 0 0)).keep hz2
 have hzq:BtBlk ((w4.alloc (.cells #[.float .f64 0,.bool false,.slice none 0 0,.int .i64 0,.int .i64 0,.int .i64 0] 33)).alloc (.cells #[.int .i64 0,.int .i64 0] 26)) (w4.heap.size+1) (0,0):=by
  have:=ZaB (w4.alloc (.cells #[.float .f64 0,.bool false,.slice none 0 0,.int .i64 0,.int .i64 0,.int .i64 0] 33)) (0,0)
  rwa [Zaf] at this
 have hzs:((w4.alloc (.cells #[.float .f64 0,.bool false,.slice none 0 0,.int .i64 0,.int .i64 0,.int .i64 0] 33)).alloc (.cells #[.int .i64 0,.int .i64 0] 26)).heap.size=w4.heap.size+2:=by rw [Zaf,Zaf]
 have hst1:=Znx _ w4.heap.size _ _ hzr x.r x.a x.n x.c
 have hfr1:=Ze6 ((w4.alloc (.cells #[.float .f64 0,.bool false,.slice none 0 0,.int .i64 0,.int .i64 0,.int .i64 0] 33)).alloc (.cells #[.int .i64 0,.int .i64 0] 26)) w4.heap.size x.r (.slice x.a x.n x.c)
 have hx1:=Zcr hzr x.r (.slice x.a x.n x.c)
 have hzq1:BtBlk (setRw ((w4.alloc (.cells #[.float .f64 0,.bool false,.slice none 0 0,.int .i64 0,.int .i64 0,.int .i64 0] 33)).alloc (.cells #[.int .i64 0,.int .i64 0] 26)) w4.heap.size x.r (.slice x.a x.n x.c)) (w4.heap.size+1) (0,0):=(hfr1.block _ hzq.lt (by omega)).trans hzq
 have hB1:Below w4.heap.size w4 (setRw ((w4.alloc (.cells #[.float .f64 0,.bool false,.slice none 0 0,.int .i64 0,.int .i64 0,.int .i64 0] 33)).alloc (.cells #[.int .i64 0,.int .i64 0] 26)) w4.heap.size x.r (.slice x.a x.n x.c)):=(Zab hz1 hz2).trans (hfr1.below (by omega) (fun k hk=>by rw [hk];exact Nat.le_refl _))
 generalize setRw ((w4.alloc (.cells #[.float .f64 0,.bool false,.slice none 0 0,.int .i64 0,.int .i64 0,.int .i64 0] 33)).alloc (.cells #[.int .i64 0,.int .i64 0] 26)) w4.heap.size x.r (.slice x.a x.n x.c)=Wa at *
 have hst2:=ZeK Wa (w4.heap.size+1) _ hzq1 (0,0)
 have hfr2:=Zdt Wa (w4.heap.size+1) (0,0)
 have hq2:=ZaO hzq1 (0,0)
 have hx2:RwBlk (setBt Wa (w4.heap.size+1) (0,0)) w4.heap.size x.r (.slice x.a x.n x.c):=(hfr2.block _ (Array.getElem?_eq_some_iff.1 hx1).1 (by omega)).trans hx1
 have hB5:Below w4.heap.size w4 (setBt Wa (w4.heap.size+1) (0,0)):=hB1.trans (hfr2.below hB1.size (fun k hk=>by rw [hk];omega))
 generalize setBt Wa (w4.heap.size+1) (0,0)=W5 at *
 have HST1:=hide hst1
 have HST2:=hide hst2
 have hq5:=HQ4.out.keep hB5
 have HB5:=hide (Zab HB4.out hB5)
 have HM5:=hide (HM4.out.below hB5 (Nat.le_refl _))
 have hR:=HH.out.rows W5 ⟨ta,tn,tc⟩ M 0 4621256167635550208 HM5.out (by decide) (by decide) (by rw [HML.out];exact Zmv)
 rw [HML.out,ZmD] at hR
 have HR:=hide hR
 unfold Rw.val at HST1
 unfold btV at HST2
 unfold Sl.val at HR
 simp only at HR HST2
 have x3:=hx2.c3
 rw [hxr] at x3
 have x3':W5.cell? ⟨w4.heap.size,3,none⟩=some (.int .i64 5):=x3
 have q0:=hq5.c0
 have q1:=hq5.c1
 have p0:=hq2.c0
 have p1:=hq2.c1
 simp only at q0 q1 p0 p1
 clear ht hff hxc hz1 hz2 hzr hzq hzs hst1 hfr1 hx1 hzq1 hB1 hst2 hfr2 hq2 hx2 hB5 hq5 hR x3 hxr HF
 unfold Rx.val Rw.val
 go_wp2_with (first | refine Zac _ rfl rfl 33 (.tmp 4) (.tmp 17) rfl (.pointer (some ⟨w4.heap.size,0,none⟩)) (.agg #[.float .f64 x.r.key,.bool x.r.dead,.slice x.a x.n x.c,.int .i64 x.r.wr,.int .i64 x.r.cell,.int .i64 x.r.no]) rfl rfl Wa HST1.out ?_ | refine Zac _ rfl rfl 26 (.tmp 5) (.tmp 18) rfl (.pointer (some ⟨w4.heap.size+1,0,none⟩)) (.agg #[.int .i64 0,.int .i64 0]) rfl rfl W5 HST2.out ?_)
 refine HR.out.mono ?_
 rintro e w6 ⟨hb6,⟨ya,yn,yc⟩,Y,rfl,hY,hYl⟩
 have hyn:yn=1:=by
  have h1:=hY.rz.len
  have h2:=congrArg List.length hYl
  rw [Zcn] at h2
  simp only [List.length_cons,List.length_nil] at h1 h2
  omega
 subst hyn
 have HB6:=hide (Zab HB5.out hb6)
 clear hb6 hY hYl q0 q1 p0 p1 x3'
 go_wp2_with fail
 go_ret
 exact⟨rfl,HB6.out⟩
theorem Zjq {x y : Rx} (h : x.r = y.r) (w : World) (hx : Fs w x.a x.n x.c x.r.xs) (hy : Fs w y.a y.n y.c y.r.xs) : Calls Tryz.prog 15 #[x.val, y.val] w fun e w' => e = .returned (.bool true) ∧ Below w.heap.size w w' := by
 obtain ⟨r, a, n, c⟩ := x
 obtain ⟨q, a2, n2, c2⟩ := y
 simp only at h hx hy
 subst h
 exact Zhw r a n c a2 n2 c2 w hx hy
theorem rws6 (w0 w:World)(b off len c b2 off2 c2 i:Nat)(hi:i<len)(x y:Rx)(hx:RwAt w0 b (off+i*6) x)(hy:RwAt w0 b2 (off2+i*6) y)(hxy:x.r=y.r)(hfx:Fs w0 x.a x.n x.c x.r.xs)(hfy:Fs w0 y.a y.n y.c y.r.xs)(hW:Below w0.heap.size w0 w)
    {Q:Exit→Act→World→Prop}{A:Act}(hsz:A.tmps.size=27)(hdf:A.defers=[])(s0:A.tmps.getD 0 undef=.slice (some ⟨b,off,none⟩) len c)(s1:A.tmps.getD 1 undef=.slice (some ⟨b2,off2,none⟩) len c2)(s5:A.tmps.getD 5 undef=.int .i64 (i:Int))
    (hend:∀(u:Nat→Value) w',Below w0.heap.size w0 w'→Q .normal (((((((((((A).put (some 17) (u 17)).put (some 18) (u 18)).put (some 19) (u 19)).put (some 20) (u 20)).put (some 21) (u 21)).put (some 22) (u 22)).put (some 23) (u 23)).put (some 24) (u 24)).put (some 25) (u 25)).put (some 26) (.bool false)) w') :
    (Code.region 6 (Pl.find 6 ((Tryz.f18.body).getD .skip)) true).wp Tryz.prog Q A w:=by
  have hS0:Below w0.heap.size w0 w.drew:=hW.drew
  have hA:=Pl.At.same (v:=.int .i64 (i:Int)) (d:=5) (Pl.At.same (v:=.slice (some ⟨b2,off2,none⟩) len c2) (d:=1) (Pl.At.same (v:=.slice (some ⟨b,off,none⟩) len c) (d:=0) (Pl.At.here hsz hdf) s0) s1) s5
  refine Pl.qa (S:=fun w'=>Below w0.heap.size w0 w') hA hS0 ?_
  rw [show (Pl.find 6 ((Tryz.f18.body).getD .skip)).size=10 by kernel_rfl]
  refine Pl.q0 0 17 (.slice (some ⟨b,off,none⟩) len c) (Pl.q1) (Pl.q2 (.tmp 0)) hS0 ?_
  refine Pl.q0 1 18 (.int .i64 (i:Int)) (Pl.q1) (Pl.q2 (.tmp 5)) hS0 ?_
  refine Pl.q0 2 19 (.pointer (some ⟨b,off+i*6,none⟩)) (Pl.q1) (Pl.qb 38 (.tmp 17) (.tmp 18) (Zbv b off len c i hi)) hS0 ?_
  refine Pl.q0 3 20 (x.val) (Pl.q1) (Pl.q4 33 (.tmp 19) (fun w' hS=>Zci b (off+i*6) x w' (hx.keep hS (Nat.le_refl _)))) hS0 ?_
  refine Pl.q0 4 21 (.slice (some ⟨b2,off2,none⟩) len c2) (Pl.q1) (Pl.q2 (.tmp 1)) hS0 ?_
  refine Pl.q0 5 22 (.int .i64 (i:Int)) (Pl.q1) (Pl.q2 (.tmp 5)) hS0 ?_
  refine Pl.q0 6 23 (.pointer (some ⟨b2,off2+i*6,none⟩)) (Pl.q1) (Pl.qb 38 (.tmp 21) (.tmp 22) (Zbv b2 off2 len c2 i hi)) hS0 ?_
  refine Pl.q0 7 24 (y.val) (Pl.q1) (Pl.q4 33 (.tmp 23) (fun w' hS=>Zci b2 (off2+i*6) y w' (hy.keep hS (Nat.le_refl _)))) hS0 ?_
  refine Pl.qd 8 25 15 [(.tmp 20),(.tmp 24)] #[33,33] (Pl.q1) Zlx (Calls.mono (Zjq hxy w.drew (hfx.keep hS0 (Nat.le_refl _)) (hfy.keep hS0 (Nat.le_refl _))) ?_)
  rintro e w1 ⟨rfl,hb1⟩
  have hS1:Below w0.heap.size w0 w1:=Zab hS0 hb1
  refine⟨.bool true,rfl,hS1,?_⟩
  refine Pl.q0 9 26 (.bool false) (Pl.q1) (Pl.qq 4 (.tmp 25) true) hS1 ?_
  refine Pl.q7 (fun A' hA'=>?_)
  rw [Pl.At.ext hA' ((((((((((hA.put 17 _).put 18 _).put 19 _).put 20 _).put 21 _).put 22 _).put 23 _).put 24 _).put 25 _).put 26 _)]
  exact hend hA'.fn _ hS1
theorem ZfU (w:World)(s s2:Sl)(l m:List Rx)(h:Zb2 w s l)(h2:Zb2 w s2 m)(he:rws l=rws m)(hb:s.len≤1000000) :
    Calls Tryz.prog 18 #[.slice s.a s.len s.cap,.slice s2.a s2.len s2.cap] w fun e w'=>e=.returned (.bool true)∧Below w.heap.size w w':=by
  have hl:s.len=s2.len:=by
   have h1:=congrArg List.length he
   rw [Zcn,Zcn,h.rz.len,h2.rz.len] at h1
   exact h1
  obtain⟨a,len,cap⟩:=s
  obtain⟨a2,len2,cap2⟩:=s2
  simp only at hl hb
  subst hl
  have H:=hide h
  have H2:=hide h2
  have HE:=hide he
  clear h h2 he
  simp only
  go_enter Tryz.func18,Tryz.ntmps18
  go_wp2_with fail
  go_loopw [5] (fun iv wr=>∃i:Nat,i≤len∧iv=.int .i64 (i:Nat)∧Hid (Below w.heap.size w wr)) (fun iv _=>len-(intOf iv).toNat)
  case atStart=>exact ⟨0,Nat.zero_le _,rfl,Below.refl _ _⟩
  case round =>
   obtain⟨i,hi,rfl,hW⟩:=hrel
   rcases Nat.lt_or_ge i len with hlt | hge
   · have j1:(i:Int)<(len:Int):=by omega
     have hr:=H.out.rz.keep hW.out (Nat.le_refl _)
     have hr2:=H2.out.rz.keep hW.out (Nat.le_refl _)
     obtain⟨b,off,ha,hx⟩:=hr.at' i hlt
     obtain⟨b2,off2,ha2,hy⟩:=hr2.at' i hlt
     replace ha:a=some ⟨b,off,none⟩:=ha
     replace ha2:a2=some ⟨b2,off2,none⟩:=ha2
     subst ha ha2
     have hfx:=hr.cols _ (hr.mem hlt)
     have hfy:=hr2.cols _ (hr2.mem hlt)
     have hxy:(l.getD i Rx.zero).r=(m.getD i Rx.zero).r:=by rw [← ZfV,← ZfV,HE.out]
     have HX:=hide hx
     have HY:=hide hy
     have HFX:=hide hfx
     have HFY:=hide hfy
     have HXY:=hide hxy
     clear hr hr2 hx hy hfx hfy hxy
     go_wp2_with fail
     refine Pl.q9 (ops:=Pl.find 6 ((Tryz.f18.body).getD .skip)) ?_
     refine rws6 wr wr b off len cap b2 off2 cap2 i hlt _ _ HX.out HY.out HXY.out HFX.out HFY.out (Below.refl _ _) (by rfl) (by rfl) (by rfl) (by rfl) (by rfl) ?_
     intro u w3 hb3
     simp only [Act.put,List.setIfInBounds_toArray,List.set_cons_zero,List.set_cons_succ]
     have HW3:=hide (Zab hW.out hb3)
     clear hb3
     go_wp2_with fail
     go_roundw
     case rel=>exact ⟨i+1,by omega,by go_num,HW3⟩
     case measure=>simp only [intOf];omega
   · have j1:¬(i:Int)<(len:Int):=by omega
     go_wp2_with fail
     go_ret
     exact⟨rfl,hW.out⟩
theorem Gl.allLen {D : Nat → Prop} (h : Gl D w s L) : (allH (lfs L)).length ≤ 900000 := by
 have hs : ∀ f ∈ lfs L, f.slots.length ≤ 1000 := by
  intro f hf
  obtain ⟨x, hx, rfl⟩ := List.mem_map.1 hf
  have := (h.it x hx).2
  show (bss x.l).length ≤ 1000
  rw [Zah, this.len]
  exact this.big
 have h1 := ZfT (lfs L) 0 hs
 have h2 := h.big
 have h3 := h.len
 rw [Za8] at h1
 have h4 : L.length * 1000 ≤ 900 * 1000 := Nat.mul_le_mul_right _ (by omega)
 unfold allH
 omega
theorem Zjh (lo hi : Nat) (l : List Hr) : (ZaD lo hi l).length ≤ l.length := by
 have := ZgJ lo hi l l.length (Nat.le_refl _)
 rwa [List.take_length] at this
end Go.Proofs.YtdojdcncncgncaaGreat
