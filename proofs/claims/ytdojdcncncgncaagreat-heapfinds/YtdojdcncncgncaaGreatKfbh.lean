/-
  Lemmas.
-/
import Derived.Test.YtdojdcncncgncaaGreatKfbg
namespace Go.Proofs.YtdojdcncncgncaaGreat
open Go.RowKit
set_option linter.unusedVariables false
set_option maxRecDepth 100000
set_option maxHeartbeats 4000000
variable {w w0 w':World}{p:Nat}{y:Sx}{s:Sl}{S:List Sx}
theorem Gl.good {D:Nat→Prop}{L:List Lb}(h:Gl D w s L):∀g∈allH (lfs L),ZeS g.r:=by
 intro g hg
 obtain⟨h1,h2,h3⟩:=Zeg.1 hg
 refine⟨(ZjX ?_ h3).key,(Zed hg).1⟩
 have hm:lf (lfs L) g.i∈lfs L:=Zby h1
 obtain⟨x,hx,hxe⟩:=List.mem_map.1 hm
 rw [← hxe] at h2 ⊢
 have hk:g.k<x.v.len:=by
  have e:(bss x.l).length=x.v.len:=by rw [Zah,(h.it x hx).2.len]
  rw [← e];exact h2
 exact((h.it x hx).2.at hk).1.came.bs.2.1
structure Std (w0 w : World) (s : Sl) (S : List Sx) : Prop where
  own : Own 72 8 w s (ZaJ S)
  new : ∀ k, s.blk = some k → w0.heap.size ≤ k
  below : Below w0.heap.size w0 w
  flt : ∀ y ∈ S, ColF w y.x
  fits : ∀ y ∈ S, y.x.r.fits
theorem Std.keep {w0 w w' : World} {s : Sl} {S : List Sx} (h : Std w0 w s S) (hb : Below w.heap.size w w') : Std w0 w' s S :=
  ⟨Own.frame h.own (fun k hk => hb.block k (Own.lt h.own hk)), h.new, h.below.trans (hb.mono h.below.size), fun y hy => (h.flt y hy).keep hb, h.fits⟩
def ZfE (w0 : World) (l : List Lf) (e : Ending) (w' : World) : Prop :=
  (MayH l ∧ ∃ s S, e = .returned (.tuple #[s.val, .int .i64 0]) ∧ Std w0 w' s S ∧ S.map Sx.hr = allH l) ∨ (¬ MayH l ∧ e = .returned (.tuple #[.slice none 0 0, .int .i64 1]) ∧ Below w0.heap.size w0 w')
theorem Zha {l:List Hr}(h:S.map Sx.hr=l)(hg:∀g∈l,ZeS g.r):(rkS S).Nodup↔ZbD l:=by
 subst h
 unfold ZbD rkS List.Nodup
 rw [List.pairwise_map,List.pairwise_map]
 refine List.Pairwise.iff_of_mem (fun {a b} ha hb=>?_)
 have ga:=hg _ (List.mem_map_of_mem ha)
 have gb:=hg _ (List.mem_map_of_mem hb)
 constructor
 · intro hne he
   exact hne (by simp only [Sx.hr] at he;rw [he])
 · intro hne he
   exact hne (ZmL ga.fit gb.fit ga.key gb.key (by simp only [Sx.hr];omega))
theorem Zlq (w : World) : Stk w ((w.alloc (.cells #[.slice none 0 0] 68)).alloc (.cells #[.slice none 0 0] 105)) w.heap.size (w.heap.size + 1) [] := by
 have h1 := Zaa w (.cells #[.slice none 0 0] 68)
 have h2 := Zaa (w.alloc (.cells #[.slice none 0 0] 68)) (.cells #[.slice none 0 0] 105)
 have e1 := heap_alloc_new w (.cells #[.slice none 0 0] 68)
 have e2 := heap_alloc_new (w.alloc (.cells #[.slice none 0 0] 68)) (.cells #[.slice none 0 0] 105)
 rw [Zae] at e2
 refine ⟨⟨⟨none, 0, 0⟩, ⟨none, 0, 0⟩, (h2.block _ (by rw [Zae]; omega)).trans e1, e2, ⟨rfl, .inl ⟨rfl, rfl⟩⟩, ⟨rfl, .inl ⟨rfl, rfl⟩⟩, ?_, ?_⟩, Nat.le_refl _, by omega, Zac h1 h2, ?_, ?_⟩
 · intro k hk; cases hk
 · intro k hk; cases hk
 · intro y hy; cases hy
 · intro y hy; cases hy
theorem Zbm (w:World)(s:Sl)(L:List Lb)(h:Gl (fun _=>True) w s L) :
    Calls Tryz.prog 33 #[s.val] w (ZfE w (lfs L)):=by
  have hsf:∀(w:World) (a:Addr) (m:Mode) (x:Nat),(store a (.float .f64 x) m).run Tryz.prog w=stored Tryz.prog w a (.float .f64 x) m:=fun w a m x=>run_store Tryz.prog w a _ m rfl
  obtain⟨a,len,cap⟩:=s
  have HG:=hide h
  have HL:Hid ((lfs L).length=len):=by show _=_;rw [Za6];exact h.len
  have hbig:len≤900:=h.big
  have HX:=hide (ZiJ w ⟨a,len,cap⟩ L h)
  have HGD:=hide h.good
  clear h
  unfold Sl.val at *
  simp only at *
  rcases Nat.lt_or_ge len 1 with h1 | h1
  · have i1:(len:Int)<1:=by omega
    have HNO:Hid (¬MayH (lfs L)):=fun hm=>by have:=hm.pos;rw [HL.out] at this;omega
    have d1:=decide_eq_true i1
    go_enter Tryz.func33,Tryz.ntmps33
    go_wp2_with fail
    go_ret2
    exact .inr ⟨HNO.out,rfl,Below.refl _ _⟩
  · have i1:¬(len:Int)<1:=by omega
    have d1:=decide_eq_false i1
    rcases Nat.lt_or_ge 62 len with h2 | h2
    · have i2:(62:Int)<(len:Int):=by omega
      have d2:=decide_eq_true i2
      have HNO:Hid (¬MayH (lfs L)):=fun hm=>by have:=hm.few;rw [HL.out] at this;omega
      go_enter Tryz.func33,Tryz.ntmps33
      go_wp2_with fail
      go_ret2
      exact .inr ⟨HNO.out,rfl,Below.refl _ _⟩
    · have i2:¬(62:Int)<(len:Int):=by omega
      have d2:=decide_eq_false i2
      go_enter Tryz.func33,Tryz.ntmps33
      go_wp2_with fail
      refine HX.out.mono ?_
      rintro e w1 ⟨hx,hb⟩
      rcases hx with ⟨hm,rfl⟩ | ⟨hm,rfl⟩
      · have HST:=hide (Zlq w1)
        have hgw1:=HG.out.below hb (Nat.le_refl _)
        have HEA:=hide (ZlC w1 _ ⟨a,len,cap⟩ L w1.heap.size (w1.heap.size+1) hgw1 hm h2 HST.out)
        have HB:=hide hb
        have HM:=hide hm
        clear hb hm hgw1
        unfold Sl.val at HEA
        simp only at HEA
        go_wp2_with fail
        refine HEA.out.mono ?_
        rintro e w2 hea
        rcases hea with ⟨hok,rfl,S,hS,hrows⟩ | ⟨hno,rfl,hb2⟩
        · obtain⟨⟨sa,sn,sc⟩,⟨ra,rn,rc⟩,e1,e2,o1,o2,n1,n2⟩:=hS.ex
          have hSl:(rkS S).length≤62*64:=by
           unfold rkS
           have:=congrArg List.length hrows
           rw [List.length_map] at this ⊢
           rw [this]
           have h3:=Zc8 (lfs L) 0 (fun f hf=>(HM.out f hf).slots.1)
           rw [HL.out] at h3
           have:len*64≤62*64:=Nat.mul_le_mul_right _ h2
           exact Nat.le_trans h3 this
          have HTW:=hide (Zlv w2 ⟨ra,rn,rc⟩ (rkS S) o2 (by omega))
          have c5:=(Zbc e2).1
          have HFR:Hid (∀w3,Frm (fun k=>(Sl.mk ra rn rc).blk=some k) w2 w3→w3.cell? ⟨w1.heap.size,0,none⟩=some (.slice sa sn sc)∧Std w w3 ⟨sa,sn,sc⟩ S):=by
           intro w3 hf
           have hk:∀(k:Nat) (C:Array Value) (t:TypeId) (fr:Nat × Nat),w2.heap[k]? = some (Obj.cells C t fr)→t≠100→w3.heap[k]? = w2.heap[k]?:=by
            intro k C t fr hk ht
            refine hf.block k (Array.getElem?_eq_some_iff.1 hk).1 (fun e=>?_)
            obtain⟨cur,hcur⟩:=Own.kind o2 e
            rw [hk] at hcur
            simp only [Option.some.injEq,Obj.cells.injEq] at hcur
            exact ht hcur.2.1
           have f1:=(hk _ _ _ _ e1 (by decide)).trans e1
           refine⟨(Zbc f1).1,Own.frame o1 (fun k hh=>?_),fun k hh=>Nat.le_trans HB.out.size (n1 k hh),?_,fun y hy=>(hS.flt y hy).frm hf (fun k hh C fr hc=>?_),hS.fits⟩
           · obtain⟨cur,hcur⟩:=Own.kind o1 hh
             exact hk _ _ _ _ hcur (by decide)
           · have hb2:=Zac HB.out hS.below
             exact hb2.trans (hf.below hb2.size (fun k hh=>Nat.le_trans HB.out.size (n2 k hh)))
           · obtain⟨cur,hcur⟩:=Own.kind o2 hh
             rw [hc] at hcur
             simp only [Option.some.injEq,Obj.cells.injEq] at hcur
             exact absurd hcur.2.1 (by decide)
          have HND:=hide (Zha hrows HGD.out)
          have HRW:=hide hrows
          have HOK:=hide hok
          clear hS e1 e2 o1 o2 n1 n2 hSl hrows hok HEA HST
          unfold Sl.val at HTW c5
          simp only at HTW c5
          by_cases hk:ZbD (allH (lfs L))
          · have HMAY:Hid (MayH (lfs L)):=⟨HM.out,HOK.out,hk,by rw [HL.out];exact h1,by rw [HL.out];exact h2⟩
            have hd:(!decide (rkS S).Nodup)=false:=by rw [decide_eq_true (HND.out.2 hk)];rfl
            rw [hd] at HTW
            clear hk hd
            go_wp2_with fail
            refine HTW.out.mono ?_
            rintro e w3 ⟨rfl,hf⟩
            obtain⟨c4,hstd⟩:=HFR.out w3 hf
            have HSTD:=hide hstd
            clear hf hstd HFR HTW
            go_wp2_with fail
            go_ret2
            exact .inl ⟨HMAY.out,⟨sa,sn,sc⟩,S,rfl,HSTD.out,HRW.out⟩
          · have HNO:Hid (¬MayH (lfs L)):=fun hh=>hk hh.keys
            have hd:(!decide (rkS S).Nodup)=true:=by rw [decide_eq_false (fun h=>hk (HND.out.1 h))];rfl
            rw [hd] at HTW
            clear hk hd
            go_wp2_with fail
            refine HTW.out.mono ?_
            rintro e w3 ⟨rfl,hf⟩
            obtain⟨c4,hstd⟩:=HFR.out w3 hf
            have HSTD:=hide hstd
            clear hf hstd HFR HTW
            go_wp2_with fail
            go_ret2
            exact .inr ⟨HNO.out,rfl,HSTD.out.below⟩
        · have HNO:Hid (¬MayH (lfs L)):=fun hh=>hno hh.rows
          have HB2:=hide (Zac HB.out hb2)
          clear hno hb2
          go_wp2_with fail
          go_ret2
          exact .inr ⟨HNO.out,rfl,HB2.out⟩
      · have HNO:Hid (¬MayH (lfs L)):=fun hh=>hm hh.leaf
        have HB:=hide hb
        clear hb hm
        go_wp2_with fail
        go_ret2
        exact .inr ⟨HNO.out,rfl,HB.out⟩
def SxBlk (w : World) (p : Nat) (y : Sx) : Prop := w.heap[p]? = some (Obj.cells y.cells.toArray 72 (0, 0))
theorem SxBlk.lt {w : World} {p : Nat} {y : Sx} (h : SxBlk w p y) : p < w.heap.size := (Array.getElem?_eq_some_iff.1 h).1
theorem SxBlk.keep {w w' : World} {p : Nat} {y : Sx} (h : SxBlk w p y) (hb : Below w.heap.size w w') : SxBlk w' p y := (hb.block p h.lt).trans h
theorem SxBlk.new (w : World) (y : Sx) : SxBlk (w.alloc (.cells y.cells.toArray 72)) w.heap.size y := heap_alloc_new w _
theorem SxBlk.c0 {w : World} {p : Nat} {y : Sx} (h : SxBlk w p y) : w.cell? ⟨p, 0, none⟩ = some (.int .i64 (y.i : Nat)) := by unfold SxBlk at h; rw [cell_of_row _ _ _ _ _ _ h]; rfl
theorem SxBlk.c1 {w : World} {p : Nat} {y : Sx} (h : SxBlk w p y) : w.cell? ⟨p, 1, none⟩ = some (.int .i64 (y.k : Nat)) := by unfold SxBlk at h; rw [cell_of_row _ _ _ _ _ _ h]; rfl
theorem SxBlk.c2 {w : World} {p : Nat} {y : Sx} (h : SxBlk w p y) : w.cell? ⟨p, 2, none⟩ = some (.float .f64 y.x.r.key) := by unfold SxBlk at h; rw [cell_of_row _ _ _ _ _ _ h]; rfl
theorem SxBlk.c3 {w : World} {p : Nat} {y : Sx} (h : SxBlk w p y) : w.cell? ⟨p, 3, none⟩ = some (.bool y.x.r.dead) := by unfold SxBlk at h; rw [cell_of_row _ _ _ _ _ _ h]; rfl
theorem SxBlk.c4 {w : World} {p : Nat} {y : Sx} (h : SxBlk w p y) : w.cell? ⟨p, 4, none⟩ = some (.slice y.x.a y.x.n y.x.c) := by unfold SxBlk at h; rw [cell_of_row _ _ _ _ _ _ h]; rfl
theorem SxBlk.c5 {w : World} {p : Nat} {y : Sx} (h : SxBlk w p y) : w.cell? ⟨p, 5, none⟩ = some (.int .i64 y.x.r.wr) := by unfold SxBlk at h; rw [cell_of_row _ _ _ _ _ _ h]; rfl
theorem SxBlk.c6 {w : World} {p : Nat} {y : Sx} (h : SxBlk w p y) : w.cell? ⟨p, 6, none⟩ = some (.int .i64 y.x.r.cell) := by unfold SxBlk at h; rw [cell_of_row _ _ _ _ _ _ h]; rfl
theorem SxBlk.c7 {w : World} {p : Nat} {y : Sx} (h : SxBlk w p y) : w.cell? ⟨p, 7, none⟩ = some (.int .i64 y.x.r.no) := by unfold SxBlk at h; rw [cell_of_row _ _ _ _ _ _ h]; rfl
structure SxAt (w : World) (b o : Nat) (y : Sx) : Prop where
  c0 : w.cell? ⟨b, o, none⟩ = some (.int .i64 (y.i : Nat))
  c1 : w.cell? ⟨b, o + 1, none⟩ = some (.int .i64 (y.k : Nat))
  c2 : w.cell? ⟨b, o + 2, none⟩ = some (.float .f64 y.x.r.key)
  c3 : w.cell? ⟨b, o + 3, none⟩ = some (.bool y.x.r.dead)
  c4 : w.cell? ⟨b, o + 4, none⟩ = some (.slice y.x.a y.x.n y.x.c)
  c5 : w.cell? ⟨b, o + 5, none⟩ = some (.int .i64 y.x.r.wr)
  c6 : w.cell? ⟨b, o + 6, none⟩ = some (.int .i64 y.x.r.cell)
  c7 : w.cell? ⟨b, o + 7, none⟩ = some (.int .i64 y.x.r.no)
theorem Ze6 {b o : Nat} (h : SxAt w b o y) : (Instr.loadAt 72 (.pointer (some ⟨b, o, none⟩))).run Tryz.prog w = .ok y.val w := by
 have c0 := h.c0
 have c1 := h.c1
 have c2 := h.c2
 have c3 := h.c3
 have c4 := h.c4
 have c5 := h.c5
 have c6 := h.c6
 have c7 := h.c7
 simp [go_sem, c0, c1, c2, c3, c4, c5, c6, c7, Sx.val]
theorem Zdk (b o len cap k:Nat)(hk:k<len)(w:World):(Instr.indexAt 68 (.slice (some ⟨b,o,none⟩) len cap) (.int .i64 (k:Nat))).run Tryz.prog w=.ok (.pointer (some ⟨b,o+k*8,none⟩)) w:=by
 have h22:Tryz.prog.underlying 68=some (.slice (Tryz.prog.elem 68)):=by kernel_rfl
 have h1:(0:Int)≤(k:Int):=by omega
 simp [go_sem,Instr.indexAt,run_underlying h22,h1,Addr.add_lit]
 omega
theorem ZbW (y:Sx)(w:World):(Instr.storeAt 72 (.pointer (some ⟨w.heap.size,0,none⟩)) y.val).run Tryz.prog (w.alloc (.cells #[.int .i64 0,.int .i64 0,.float .f64 0,.bool false,.slice none 0 0,.int .i64 0,.int .i64 0,.int .i64 0] 72))=.ok () (w.alloc (.cells y.cells.toArray 72)):=by
 have hsf:∀(w:World) (a:Addr) (m:Mode) (x:Nat),(store a (.float .f64 x) m).run Tryz.prog w=stored Tryz.prog w a (.float .f64 x) m:=fun w a m x=>run_store Tryz.prog w a _ m rfl
 simp [go_sem,Instr.storeAt,hsf,Sx.val,Sx.cells]
theorem Std.cell (h:Std w0 w s S){i:Nat}(hi:i<S.length):∃b off,s.a=some ⟨b,off,none⟩∧SxAt w b (off+i*8) (S.getD i Sx.zero):=by
 rcases h.own.2 with ⟨rfl,h0⟩ | ⟨g,off,cur,ha,hg,hoc,hlc,hcm,ht⟩
 · have:=congrArg List.length h0
   rw [Zc0] at this
   simp at this
   omega
 · refine⟨g,off,ha,?_⟩
   have hc:∀t,t<8→∀u,(S.getD i Sx.zero).cells[t]? = some u→w.cell? ⟨g,off+(i*8+t),none⟩=some u:=by
    intro t ht u hu
    have:=h.own.cell ha (i*8+t) u (by rw [Zfe S i t hi ht];exact hu)
    rw [Addr.add_lit] at this
    exact this
   exact⟨hc 0 (by omega) _ rfl,hc 1 (by omega) _ rfl,hc 2 (by omega) _ rfl,hc 3 (by omega) _ rfl,hc 4 (by omega) _ rfl,hc 5 (by omega) _ rfl,hc 6 (by omega) _ rfl,hc 7 (by omega) _ rfl⟩
theorem Std.len {w0 w : World} {s : Sl} {S : List Sx} (h : Std w0 w s S) : S.length = s.len := by have := h.own.1; rw [Zc0] at this; omega
def ZcG (w : World) (p : Nat) (k : Nat) : Prop := w.heap[p]? = some (Obj.cells #[.float .f64 k] 23 (0, 0))
theorem ZcG.keep {w w' : World} {p k : Nat} (h : ZcG w p k) (hb : Below w.heap.size w w') : ZcG w' p k := (hb.block p (Array.getElem?_eq_some_iff.1 h).1).trans h
theorem ZcG.c0 {w : World} {p k : Nat} (h : ZcG w p k) : w.cell? ⟨p, 0, none⟩ = some (.float .f64 k) := (Zbc h).1
theorem ZfN {a b : Nat} (ha : a < 18446744073709551616) (hb : b < 18446744073709551616) : (cmp a b == 0) = (Fl.key a == Fl.key b) := by
 have h1 := Zgd ha hb
 have h2 := Zgd hb ha
 have e : (Fl.key a == Fl.key b) = decide (Fl.rk a = Fl.rk b) := by
  by_cases h : Fl.key a = Fl.key b
  · have : Fl.rk a = Fl.rk b := by unfold Fl.rk; rw [h]
    rw [decide_eq_true this]; exact beq_iff_eq.2 h
  · have : ¬ Fl.rk a = Fl.rk b := fun e => h (by rw [← Fl.of_rk a ha, ← Fl.of_rk b hb, e])
    rw [decide_eq_false this]; exact beq_eq_false_iff_ne.2 h
 rw [e]
 unfold cmp
 by_cases c1 : Fl.less a b = true
 · have := h1.1 c1
   rw [if_pos c1, decide_eq_false (by omega)]; rfl
 · by_cases c2 : Fl.less b a = true
   · have := h2.1 c2
     rw [if_neg c1, if_pos c2, decide_eq_false (by omega)]; rfl
   · have n1 : ¬ Fl.rk a < Fl.rk b := fun h => c1 (h1.2 h)
     have n2 : ¬ Fl.rk b < Fl.rk a := fun h => c2 (h2.2 h)
     rw [if_neg c1, if_neg c2, decide_eq_true (by omega)]; rfl
def ofK (k : Nat) (y : Sx) : Bool := Fl.key y.x.r.key == Fl.key k
def inB (b : Bt) (y : Sx) : Bool := ((y.i : Int) == b.1) && ((y.k : Int) == b.2)
theorem Znx (w:World)(y:Sx)(g key:Nat)(hy:y.x.r.key<18446744073709551616)(hk:key<18446744073709551616)(hg:ZcG w g key) :
    Calls Tryz.prog 76 #[y.val,.pointer (some ⟨g,0,none⟩)] w fun e w'=>e=.returned (.bool (ofK key y))∧Below w.heap.size w w':=by
  have hB:=Zaa w (.cells y.cells.toArray 72)
  have hX:=SxBlk.new w y
  have HB:=hide hB
  have g0:=(hg.keep hB).c0
  have x2:=hX.c2
  have hcz:=ZfN hy hk
  have HC:=hide (fun w=>ZbL y.x.r.key key hy hk w)
  have HR:Hid ((cmp y.x.r.key key == 0)=ofK key y):=hcz
  clear hB hX hg hcz
  generalize cmp y.x.r.key key=z at *
  generalize ofK key y=r at *
  unfold Sx.cells at *
  unfold Sx.val at *
  have hrz:=HR.out
  clear HR
  cases hz:(z == 0) with
  | true =>
   have hz0:z=0:=beq_iff_eq.1 hz
   rw [hz] at hrz
   subst hrz hz0
   go_enter Tryz.func76,Tryz.ntmps76
   go_wp2_with fail
   refine(HC.out _).mono ?_
   rintro e w1 ⟨rfl,hw⟩
   obtain rfl:=hw.symm
   go_wp2_with fail
   go_ret
   exact⟨rfl,HB.out⟩
  | false =>
   have hz0:¬z=0:=fun e=>by rw [e] at hz;cases hz
   rw [hz] at hrz
   subst hrz
   go_enter Tryz.func76,Tryz.ntmps76
   go_wp2_with fail
   refine(HC.out _).mono ?_
   rintro e w1 ⟨rfl,hw⟩
   obtain rfl:=hw.symm
   go_wp2_with fail
   go_ret
   exact⟨by first | rfl | simp [hz] | simp [hz0],HB.out⟩
theorem Znm (w : World) (y : Sx) (g : Nat) (b : Bt) (hg : BtBlk w g b) :
    Calls Tryz.prog 77 #[y.val, .pointer (some ⟨g, 0, none⟩)] w fun e w' => e = .returned (.bool (inB b y)) ∧ Below w.heap.size w w' := by
  have hB := Zaa w (.cells y.cells.toArray 72)
  have hX := SxBlk.new w y
  have HB := hide (fun o => Zaa w o)
  have g0 := (hg.keep hB).c0
  have g1 := (hg.keep hB).c1
  have x0 := hX.c0
  have x1 := hX.c1
  have HR : Hid (inB b y = (((y.i : Int) == b.1) && ((y.k : Int) == b.2))) := rfl
  clear hB hX hg
  generalize inB b y = r at *
  unfold Sx.cells at *
  unfold Sx.val at *
  obtain ⟨b1, b2⟩ := b
  simp only at *
  go_enter Tryz.func77, Tryz.ntmps77
  go_wp2_with fail
  all_goals
   go_ret
   exact ⟨by rw [HR.out]; simp [*], HB.out _⟩
def ZmR (w : World) (S : List Sx) (p : Sx → Bool) (e : Ending) (w' : World) : Prop :=
  ((∃ i, ∃ hi : i < S.length, p S[i] = true ∧ (∀ j (hj : j < i), p (S[j]'(by omega)) = false) ∧ e = .returned (.int .i64 (i : Nat))) ∨ ((∀ j (hj : j < S.length), p S[j] = false) ∧ e = .returned (.int .i64 (-1)))) ∧ Below w.heap.size w w'
theorem ZlT (w0 w:World)(s:Sl)(S:List Sx)(h:Std w0 w s S)(hl:S.length≤100000)(g:Nat)(key:Nat)(hk:key<18446744073709551616)(hg:ZcG w g key) :
    Calls Tryz.prog 75 #[s.val,.func (.func 76) #[] #[.pointer (some ⟨g,0,none⟩)]] w (ZmR w S (ofK key)):=by
  obtain⟨a,len,cap⟩:=s
  have HS:=hide h
  have HL:Hid (S.length=len):=h.len
  have hl':len≤100000:=by rw [← HL.out];exact hl
  have HG:=hide hg
  clear h hl hg
  unfold Sl.val
  simp only
  go_enter Tryz.func75,Tryz.ntmps75
  go_wp2_with fail
  go_loopw [8] (fun iv wr=>∃i:Nat,i≤len∧iv=.int .i64 (i:Nat)∧Hid (Below w.heap.size w wr)∧Hid (∀j (hj:j<S.length),j<i→ofK key (S[j])=false)) (fun iv _=>len-(intOf iv).toNat)
  case atStart=>exact ⟨0,Nat.zero_le _,rfl,Below.refl _ _,fun _ _ h=>absurd h (Nat.not_lt_zero _)⟩
  case round =>
   obtain⟨i,hi,rfl,hW,hix⟩:=hrel
   rcases Nat.lt_or_ge i len with hlt | hge
   · have i1:(i:Int)<(len:Int):=by omega
     have hsl:i<S.length:=by rw [HL.out];exact hlt
     obtain⟨bb,oo,ha,c0⟩:=(HS.out.keep hW.out).cell hsl
     replace ha:a=some ⟨bb,oo,none⟩:=ha
     subst ha
     have hge:S.getD i Sx.zero=S[i]:=by simp [List.getD,hsl]
     rw [hge] at c0
     have HLD:=hide (Ze6 c0)
     have HIX:=hide (Zdk bb oo len cap i hlt)
     have hfit:=HS.out.fits _ (List.getElem_mem hsl)
     have HSL:=hide hsl
     have HCL:=hide (Znx wr S[i] g key hfit.key hk (HG.out.keep hW.out))
     generalize hy:S[i]=y at *
     have HY:=hide hy
     clear c0 hge hsl hfit hy
     unfold Sx.val at HLD HCL
     cases hp:ofK key y with
     | true =>
      rw [hp] at HCL
      have HP:=hide hp
      clear hp
      go_wp2_with (first | refine Zas _ rfl 72 (.tmp 14) rfl (.pointer (some ⟨bb,oo+i*8,none⟩)) _ rfl HLD.out ?_)
      refine HCL.out.mono ?_
      rintro e w1 ⟨rfl,hb⟩
      have HB:=hide (Zac hW.out hb)
      clear hb
      go_wp2_with fail
      go_ret
      exact⟨.inl ⟨i,HSL.out,(congrArg (ofK key) HY.out).trans HP.out,fun j hj=>hix.out j (Nat.lt_trans hj HSL.out) hj,rfl⟩,HB.out⟩
     | false =>
      rw [hp] at HCL
      have HE:Hid (∀j (hj:j<S.length),j<i+1→ofK key (S[j])=false):=by
       intro j hj hji
       by_cases e:j=i
       · subst e;exact (congrArg (ofK key) HY.out).trans hp
       · exact hix.out j hj (by omega)
      clear hp hix
      go_wp2_with (first | refine Zas _ rfl 72 (.tmp 14) rfl (.pointer (some ⟨bb,oo+i*8,none⟩)) _ rfl HLD.out ?_)
      refine HCL.out.mono ?_
      rintro e w1 ⟨rfl,hb⟩
      have HB:=hide (Zac hW.out hb)
      clear hb
      go_wp2_with fail
      go_roundw
      case rel=>exact ⟨i+1,by omega,by go_num,HB,HE⟩
      case measure=>simp only [intOf];omega
   · have i1:¬(i:Int)<(len:Int):=by omega
     have HE:Hid (∀j (hj:j<S.length),ofK key (S[j])=false):=fun j hj=>hix.out j hj (by rw [HL.out] at hj;omega)
     clear hix
     go_wp2_with fail
     go_ret
     exact⟨.inr ⟨HE.out,rfl⟩,hW.out⟩
def ZmQ (w : World) (S : List Sx) (p : Sx → Bool) (e : Ending) (w' : World) : Prop :=
  ((∃ i, ∃ hi : i < S.length, p S[i] = true ∧ (∀ j (hj : j < i), p (S[j]'(by omega)) = false) ∧ e = .returned (.int .i64 (i : Nat))) ∨ ((∀ j (hj : j < S.length), p S[j] = false) ∧ e = .returned (.int .i64 (-1)))) ∧ Below w.heap.size w w'
theorem ZlQ (w0 w:World)(s:Sl)(S:List Sx)(h:Std w0 w s S)(hl:S.length≤100000)(g:Nat)(b:Bt)(hg:BtBlk w g b) :
    Calls Tryz.prog 75 #[s.val,.func (.func 77) #[] #[.pointer (some ⟨g,0,none⟩)]] w (ZmQ w S (inB b)):=by
  obtain⟨a,len,cap⟩:=s
  have HS:=hide h
  have HL:Hid (S.length=len):=h.len
  have hl':len≤100000:=by rw [← HL.out];exact hl
  have HG:=hide hg
  clear h hl hg
  unfold Sl.val
  simp only
  go_enter Tryz.func75,Tryz.ntmps75
  go_wp2_with fail
  go_loopw [8] (fun iv wr=>∃i:Nat,i≤len∧iv=.int .i64 (i:Nat)∧Hid (Below w.heap.size w wr)∧Hid (∀j (hj:j<S.length),j<i→inB b (S[j])=false)) (fun iv _=>len-(intOf iv).toNat)
  case atStart=>exact ⟨0,Nat.zero_le _,rfl,Below.refl _ _,fun _ _ h=>absurd h (Nat.not_lt_zero _)⟩
  case round =>
   obtain⟨i,hi,rfl,hW,hix⟩:=hrel
   rcases Nat.lt_or_ge i len with hlt | hge
   · have i1:(i:Int)<(len:Int):=by omega
     have hsl:i<S.length:=by rw [HL.out];exact hlt
     obtain⟨bb,oo,ha,c0⟩:=(HS.out.keep hW.out).cell hsl
     replace ha:a=some ⟨bb,oo,none⟩:=ha
     subst ha
     have hge:S.getD i Sx.zero=S[i]:=by simp [List.getD,hsl]
     rw [hge] at c0
     have HLD:=hide (Ze6 c0)
     have HIX:=hide (Zdk bb oo len cap i hlt)
     have hfit:=HS.out.fits _ (List.getElem_mem hsl)
     have HSL:=hide hsl
     have HCL:=hide (Znm wr S[i] g b (HG.out.keep hW.out))
     generalize hy:S[i]=y at *
     have HY:=hide hy
     clear c0 hge hsl hfit hy
     unfold Sx.val at HLD HCL
     cases hp:inB b y with
     | true =>
      rw [hp] at HCL
      have HP:=hide hp
      clear hp
      go_wp2_with (first | refine Zas _ rfl 72 (.tmp 14) rfl (.pointer (some ⟨bb,oo+i*8,none⟩)) _ rfl HLD.out ?_)
      refine HCL.out.mono ?_
      rintro e w1 ⟨rfl,hb⟩
      have HB:=hide (Zac hW.out hb)
      clear hb
      go_wp2_with fail
      go_ret
      exact⟨.inl ⟨i,HSL.out,(congrArg (inB b) HY.out).trans HP.out,fun j hj=>hix.out j (Nat.lt_trans hj HSL.out) hj,rfl⟩,HB.out⟩
     | false =>
      rw [hp] at HCL
      have HE:Hid (∀j (hj:j<S.length),j<i+1→inB b (S[j])=false):=by
       intro j hj hji
       by_cases e:j=i
       · subst e;exact (congrArg (inB b) HY.out).trans hp
       · exact hix.out j hj (by omega)
      clear hp hix
      go_wp2_with (first | refine Zas _ rfl 72 (.tmp 14) rfl (.pointer (some ⟨bb,oo+i*8,none⟩)) _ rfl HLD.out ?_)
      refine HCL.out.mono ?_
      rintro e w1 ⟨rfl,hb⟩
      have HB:=hide (Zac hW.out hb)
      clear hb
      go_wp2_with fail
      go_roundw
      case rel=>exact ⟨i+1,by omega,by go_num,HB,HE⟩
      case measure=>simp only [intOf];omega
   · have i1:¬(i:Int)<(len:Int):=by omega
     have HE:Hid (∀j (hj:j<S.length),inB b (S[j])=false):=fun j hj=>hix.out j hj (by rw [HL.out] at hj;omega)
     clear hix
     go_wp2_with fail
     go_ret
     exact⟨.inr ⟨HE.out,rfl⟩,hW.out⟩
end Go.Proofs.YtdojdcncncgncaaGreat
