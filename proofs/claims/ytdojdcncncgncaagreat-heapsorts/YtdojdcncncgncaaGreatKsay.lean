/-
  Lemmas.
-/
import Derived.Test.YtdojdcncncgncaaGreatKsax
namespace Go.Proofs.YtdojdcncncgncaaGreat
open Go.RowKit
set_option linter.unusedVariables false
set_option maxRecDepth 100000
set_option maxHeartbeats 4000000
variable {w W0 V W:World}{y:Bt}{x:Rx}{q g B b1 o1 b2 o2 p:Nat}{l:List Lb}{s:Sl}
theorem Ze6 (w : World) (g : Nat) (r : Rw) (c : Value) : Frm (fun k => k = g) w (setRw w g r c) :=
  ((((((Frm.refl (fun k => k = g) w).setCell (p := ⟨g, 0, none⟩) rfl _).setCell (p := ⟨g, 1, none⟩) rfl _).setCell (p := ⟨g, 2, none⟩) rfl _).setCell (p := ⟨g, 3, none⟩) rfl _).setCell (p := ⟨g, 4, none⟩) rfl _).setCell (p := ⟨g, 5, none⟩) rfl _
theorem Znx (w:World)(p:Nat)(X:Rw)(C:Value)(k:RwBlk w p X C)(r:Rw)(a:Option Addr)(n c:Nat):(Instr.storeAt 33 (.pointer (some ⟨p,0,none⟩)) (r.val (.slice a n c))).run Tryz.prog w=.ok () (setRw w p r (.slice a n c)):=by
 have hsf:∀(w:World) (a:Addr) (m:Mode) (x:Nat),(store a (.float .f64 x) m).run Tryz.prog w=stored Tryz.prog w a (.float .f64 x) m:=fun w a m x=>run_store Tryz.prog w a _ m rfl
 have c0:=k.c0
 have c1:=k.c1
 have c2:=k.c2
 have c3:=k.c3
 have c4:=k.c4
 have c5:=k.c5
 have f0:=k.fz
 simp [go_sem,Instr.storeAt,stored,hsf,c0,c1,c2,c3,c4,c5,f0,Rw.val,setRw]
def setBt (w : World) (g : Nat) (x : Bt) : World := (w.setCell ⟨g, 0, none⟩ (.int .i64 x.1)).setCell ⟨g, 1, none⟩ (.int .i64 x.2)
theorem Zdt (w : World) (g : Nat) (x : Bt) : Frm (fun k => k = g) w (setBt w g x) := ((Frm.refl (fun k => k = g) w).setCell (p := ⟨g, 0, none⟩) rfl _).setCell (p := ⟨g, 1, none⟩) rfl _
theorem ZaO (h : BtBlk w g y) (x : Bt) : BtBlk (setBt w g x) g x := by
 unfold BtBlk setBt at *
 have h1 : (w.setCell ⟨g, 0, none⟩ (.int .i64 x.1)).heap[g]? = some (Obj.cells #[.int .i64 x.1, .int .i64 y.2] 26 (0, 0)) := by
  rw [heap_setCell_same w g 0 _ 26 (.int .i64 x.1) h]; rfl
 rw [heap_setCell_same _ g 1 _ 26 (.int .i64 x.2) h1]
 rfl
theorem ZeK (w : World) (p : Nat) (y : Bt) (k : BtBlk w p y) (x : Bt) : (Instr.storeAt 26 (.pointer (some ⟨p, 0, none⟩)) (btV x)).run Tryz.prog w = .ok () (setBt w p x) := by
 have c0 := k.c0
 have c1 := k.c1
 have f0 := k.fz
 simp [go_sem, Instr.storeAt, stored, c0, c1, f0, btV, setBt]
structure FS (B : Nat) (W0 V : World) (b1 o1 b2 o2 p q : Nat) (x : Rx) (y : Bt) (w : World) : Prop where
  rx : RwAt w b1 o1 x
  y0 : w.cell? ⟨b2, o2, none⟩ = some (.int .i64 y.1)
  y1 : w.cell? ⟨b2, o2 + 1, none⟩ = some (.int .i64 y.2)
  kp : ∃ X C, RwBlk w p X C
  kq : ∃ Y, BtBlk w q Y
  e : Below B W0 w
  f : Frm (fun k => k = p ∨ k = q) V w
  ne : b1 ≠ p ∧ b1 ≠ q ∧ b2 ≠ p ∧ b2 ≠ q ∧ p ≠ q ∧ B ≤ p ∧ B ≤ q
theorem RwAt.frm {w W : World} {b o : Nat} {x : Rx} (h : RwAt w b o x) (hs : W.heap[b]? = w.heap[b]?) : RwAt W b o x :=
  ⟨(Za3 hs _).trans h.c0, (Za3 hs _).trans h.c1, (Za3 hs _).trans h.c2, (Za3 hs _).trans h.c3, (Za3 hs _).trans h.c4, (Za3 hs _).trans h.c5⟩
theorem FS.frm (h : FS B W0 V b1 o1 b2 o2 p q x y w) (hg : g = p ∨ g = q) (f : Frm (fun k => k = g) w W) (kp : ∃ X C, RwBlk W p X C) (kq : ∃ Y, BtBlk W q Y) : FS B W0 V b1 o1 b2 o2 p q x y W := by
 obtain ⟨n1, n2, n3, n4, n5, n6, n7⟩ := h.ne
 have l1 := World.block_lt_of_cell? _ _ h.rx.c0
 have l2 := World.block_lt_of_cell? _ _ h.y0
 have s1 : W.heap[b1]? = w.heap[b1]? := f.block b1 l1 (fun e => by rcases hg with rfl | rfl <;> omega)
 have s2 : W.heap[b2]? = w.heap[b2]? := f.block b2 l2 (fun e => by rcases hg with rfl | rfl <;> omega)
 have hB : B ≤ w.heap.size := by
  obtain ⟨_, _, k⟩ := h.kp
  have := (Array.getElem?_eq_some_iff.1 k).1
  omega
 refine ⟨h.rx.frm s1, (Za3 s2 _).trans h.y0, (Za3 s2 _).trans h.y1, kp, kq, h.e.trans (f.below hB (fun k hk => by rcases hg with rfl | rfl <;> omega)), h.f.trans f (fun i _ hi => by rcases hg with rfl | rfl; exact .inl hi; exact .inr hi), h.ne⟩
theorem FS.row {B : Nat} {W0 V : World} {b1 o1 b2 o2 p q : Nat} {x : Rx} {y : Bt} {w : World} (h : FS B W0 V b1 o1 b2 o2 p q x y w) :
    ∃ W, (Instr.storeAt 33 (.pointer (some ⟨p, 0, none⟩)) x.val).run Tryz.prog w = .ok () W ∧ FS B W0 V b1 o1 b2 o2 p q x y W ∧ RwBlk W p x.r (.slice x.a x.n x.c) := by
  obtain ⟨X, C, kp⟩ := h.kp
  obtain ⟨Y, kq⟩ := h.kq
  have k' := Zcr kp x.r (.slice x.a x.n x.c)
  have f := Ze6 w p x.r (.slice x.a x.n x.c)
  exact ⟨_, Znx w p X C kp x.r x.a x.n x.c, h.frm (.inl rfl) f ⟨_, _, k'⟩ ⟨Y, (f.block q kq.lt (fun e => h.ne.2.2.2.2.1 e.symm)).trans kq⟩, k'⟩
theorem FS.bt {B : Nat} {W0 V : World} {b1 o1 b2 o2 p q : Nat} {x : Rx} {y : Bt} {w : World} (h : FS B W0 V b1 o1 b2 o2 p q x y w) {X : Rw} {C : Value} (kp : RwBlk w p X C) :
    ∃ W, (Instr.storeAt 26 (.pointer (some ⟨q, 0, none⟩)) (btV y)).run Tryz.prog w = .ok () W ∧ FS B W0 V b1 o1 b2 o2 p q x y W ∧ RwBlk W p X C ∧ BtBlk W q y := by
  obtain ⟨Y, kq⟩ := h.kq
  have k' := ZaO kq y
  have f := Zdt w q y
  have kp' : RwBlk (setBt w q y) p X C := (f.block p (Array.getElem?_eq_some_iff.1 kp).1 (fun e => h.ne.2.2.2.2.1 e)).trans kp
  exact ⟨_, ZeK w q Y kq y, h.frm (.inr rfl) f ⟨_, _, kp'⟩ ⟨_, k'⟩, kp', k'⟩
theorem FS.drew {B : Nat} {W0 V : World} {b1 o1 b2 o2 p q : Nat} {x : Rx} {y : Bt} {w : World} (h : FS B W0 V b1 o1 b2 o2 p q x y w) : FS B W0 V b1 o1 b2 o2 p q x y w.drew :=
  ⟨⟨h.rx.c0, h.rx.c1, h.rx.c2, h.rx.c3, h.rx.c4, h.rx.c5⟩, h.y0, h.y1, h.kp, h.kq, h.e.drew, h.f.drew, h.ne⟩
structure Zm7 (w w' : World) (e : Ending) (r : Rw) (b : Bt) : Prop where
  f : r.fits
  col : ∃ x : Rx, x.r = r ∧ e = .returned (.tuple #[x.val, btV b, .bool true]) ∧ ColF w' x
def ZhD (w : World) (l : List Lf) (k : Nat) (e : Ending) (w' : World) : Prop :=
  Below w.heap.size w w' ∧ (findH l k = none → e = .returned (.tuple #[ZcE, btV (0, 0), .bool false])) ∧ ∀ h, findH l k = some h → Zm7 w w' e h.r ((h.i : Int), (h.k : Int))
theorem Zhf {fn : Func} {x y z : Nat} (hr : fn.results = #[.cell x 33, .cell y 26, .tmp z]) {W : World} {g q : Nat} {r : Rw} {a : Option Addr} {n c : Nat} {b : Bt} (h : RwBlk W g r (.slice a n c)) (hq : BtBlk W q b) (tmps : Array Value) (u : Value) (tx : tmps.getD x undef = .pointer (some ⟨g, 0, none⟩)) (ty : tmps.getD y undef = .pointer (some ⟨q, 0, none⟩)) (tz : tmps.getD z undef = u) :
    (results fn tmps).run Tryz.prog W = .ok (.tuple #[r.val (.slice a n c), btV b, u]) W := by
  have c0 := h.c0
  have c1 := h.c1
  have c2 := h.c2
  have c3 := h.c3
  have c4 := h.c4
  have c5 := h.c5
  have d0 := hq.c0
  have d1 := hq.c1
  have tx2 : tmps[x]?.getD undef = .pointer (some ⟨g, 0, none⟩) := by simpa using tx
  have ty2 : tmps[y]?.getD undef = .pointer (some ⟨q, 0, none⟩) := by simpa using ty
  have tz2 : tmps[z]?.getD undef = u := by simpa using tz
  simp [results, hr, tx2, ty2, tz2, go_sem, c0, c1, c2, c3, c4, c5, d0, d1, Rw.val, btV]
def Zjz (w : World) (l : List Lf) (b : Bt) (e : Ending) (w' : World) : Prop :=
  Below w.heap.size w w' ∧ (getH l b = none → e = .returned (.tuple #[ZcE, .bool false])) ∧ ∀ r, getH l b = some r → r.fits ∧ ∃ x : Rx, x.r = r ∧ e = .returned (.tuple #[x.val, .bool true]) ∧ ColF w' x
def Za0 (l : List Lb) : List Value := l.flatMap fun x => [x.u.val, x.v.val]
theorem Zcw : ∀ l : List Lb, (Za0 l).length = l.length * 2
  | [] => rfl
  | x :: l => by
    have e : Za0 (x :: l) = [x.u.val, x.v.val] ++ Za0 l := rfl
    rw [e, List.length_append, Zcw l, List.length_cons]
    simp only [List.length_cons, List.length_nil]
    omega
theorem Zf5 (l m : List Lb) : Za0 (l ++ m) = Za0 l ++ Za0 m := by simp [Za0]
theorem Zd5 (l : List Lb) : ∀ u ∈ Za0 l, u.oneCell' = true := by
 intro u hu
 obtain ⟨x, _, hx⟩ := List.mem_flatMap.1 hu
 simp only [List.mem_cons, List.not_mem_nil, or_false] at hx
 rcases hx with rfl | rfl <;> rfl
theorem Zcv : ∀ (l : List Lb) (j t : Nat), j < l.length → t < 2 → (Za0 l)[j * 2 + t]? = ([(l.getD j Lb.zero).u.val, (l.getD j Lb.zero).v.val] : List Value)[t]?
  | [], j, t, hj, _ => by simp at hj
  | x :: l, 0, t, _, ht => by
    have e : Za0 (x :: l) = [x.u.val, x.v.val] ++ Za0 l := rfl
    rw [e, Nat.zero_mul, Nat.zero_add, List.getElem?_append_left (by simpa using ht)]
    rfl
  | x :: l, j + 1, t, hj, ht => by
    have e : Za0 (x :: l) = [x.u.val, x.v.val] ++ Za0 l := rfl
    rw [e, List.getElem?_append_right (by simp only [List.length_cons, List.length_nil]; omega)]
    simp only [List.length_cons, List.length_nil]
    rw [show (j + 1) * 2 + t - (0 + 1 + 1) = j * 2 + t by omega]
    exact Zcv l j t (by simpa using hj) ht
theorem Zd6 : ∀ (l : List Lb) (i : Nat) (x : Lb), Za0 (l.set i x) = ((Za0 l).set (i * 2) x.u.val).set (i * 2 + 1) x.v.val
  | [], i, x => by simp [Za0]
  | y :: l, 0, x => rfl
  | y :: l, i + 1, x => by
    have e : Za0 (y :: l) = y.u.val :: y.v.val :: Za0 l := rfl
    have e2 : Za0 ((y :: l).set (i + 1) x) = y.u.val :: y.v.val :: Za0 (l.set i x) := rfl
    rw [e, e2, Zd6 l i x, show (i + 1) * 2 = i * 2 + 1 + 1 by omega]
    rfl
theorem Zm0 : (Tryz.prog.info? 67).map (fun i => (i.zero, i.size, i.bytes)) = some (some (.agg #[.slice none 0 0, .slice none 0 0]), 2, 48) := by kernel_rfl
def OwnL (w : World) (s : Sl) (l : List Lb) : Prop := Own 67 2 w s (Za0 l)
theorem OwnL.len (h : OwnL w s l) : l.length = s.len := by
 have := h.1
 rw [Zcw] at this
 omega
theorem OwnL.at (h : OwnL w s l) {j : Nat} (hj : j < s.len) : ∃ b off, s.a = some ⟨b, off, none⟩ ∧ w.cell? ⟨b, off + j * 2, none⟩ = some (l.getD j Lb.zero).u.val ∧ w.cell? ⟨b, off + j * 2 + 1, none⟩ = some (l.getD j Lb.zero).v.val := by
 rcases h.2 with ⟨h0, _⟩ | ⟨g, off, cur, ha, _⟩
 · rw [h0] at hj; exact absurd hj (Nat.not_lt_zero _)
 · have hl : j < l.length := by rw [h.len]; exact hj
   have e0 := Zcv l j 0 hl (by decide)
   have e1 := Zcv l j 1 hl (by decide)
   have k0 := Own.cell h ha _ _ e0
   have k1 := Own.cell h ha _ _ e1
   rw [Addr.add_lit] at k0 k1
   exact ⟨g, off, ha, by simpa using k0, by rw [Nat.add_assoc]; simpa using k1⟩
theorem OwnL.gl {D : Nat → Prop} (h : OwnL w s l) (hm : s.len ≤ 900) (hD : ∀ k, s.blk = some k → D k) (hit : ∀ x ∈ l, Gi D w x.u x.t ∧ Gb D w x.v x.l) : Gl D w s l := by
 refine ⟨h.len, fun e => ?_, ?_, hm, fun ad ha hl => hD _ (by rw [Sl.blk, ha]; rfl), fun i hi => h.at hi, hit⟩
 · rcases h.2 with ⟨h0, _⟩ | ⟨g, off, cur, ha, _⟩
   · rw [h0]; rfl
   · rw [ha] at e; cases e
 · rcases h.2 with ⟨h0, _⟩ | ⟨g, off, cur, ha, hc, hd, he, _⟩
   · rw [h0]; exact Nat.le_refl _
   · exact he
theorem Gl.src {D:Nat→Prop}(h:Gl D w s l):Src Tryz.prog 2 22 s.val s.len (Za0 l) w:=by
 obtain⟨a,m,c⟩:=s
 have hlen:l.length=m:=h.len
 cases a with
 | none =>
  have hc:c=0:=h.nil rfl
  have hm:m=0:=by have:m≤c:=h.le;omega
  subst hc hm
  have hl:l=[]:=List.eq_nil_of_length_eq_zero hlen
  subst hl
  exact Src.ofNil w Tryz.underlying22 0
 | some ad =>
  refine Src.ofSlice _ Tryz.underlying22 ad m c (Za0 l) (by rw [Zcw,hlen]) (fun j u hj=>?_) (Zd5 _)
  have hjl:j<l.length*2:=by
   have:=(List.getElem?_eq_some_iff.1 hj).1
   rwa [Zcw] at this
  have hq:j / 2<m:=by rw [← hlen];omega
  obtain⟨b,off,ha,c0,c1⟩:=h.cell (j / 2) hq
  cases ha
  have hg:=Zcv l (j / 2) (j % 2) (by rw [hlen];exact hq) (Nat.mod_lt _ (by decide))
  rw [show j / 2*2+j % 2=j by omega] at hg
  rw [hg] at hj
  rw [Addr.add_lit]
  have hm:j % 2=0∨j % 2=1:=by omega
  rcases hm with e | e <;> rw [e] at hj <;> simp only [List.getElem?_cons_zero,List.getElem?_cons_succ,Option.some.injEq] at hj <;> subst hj
  · rw [show off+j=off+j / 2*2 by omega];exact c0
  · rw [show off+j=off+j / 2*2+1 by omega];exact c1
theorem OwnL.new0 (w : World) : OwnL (w.alloc (.cells #[] 67)) ⟨some ⟨w.heap.size, 0, none⟩, 0, 0⟩ [] :=
  ⟨rfl, .inr ⟨w.heap.size, 0, _, rfl, heap_alloc_new w _, by simp, Nat.le_refl _, by simp, rfl⟩⟩
theorem ZkZ {off len cap:Nat}(h : OwnL w ⟨some ⟨g, off, none⟩, len, cap⟩ l) (i : Nat) (hi : i < len) (x : Lb) :
    ∃ W, (Instr.storeAt 67 (.pointer (some ⟨g, off + i * 2, none⟩)) (lfV x.u x.v)).run Tryz.prog w = .ok () W ∧ OwnL W ⟨some ⟨g, off, none⟩, len, cap⟩ (l.set i x) ∧ Frm (fun k => k = g) w W := by
  obtain ⟨b, o, ha, c0, c1⟩ := h.at (j := i) hi
  simp only [Option.some.injEq, Addr.mk.injEq, and_true] at ha
  obtain ⟨rfl, rfl⟩ := ha
  have f0 : ∀ o, w.frozen? ⟨g, o, none⟩ = false := fun o => by
   rcases h.2 with ⟨h0, _⟩ | ⟨g', off', cur, ha, hg, _⟩
   · cases h0
   · simp only [Option.some.injEq, Addr.mk.injEq, and_true] at ha
     obtain ⟨rfl, rfl⟩ := ha
     exact frozen_of_row w g _ cur _ hg
  have h1 := Own.setCell (Own.setCell h rfl (i * 2) x.u.val) rfl (i * 2 + 1) x.v.val
  rw [← Zd6] at h1
  refine ⟨(w.setCell ⟨g, off + i * 2, none⟩ x.u.val).setCell ⟨g, off + (i * 2 + 1), none⟩ x.v.val, ?_, h1, ((Frm.refl (fun k => k = g) w).setCell (p := ⟨g, off + i * 2, none⟩) rfl _).setCell (p := ⟨g, off + (i * 2 + 1), none⟩) rfl _⟩
  unfold lfV Sl.val at *
  rw [Nat.add_assoc] at c1
  simp [go_sem, Instr.storeAt, stored, c0, c1, f0, Nat.add_assoc]
end Go.Proofs.YtdojdcncncgncaaGreat
