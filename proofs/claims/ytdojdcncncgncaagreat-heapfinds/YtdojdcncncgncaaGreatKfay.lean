/-
  Lemmas.
-/
import Derived.Test.YtdojdcncncgncaaGreatKfax
namespace Go.Proofs.YtdojdcncncgncaaGreat
open Go.RowKit
set_option linter.unusedVariables false
set_option maxRecDepth 100000
set_option maxHeartbeats 4000000
variable {w W0 V W:World}{y:Bt}{x:Rx}{q g B b1 o1 b2 o2 p:Nat}{l:List Lb}{s:Sl}
theorem ZbF (w : World) (g : Nat) (r : Rw) (c : Value) : Frm (fun k => k = g) w (setRw w g r c) :=
  ((((((Frm.refl (fun k => k = g) w).setCell (p := ⟨g, 0, none⟩) rfl _).setCell (p := ⟨g, 1, none⟩) rfl _).setCell (p := ⟨g, 2, none⟩) rfl _).setCell (p := ⟨g, 3, none⟩) rfl _).setCell (p := ⟨g, 4, none⟩) rfl _).setCell (p := ⟨g, 5, none⟩) rfl _
theorem ZhM (w:World)(p:Nat)(X:Rw)(C:Value)(k:RwBlk w p X C)(r:Rw)(a:Option Addr)(n c:Nat):(Instr.storeAt 33 (.pointer (some ⟨p,0,none⟩)) (r.val (.slice a n c))).run Tryz.prog w=.ok () (setRw w p r (.slice a n c)):=by
 have hsf:∀(w:World) (a:Addr) (m:Mode) (x:Nat),(store a (.float .f64 x) m).run Tryz.prog w=stored Tryz.prog w a (.float .f64 x) m:=fun w a m x=>run_store Tryz.prog w a _ m rfl
 have c0:=k.c0
 have c1:=k.c1
 have c2:=k.c2
 have c3:=k.c3
 have c4:=k.c4
 have c5:=k.c5
 have f0:=k.fz
 simp [go_sem,Instr.storeAt,stored,hsf,c0,c1,c2,c3,c4,c5,f0,Rw.val,setRw]
def setBt (w : World) (g : Nat) (x : Bt) : World := (w.setCell ⟨g, 0, none⟩ (.int .i64 x.1)).setCell ⟨g, 1, none⟩ (.int .i64 x.2)
theorem Zbv (w : World) (g : Nat) (x : Bt) : Frm (fun k => k = g) w (setBt w g x) := ((Frm.refl (fun k => k = g) w).setCell (p := ⟨g, 0, none⟩) rfl _).setCell (p := ⟨g, 1, none⟩) rfl _
theorem ZaF (h : BtBlk w g y) (x : Bt) : BtBlk (setBt w g x) g x := by
 unfold BtBlk setBt at *
 have h1 : (w.setCell ⟨g, 0, none⟩ (.int .i64 x.1)).heap[g]? = some (Obj.cells #[.int .i64 x.1, .int .i64 y.2] 26 (0, 0)) := by
  rw [heap_setCell_same w g 0 _ 26 (.int .i64 x.1) h]; rfl
 rw [heap_setCell_same _ g 1 _ 26 (.int .i64 x.2) h1]
 rfl
theorem Zeb (w : World) (p : Nat) (y : Bt) (k : BtBlk w p y) (x : Bt) : (Instr.storeAt 26 (.pointer (some ⟨p, 0, none⟩)) (btV x)).run Tryz.prog w = .ok () (setBt w p x) := by
 have c0 := k.c0
 have c1 := k.c1
 have f0 := k.fz
 simp [go_sem, Instr.storeAt, stored, c0, c1, f0, btV, setBt]
structure FS (B : Nat) (W0 V : World) (b1 o1 b2 o2 p q : Nat) (x : Rx) (y : Bt) (w : World) : Prop where
  rx : RwAt w b1 o1 x
  y0 : w.cell? ⟨b2, o2, none⟩ = some (.int .i64 y.1)
  y1 : w.cell? ⟨b2, o2 + 1, none⟩ = some (.int .i64 y.2)
  kp : ∃ X C, RwBlk w p X C
  kq : ∃ Y, BtBlk w q Y
  e : Below B W0 w
  f : Frm (fun k => k = p ∨ k = q) V w
  ne : b1 ≠ p ∧ b1 ≠ q ∧ b2 ≠ p ∧ b2 ≠ q ∧ p ≠ q ∧ B ≤ p ∧ B ≤ q
theorem RwAt.frm {w W : World} {b o : Nat} {x : Rx} (h : RwAt w b o x) (hs : W.heap[b]? = w.heap[b]?) : RwAt W b o x :=
  ⟨(Za4 hs _).trans h.c0, (Za4 hs _).trans h.c1, (Za4 hs _).trans h.c2, (Za4 hs _).trans h.c3, (Za4 hs _).trans h.c4, (Za4 hs _).trans h.c5⟩
theorem FS.frm (h : FS B W0 V b1 o1 b2 o2 p q x y w) (hg : g = p ∨ g = q) (f : Frm (fun k => k = g) w W) (kp : ∃ X C, RwBlk W p X C) (kq : ∃ Y, BtBlk W q Y) : FS B W0 V b1 o1 b2 o2 p q x y W := by
 obtain ⟨n1, n2, n3, n4, n5, n6, n7⟩ := h.ne
 have l1 := World.block_lt_of_cell? _ _ h.rx.c0
 have l2 := World.block_lt_of_cell? _ _ h.y0
 have s1 : W.heap[b1]? = w.heap[b1]? := f.block b1 l1 (fun e => by rcases hg with rfl | rfl <;> omega)
 have s2 : W.heap[b2]? = w.heap[b2]? := f.block b2 l2 (fun e => by rcases hg with rfl | rfl <;> omega)
 have hB : B ≤ w.heap.size := by
  obtain ⟨_, _, k⟩ := h.kp
  have := (Array.getElem?_eq_some_iff.1 k).1
  omega
 refine ⟨h.rx.frm s1, (Za4 s2 _).trans h.y0, (Za4 s2 _).trans h.y1, kp, kq, h.e.trans (f.below hB (fun k hk => by rcases hg with rfl | rfl <;> omega)), h.f.trans f (fun i _ hi => by rcases hg with rfl | rfl; exact .inl hi; exact .inr hi), h.ne⟩
theorem FS.row {B : Nat} {W0 V : World} {b1 o1 b2 o2 p q : Nat} {x : Rx} {y : Bt} {w : World} (h : FS B W0 V b1 o1 b2 o2 p q x y w) :
    ∃ W, (Instr.storeAt 33 (.pointer (some ⟨p, 0, none⟩)) x.val).run Tryz.prog w = .ok () W ∧ FS B W0 V b1 o1 b2 o2 p q x y W ∧ RwBlk W p x.r (.slice x.a x.n x.c) := by
  obtain ⟨X, C, kp⟩ := h.kp
  obtain ⟨Y, kq⟩ := h.kq
  have k' := ZaV kp x.r (.slice x.a x.n x.c)
  have f := ZbF w p x.r (.slice x.a x.n x.c)
  exact ⟨_, ZhM w p X C kp x.r x.a x.n x.c, h.frm (.inl rfl) f ⟨_, _, k'⟩ ⟨Y, (f.block q kq.lt (fun e => h.ne.2.2.2.2.1 e.symm)).trans kq⟩, k'⟩
theorem FS.bt {B : Nat} {W0 V : World} {b1 o1 b2 o2 p q : Nat} {x : Rx} {y : Bt} {w : World} (h : FS B W0 V b1 o1 b2 o2 p q x y w) {X : Rw} {C : Value} (kp : RwBlk w p X C) :
    ∃ W, (Instr.storeAt 26 (.pointer (some ⟨q, 0, none⟩)) (btV y)).run Tryz.prog w = .ok () W ∧ FS B W0 V b1 o1 b2 o2 p q x y W ∧ RwBlk W p X C ∧ BtBlk W q y := by
  obtain ⟨Y, kq⟩ := h.kq
  have k' := ZaF kq y
  have f := Zbv w q y
  have kp' : RwBlk (setBt w q y) p X C := (f.block p (Array.getElem?_eq_some_iff.1 kp).1 (fun e => h.ne.2.2.2.2.1 e)).trans kp
  exact ⟨_, Zeb w q Y kq y, h.frm (.inr rfl) f ⟨_, _, kp'⟩ ⟨_, k'⟩, kp', k'⟩
theorem FS.drew {B : Nat} {W0 V : World} {b1 o1 b2 o2 p q : Nat} {x : Rx} {y : Bt} {w : World} (h : FS B W0 V b1 o1 b2 o2 p q x y w) : FS B W0 V b1 o1 b2 o2 p q x y w.drew :=
  ⟨⟨h.rx.c0, h.rx.c1, h.rx.c2, h.rx.c3, h.rx.c4, h.rx.c5⟩, h.y0, h.y1, h.kp, h.kq, h.e.drew, h.f.drew, h.ne⟩
theorem ZoD (B:Nat)(W0 V w:World)(b1 o1 len c1 b2 o2 len2 c2 p q i:Nat)(hi:i<len)(hi2:i<len2)(x:Rx)(y:Bt)(hW:FS B W0 V b1 (o1+i*6) b2 (o2+i*2) p q x y w)
    {Q:Exit→Act→World→Prop}{A:Act}(hsz:A.tmps.size=38)(hdf:A.defers=[])(s7:A.tmps.getD 7 undef=.slice (some ⟨b1,o1,none⟩) len c1)(s8:A.tmps.getD 8 undef=.slice (some ⟨b2,o2,none⟩) len2 c2)(s9:A.tmps.getD 9 undef=.int .i64 (i:Int))(s4:A.tmps.getD 4 undef=.pointer (some ⟨p,0,none⟩))(s5:A.tmps.getD 5 undef=.pointer (some ⟨q,0,none⟩))
    (hend:∀(u:Nat→Value) w',RwBlk w' p x.r (.slice x.a x.n x.c)→BtBlk w' q y→Below B W0 w'→Frm (fun k=>k=p∨k=q) V w'→Q .normal ((((((((((A).put (some 28) (u 28)).put (some 29) (u 29)).put (some 30) (u 30)).put (some 31) (u 31)).put (some 32) (u 32)).put (some 33) (u 33)).put (some 34) (u 34)).put (some 35) (u 35)).put (some 6) (.bool true)) w') :
    (Code.region 6 (Pl.find 6 ((Tryz.f16.body).getD .skip)) true).wp Tryz.prog Q A w:=by
  have hS0:FS B W0 V b1 (o1+i*6) b2 (o2+i*2) p q x y w.drew:=hW.drew
  have hA:=Pl.At.same (v:=.pointer (some ⟨q,0,none⟩)) (d:=5) (Pl.At.same (v:=.pointer (some ⟨p,0,none⟩)) (d:=4) (Pl.At.same (v:=.int .i64 (i:Int)) (d:=9) (Pl.At.same (v:=.slice (some ⟨b2,o2,none⟩) len2 c2) (d:=8) (Pl.At.same (v:=.slice (some ⟨b1,o1,none⟩) len c1) (d:=7) (Pl.At.here hsz hdf) s7) s8) s9) s4) s5
  refine Pl.qa (S:=(FS B W0 V b1 (o1+i*6) b2 (o2+i*2) p q x y)) hA hS0 ?_
  rw [show (Pl.find 6 ((Tryz.f16.body).getD .skip)).size=11 by kernel_rfl]
  refine Pl.q0 0 28 (.slice (some ⟨b1,o1,none⟩) len c1) (Pl.q1) (Pl.q2 (.tmp 7)) hS0 ?_
  refine Pl.q0 1 29 (.int .i64 (i:Int)) (Pl.q1) (Pl.q2 (.tmp 9)) hS0 ?_
  refine Pl.q0 2 30 (.pointer (some ⟨b1,o1+i*6,none⟩)) (Pl.q1) (Pl.qb 38 (.tmp 28) (.tmp 29) (ZaP b1 o1 len c1 i hi)) hS0 ?_
  refine Pl.q0 3 31 (x.val) (Pl.q1) (Pl.q4 33 (.tmp 30) (fun w' hS=>Zbf b1 (o1+i*6) x w' hS.rx)) hS0 ?_
  refine Pl.q0 4 32 (.slice (some ⟨b2,o2,none⟩) len2 c2) (Pl.q1) (Pl.q2 (.tmp 8)) hS0 ?_
  refine Pl.q0 5 33 (.int .i64 (i:Int)) (Pl.q1) (Pl.q2 (.tmp 9)) hS0 ?_
  refine Pl.q0 6 34 (.pointer (some ⟨b2,o2+i*2,none⟩)) (Pl.q1) (Pl.qb 82 (.tmp 32) (.tmp 33) (ZfV b2 o2 len2 c2 i hi2)) hS0 ?_
  refine Pl.q0 7 35 (btV y) (Pl.q1) (Pl.q4 26 (.tmp 34) (fun w' hS=>Ze4 hS.y0 hS.y1)) hS0 ?_
  obtain⟨W1,hst1,hS1,hk1⟩:=hS0.row
  refine Pl.qh 8 W1 (Pl.q1) (Pl.qi 33 (.tmp 4) (.tmp 31) hst1) hS1 ?_
  obtain⟨W2,hst2,hS2,hk2,hq2⟩:=hS1.bt hk1
  refine Pl.qh 9 W2 (Pl.q1) (Pl.qi 26 (.tmp 5) (.tmp 35) hst2) hS2 ?_
  refine Pl.q0 10 6 (.bool true) (Pl.q1) (Pl.qe (.const (.bool true))) hS2 ?_
  refine Pl.q7 (fun A' hA'=>?_)
  rw [Pl.At.ext hA' (((((((((hA.put 28 _).put 29 _).put 30 _).put 31 _).put 32 _).put 33 _).put 34 _).put 35 _).put 6 _)]
  exact hend hA'.fn _ hk2 hq2 hS2.e hS2.f
theorem Zki {l : List Hr} {p : Hr → Bool} {i : Nat} (hi : i < l.length) (hp : p l[i] = true) (hn : ∀ j, (hj : j < i) → p (l[j]'(by omega)) = false) : l.find? p = some l[i] := by
 induction l generalizing i with
 | nil => exact absurd hi (Nat.not_lt_zero _)
 | cons x l ih =>
  cases i with
  | zero =>
   simp only [List.getElem_cons_zero] at hp ⊢
   rw [List.find?_cons, hp]
  | succ i =>
   have h0 : p x = false := hn 0 (Nat.zero_lt_succ _)
   rw [List.find?_cons, h0]
   simp only [List.getElem_cons_succ] at hp ⊢
   exact ih (by simpa using hi) hp (fun j hj => hn (j + 1) (Nat.succ_lt_succ hj))
theorem Ziq {l : List Hr} {p : Hr → Bool} (hn : ∀ j, (hj : j < l.length) → p l[j] = false) : l.find? p = none := by
 rw [List.find?_eq_none]
 intro x hx
 obtain ⟨j, hj, rfl⟩ := List.getElem_of_mem hx
 rw [hn j hj]
 decide
structure ZmO (w w' : World) (e : Ending) (r : Rw) (b : Bt) : Prop where
  f : r.fits
  col : ∃ x : Rx, x.r = r ∧ e = .returned (.tuple #[x.val, btV b, .bool true]) ∧ ColF w' x
def ZcV (w : World) (l : List Lf) (k : Nat) (e : Ending) (w' : World) : Prop :=
  Below w.heap.size w w' ∧ (findH l k = none → e = .returned (.tuple #[ZcF, btV (0, 0), .bool false])) ∧ ∀ h, findH l k = some h → ZmO w w' e h.r ((h.i : Int), (h.k : Int))
theorem ZcL {fn : Func} {x y z : Nat} (hr : fn.results = #[.cell x 33, .cell y 26, .tmp z]) {W : World} {g q : Nat} {r : Rw} {a : Option Addr} {n c : Nat} {b : Bt} (h : RwBlk W g r (.slice a n c)) (hq : BtBlk W q b) (tmps : Array Value) (u : Value) (tx : tmps.getD x undef = .pointer (some ⟨g, 0, none⟩)) (ty : tmps.getD y undef = .pointer (some ⟨q, 0, none⟩)) (tz : tmps.getD z undef = u) :
    (results fn tmps).run Tryz.prog W = .ok (.tuple #[r.val (.slice a n c), btV b, u]) W := by
  have c0 := h.c0
  have c1 := h.c1
  have c2 := h.c2
  have c3 := h.c3
  have c4 := h.c4
  have c5 := h.c5
  have d0 := hq.c0
  have d1 := hq.c1
  have tx2 : tmps[x]?.getD undef = .pointer (some ⟨g, 0, none⟩) := by simpa using tx
  have ty2 : tmps[y]?.getD undef = .pointer (some ⟨q, 0, none⟩) := by simpa using ty
  have tz2 : tmps[z]?.getD undef = u := by simpa using tz
  simp [results, hr, tx2, ty2, tz2, go_sem, c0, c1, c2, c3, c4, c5, d0, d1, Rw.val, btV]
theorem Zkt {l : List Hr} {i : Nat} (hi : i < l.length) : (hrsB l).getD i (0, 0) = ((l[i].i : Int), (l[i].k : Int)) := by simp [hrsB, List.getD, hi]
theorem Zjy {D:Nat→Prop}(w:World)(s:Sl)(L:List Lb)(h:Gl D w s L)(key:Nat)(hkey:key<18446744073709551616) :
    Calls Tryz.prog 16 #[s.val,.float .f64 key] w (ZcV w (lfs L) key):=by
  have hsf:∀(w:World) (a:Addr) (m:Mode) (x:Nat),(store a (.float .f64 x) m).run Tryz.prog w=stored Tryz.prog w a (.float .f64 x) m:=fun w a m x=>run_store Tryz.prog w a _ m rfl
  have hA1:=Zaa w (.cells #[.float .f64 0,.bool false,.slice none 0 0,.int .i64 0,.int .i64 0,.int .i64 0] 33)
  have hA2:=Zaa (w.alloc (.cells #[.float .f64 0,.bool false,.slice none 0 0,.int .i64 0,.int .i64 0,.int .i64 0] 33)) (.cells #[.int .i64 0,.int .i64 0] 26)
  have hX:RwBlk ((w.alloc (.cells #[.float .f64 0,.bool false,.slice none 0 0,.int .i64 0,.int .i64 0,.int .i64 0] 33)).alloc (.cells #[.int .i64 0,.int .i64 0] 26)) w.heap.size zeroR (.slice none 0 0):=(Zag w zeroR (.slice none 0 0)).keep hA2
  have hY:BtBlk ((w.alloc (.cells #[.float .f64 0,.bool false,.slice none 0 0,.int .i64 0,.int .i64 0,.int .i64 0] 33)).alloc (.cells #[.int .i64 0,.int .i64 0] 26)) (w.heap.size+1) (0,0):=by
   have:=Zax (w.alloc (.cells #[.float .f64 0,.bool false,.slice none 0 0,.int .i64 0,.int .i64 0,.int .i64 0] 33)) (0,0)
   rwa [Zae] at this
  obtain⟨W0,hW0⟩:∃W0,W0=(w.alloc (.cells #[.float .f64 0,.bool false,.slice none 0 0,.int .i64 0,.int .i64 0,.int .i64 0] 33)).alloc (.cells #[.int .i64 0,.int .i64 0] 26):=⟨_,rfl⟩
  rw [← hW0] at hX hY
  have HW0:Hid (Below w.heap.size w W0):=by rw [hW0];exact Zac hA1 hA2
  have hs0:W0.heap.size=w.heap.size+2:=by rw [hW0,Zae,Zae]
  have HX:=hide hX
  have HY:=hide hY
  have HALL:=hide (Zej W0 s L (h.below HW0.out (Nat.le_refl _)))
  have HS0:=hide hs0
  have HWE:=hide hW0
  obtain⟨a,len,cap⟩:=s
  clear h hA1 hA2 hX hY hW0 hs0
  unfold Sl.val at *
  simp only at *
  go_enter Tryz.func16,Tryz.ntmps16
  go_wp2_with fail
  rw [← HWE.out]
  refine HALL.out.mono ?_
  rintro e w1 ⟨⟨ra,rn,rc⟩,⟨ba,bn,bc⟩,R,rfl,hT⟩
  have hrl:R.length=rn:=hT.i.rows.len
  have HRL:=hide hrl
  have HAL:Hid ((allH (lfs L)).length=rn):=by show _=_;rw [← Zdy hT.r,hrl]
  have HBL:Hid (rn=bn):=by
   show _=_
   have:(hrsB (allH (lfs L))).length=bn:=hT.i.bts.len
   rw [← this]
   simp [hrsB,HAL.out]
  have HT:=hide hT
  have HW1:=hide (Zac HW0.out hT.i.below)
  have HX1:=hide (HX.out.keep hT.i.below)
  have HY1:=hide (HY.out.keep hT.i.below)
  have hbig:rn≤9223372036854775807:=by
   have:=hT.i.rows.own.2
   rcases this with ⟨h0,_⟩ | ⟨g,off,cur,ha,hb,hc,hd,he,hf⟩
   · have e:rn=0:=congrArg Sl.len h0;omega
   · have hm:rn≤rc:=hd
     have hm2:rc≤maxLen:=he
     unfold maxLen at hm2
     omega
  clear hT hrl
  go_wp2_with fail
  go_loopw [9] (fun iv wr=>∃i:Nat,i≤rn∧iv=.int .i64 (i:Nat)∧wr=w1∧Hid (∀j,j<i→(Fl.key (rk R j) == Fl.key key)=false)) (fun iv _=>rn-(intOf iv).toNat)
  case atStart=>exact ⟨0,Nat.zero_le _,rfl,rfl,fun j hj=>absurd hj (Nat.not_lt_zero _)⟩
  case round =>
   obtain⟨i,hi,rfl,rfl,hno⟩:=hrel
   rcases Nat.lt_or_ge i rn with hlt | hge
   · have j1:(i:Int)<(rn:Int):=by omega
     have hrz:=HT.out.i.rows.rz
     obtain⟨b1,o1,hra,hx⟩:=hrz.at' i hlt
     replace hra:ra=some ⟨b1,o1,none⟩:=hra
     subst hra
     have hxf:=(hrz.fits _ (hrz.mem hlt)).key
     have c0:=hx.c0
     have HRX:=hide hx
     have HAK:=hide (ZdW (rk R i) key hxf hkey wr)
     have hrk:(R.getD i Rx.zero).r.key=rk R i:=rfl
     rw [hrk] at c0
     have HIX:=hide (ZaP b1 o1 rn rc i hlt)
     clear hrz hx
     go_wp2_with fail
     refine HAK.out.mono ?_
     rintro e w2 ⟨rfl,hw2⟩
     obtain rfl:=hw2.symm
     cases hq:(Fl.key (rk R i) == Fl.key key) with
     | false =>
      have HN2:Hid (∀j,j<i+1→(Fl.key (rk R j) == Fl.key key)=false):=by
       intro j hj
       rcases Nat.lt_or_ge j i with h1 | h1
       · exact hno.out j h1
       · rw [show j=i by omega];exact hq
      clear hq hno HAK
      go_wp2_with fail
      go_roundw
      case rel=>exact ⟨i+1,by omega,by go_num,trivial,HN2⟩
      case measure=>simp only [intOf];omega
     | true =>
      have hli:i<(allH (lfs L)).length:=by rw [HAL.out];exact hlt
      have hfi:findH (lfs L) key=some (allH (lfs L))[i]:=by
       refine Zki hli ?_ (fun j hj=>?_)
       · have:=ZeI HT.out.r hli
         rw [← this]
         exact hq
       · have:=ZeI HT.out.r (show j<(allH (lfs L)).length by omega)
         rw [← this]
         exact hno.out j hj
      have hri:=ZeI HT.out.r hli
      obtain⟨H1,hH1⟩:∃H1,H1=(allH (lfs L))[i]:=⟨_,rfl⟩
      rw [← hH1] at hfi hri
      obtain⟨b2,o2,hba,hy0,hy1⟩:=ZcC.at HT.out.i.bts (show i<(Sl.mk ba bn bc).len by rw [← HBL.out];exact hlt)
      replace hba:ba=some ⟨b2,o2,none⟩:=hba
      subst hba
      rw [Zkt hli,← hH1] at hy0 hy1
      have hcol:=HT.out.i.flt _ (HT.out.i.rows.rz.mem hlt)
      have hfit:=HT.out.i.rows.fits _ (HT.out.i.rows.rz.mem hlt)
      obtain⟨x,hx⟩:∃x,x=R.getD i Rx.zero:=⟨_,rfl⟩
      rw [← hx] at hcol hfit hri HRX
      have hn1:W0.heap.size≤b1:=HT.out.i.rows.new b1 rfl
      have hn2:W0.heap.size≤b2:=HT.out.i.new b2 rfl
      have hs0:=HS0.out
      have HFS:Hid (FS w.heap.size w wr b1 (o1+i*6) b2 (o2+i*2) w.heap.size (w.heap.size+1) x ((H1.i:Int),(H1.k:Int)) wr):=
       ⟨HRX.out,hy0,hy1,⟨_,_,HX1.out⟩,⟨_,HY1.out⟩,HW1.out,Frm.refl _ _,by refine ⟨?_,?_,?_,?_,?_,?_,?_⟩ <;> omega⟩
      have HCOL:=hide hcol
      have HFI:=hide hfi
      have HRI:=hide hri
      have HFIT:=hide hfit
      have hlt2:i<bn:=by rw [← HBL.out];exact hlt
      clear hq hno HAK hy0 hy1 hcol hfit hfi hri hx hH1
      go_wp2_with fail
      refine Pl.q8 (ops:=Pl.find 6 ((Tryz.f16.body).getD .skip)) ?_
      refine ZoD w.heap.size w wr wr b1 o1 rn rc b2 o2 bn bc w.heap.size (w.heap.size+1) i hlt hlt2 x ((H1.i:Int),(H1.k:Int)) HFS.out (by rfl) (by rfl) (by rfl) (by rfl) (by rfl) (by rfl) (by rfl) ?_
      intro u w3 k1 k2 hb hfr
      simp only [Act.put,List.setIfInBounds_toArray,List.set_cons_zero,List.set_cons_succ]
      have HK1:=hide k1
      have HK2:=hide k2
      have HB3:=hide hb
      have HC3:Hid (ColF w3 x):=HCOL.out.frm hfr (fun k hk C fr hc=>by
       rcases hk with rfl | rfl
       · have:=HX1.out;rw [RwBlk,hc] at this;simp only [Option.some.injEq,Obj.cells.injEq] at this;exact absurd this.2.1 (by decide)
       · have:=HY1.out;rw [BtBlk,hc] at this;simp only [Option.some.injEq,Obj.cells.injEq] at this;exact absurd this.2.1 (by decide))
      clear k1 k2 hb hfr
      go_wp2_with fail
      refine bodyPost_ret (ZcL rfl HK1.out HK2.out _ _ rfl rfl rfl) rfl ?_
      refine⟨HB3.out,(fun h=>by rw [HFI.out] at h;cases h),fun g hg=>?_⟩
      rw [HFI.out] at hg
      cases hg
      exact⟨HRI.out ▸ HFIT.out,x,HRI.out,rfl,HC3.out⟩
   · have j1:¬(i:Int)<(rn:Int):=by omega
     have hfn:findH (lfs L) key=none:=by
      refine Ziq (fun j hj=>?_)
      have:=ZeI HT.out.r hj
      rw [← this]
      exact hno.out j (by rw [HAL.out] at hj;omega)
     have HFN:=hide hfn
     have HST:=hide (ZhM wr w.heap.size _ _ HX1.out zeroR none 0 0)
     have HX2:=hide (ZaV HX1.out zeroR (.slice none 0 0))
     have HY2:Hid (BtBlk (setRw wr w.heap.size zeroR (.slice none 0 0)) (w.heap.size+1) (0,0)):=((ZbF wr w.heap.size zeroR (.slice none 0 0)).block _ HY1.out.lt (by omega)).trans HY1.out
     have HB2:=hide (Zam HW1.out (Nat.le_refl _) zeroR (.slice none 0 0))
     generalize setRw wr w.heap.size zeroR (.slice none 0 0)=W2 at *
     have HST2:=hide (Zeb W2 (w.heap.size+1) _ HY2.out (0,0))
     have HY3:=hide (ZaF HY2.out (0,0))
     have HX3:Hid (RwBlk (setBt W2 (w.heap.size+1) (0,0)) w.heap.size zeroR (.slice none 0 0)):=((Zbv W2 (w.heap.size+1) (0,0)).block _ (Array.getElem?_eq_some_iff.1 HX2.out).1 (by omega)).trans HX2.out
     have HB3:Hid (Below w.heap.size w (setBt W2 (w.heap.size+1) (0,0))):=HB2.out.trans ((Zbv W2 (w.heap.size+1) (0,0)).below HB2.out.size (fun k hk=>by rw [hk];omega))
     generalize setBt W2 (w.heap.size+1) (0,0)=W3 at *
     clear hfn hno
     unfold Rw.val zeroR at HST
     unfold btV at HST2
     simp only at HST HST2
     go_wp2_with (first | refine Zab _ rfl rfl 33 (.tmp 4) (.tmp 36) rfl (.pointer (some ⟨w.heap.size,0,none⟩)) (.agg #[.float .f64 0,.bool false,.slice none 0 0,.int .i64 0,.int .i64 0,.int .i64 0]) rfl rfl W2 HST.out ?_ | refine Zab _ rfl rfl 26 (.tmp 5) (.tmp 37) rfl (.pointer (some ⟨w.heap.size+1,0,none⟩)) (.agg #[.int .i64 0,.int .i64 0]) rfl rfl W3 HST2.out ?_)
     refine bodyPost_ret (ZcL rfl HX3.out HY3.out _ _ rfl rfl rfl) rfl ?_
     exact⟨HB3.out,fun _=>rfl,fun g hg=>by rw [HFN.out] at hg;cases hg⟩
def Zen (w : World) (l : List Lf) (b : Bt) (e : Ending) (w' : World) : Prop :=
  Below w.heap.size w w' ∧ (getH l b = none → e = .returned (.tuple #[ZcF, .bool false])) ∧ ∀ r, getH l b = some r → r.fits ∧ ∃ x : Rx, x.r = r ∧ e = .returned (.tuple #[x.val, .bool true]) ∧ ColF w' x
theorem Zlc {D:Nat→Prop}(w:World)(s:Sl)(L:List Lb)(h:Gl D w s L)(y:Bt) :
    Calls Tryz.prog 17 #[s.val,btV y] w (Zen w (lfs L) y):=by
  have hsf:∀(w:World) (a:Addr) (m:Mode) (x:Nat),(store a (.float .f64 x) m).run Tryz.prog w=stored Tryz.prog w a (.float .f64 x) m:=fun w a m x=>run_store Tryz.prog w a _ m rfl
  have hA1:=Zaa w (.cells #[.int .i64 y.1,.int .i64 y.2] 26)
  have hA2:=Zaa (w.alloc (.cells #[.int .i64 y.1,.int .i64 y.2] 26)) (.cells #[.float .f64 0,.bool false,.slice none 0 0,.int .i64 0,.int .i64 0,.int .i64 0] 33)
  have hY:BtBlk ((w.alloc (.cells #[.int .i64 y.1,.int .i64 y.2] 26)).alloc (.cells #[.float .f64 0,.bool false,.slice none 0 0,.int .i64 0,.int .i64 0,.int .i64 0] 33)) w.heap.size y:=(Zax w y).keep hA2
  have hX:RwBlk ((w.alloc (.cells #[.int .i64 y.1,.int .i64 y.2] 26)).alloc (.cells #[.float .f64 0,.bool false,.slice none 0 0,.int .i64 0,.int .i64 0,.int .i64 0] 33)) (w.heap.size+1) zeroR (.slice none 0 0):=by
   have:=Zag (w.alloc (.cells #[.int .i64 y.1,.int .i64 y.2] 26)) zeroR (.slice none 0 0)
   rwa [Zae] at this
  obtain⟨W0,hW0⟩:∃W0,W0=(w.alloc (.cells #[.int .i64 y.1,.int .i64 y.2] 26)).alloc (.cells #[.float .f64 0,.bool false,.slice none 0 0,.int .i64 0,.int .i64 0,.int .i64 0] 33):=⟨_,rfl⟩
  rw [← hW0] at hX hY
  have HW0:Hid (Below w.heap.size w W0):=by rw [hW0];exact Zac hA1 hA2
  have hs0:W0.heap.size=w.heap.size+2:=by rw [hW0,Zae,Zae]
  have HX:=hide hX
  have HY:=hide hY
  have HALL:=hide (Zej W0 s L (h.below HW0.out (Nat.le_refl _)))
  have HS0:=hide hs0
  have HWE:=hide hW0
  obtain⟨a,len,cap⟩:=s
  clear h hA1 hA2 hX hY hW0 hs0
  unfold Sl.val btV at *
  simp only at *
  go_enter Tryz.func17,Tryz.ntmps17
  go_wp2_with fail
  rw [← HWE.out]
  refine HALL.out.mono ?_
  rintro e w1 ⟨⟨ra,rn,rc⟩,⟨ba,bn,bc⟩,R,rfl,hT⟩
  have hrl:R.length=rn:=hT.i.rows.len
  have HRL:=hide hrl
  have HAL:Hid ((allH (lfs L)).length=rn):=by show _=_;rw [← Zdy hT.r,hrl]
  have HBL:Hid (rn=bn):=by
   show _=_
   have:(hrsB (allH (lfs L))).length=bn:=hT.i.bts.len
   rw [← this]
   simp [hrsB,HAL.out]
  have HT:=hide hT
  have HW1:=hide (Zac HW0.out hT.i.below)
  have HX1:=hide (HX.out.keep hT.i.below)
  have HY1:=hide (HY.out.keep hT.i.below)
  have hbig:rn≤9223372036854775807:=by
   have:=hT.i.rows.own.2
   rcases this with ⟨h0,_⟩ | ⟨g,off,cur,ha,hb,hc,hd,he,hf⟩
   · have e:rn=0:=congrArg Sl.len h0;omega
   · have hm:rn≤rc:=hd
     have hm2:rc≤maxLen:=he
     unfold maxLen at hm2
     omega
  clear hT hrl
  go_wp2_with fail
  go_loopw [8] (fun iv wr=>∃i:Nat,i≤rn∧iv=.int .i64 (i:Nat)∧Hid (Below w1.heap.size w1 wr)∧Hid (∀j,(hj:j<i)→(hl:j<(allH (lfs L)).length)→((((allH (lfs L))[j].i:Int) == y.1) && (((allH (lfs L))[j].k:Int) == y.2))=false)) (fun iv _=>rn-(intOf iv).toNat)
  case atStart=>exact ⟨0,Nat.zero_le _,rfl,Below.refl _ _,fun j hj=>absurd hj (Nat.not_lt_zero _)⟩
  case round =>
   obtain⟨i,hi,rfl,hWr,hno⟩:=hrel
   rcases Nat.lt_or_ge i rn with hlt | hge
   · have j1:(i:Int)<(rn:Int):=by omega
     have hli:i<(allH (lfs L)).length:=by rw [HAL.out];exact hlt
     have HTr:Hid (ZaT W0 wr ⟨ra,rn,rc⟩ ⟨ba,bn,bc⟩ R (allH (lfs L))):=⟨HT.out.i.keep hWr.out,HT.out.r⟩
     have HX2:=hide (HX1.out.keep hWr.out)
     have HY2:=hide (HY1.out.keep hWr.out)
     have HW2:=hide (Zac HW1.out hWr.out)
     obtain⟨b2,o2,hba,hy0,hy1⟩:=ZcC.at HTr.out.i.bts (show i<(Sl.mk ba bn bc).len by rw [← HBL.out];exact hlt)
     replace hba:ba=some ⟨b2,o2,none⟩:=hba
     subst hba
     rw [Zkt hli] at hy0 hy1
     have hri:=ZeI HTr.out.r hli
     obtain⟨H1,hH1⟩:∃H1,H1=(allH (lfs L))[i]:=⟨_,rfl⟩
     rw [← hH1] at hy0 hy1 hri
     have HH1:=hide hH1
     have HY0:=hide hy0
     have HY1':=hide hy1
     have hlt2:i<bn:=by rw [← HBL.out];exact hlt
     clear hy0 hy1 hH1
     go_wp2_with fail
     refine Pl.q8 (ops:=Pl.find 5 ((Tryz.f17.body).getD .skip)) ?_
     cases hq:(((H1.i:Int) == y.1) && ((H1.k:Int) == y.2)) with
     | false =>
      refine ZnW wr wr b2 o2 bn bc i w.heap.size hlt2 ((H1.i:Int),(H1.k:Int)) y HY0.out HY1'.out HY2.out hq (Below.refl _ _) (by rfl) (by rfl) (by rfl) (by rfl) (by rfl) ?_
      intro u w3 hb3
      simp only [Act.put,List.setIfInBounds_toArray,List.set_cons_zero,List.set_cons_succ]
      have HN2:Hid (∀j,(hj:j<i+1)→(hl:j<(allH (lfs L)).length)→((((allH (lfs L))[j].i:Int) == y.1) && (((allH (lfs L))[j].k:Int) == y.2))=false):=by
       intro j hj hl
       rcases Nat.lt_or_ge j i with h1 | h1
       · exact hno.out j h1 hl
       · obtain rfl:j=i:=by omega
         rw [HH1.out] at hq
         exact hq
      have HW3:=hide (Zac hWr.out hb3)
      clear hb3 hq hno hri
      go_wp2_with fail
      go_roundw
      case rel=>exact ⟨i+1,by omega,by go_num,HW3,HN2⟩
      case measure=>simp only [intOf];omega
     | true =>
      refine ZnX wr wr b2 o2 bn bc i w.heap.size hlt2 ((H1.i:Int),(H1.k:Int)) y HY0.out HY1'.out HY2.out hq (Below.refl _ _) (by rfl) (by rfl) (by rfl) (by rfl) (by rfl) ?_
      intro u w3 hb3
      simp only [Act.put,List.setIfInBounds_toArray,List.set_cons_zero,List.set_cons_succ]
      have hgi:getH (lfs L) y=some H1.r:=by
       unfold getH
       rw [Zki hli (by rw [← HH1.out];exact hq) (fun j hj=>hno.out j hj (by omega)),← HH1.out]
       rfl
      have HT3:=HTr.out.i.keep hb3
      have hrz:=HT3.rows.rz
      obtain⟨b1,o1,hra,hx⟩:=hrz.at' i hlt
      replace hra:ra=some ⟨b1,o1,none⟩:=hra
      subst hra
      have hcol:=HT3.flt _ (hrz.mem hlt)
      have hfit:=HT3.rows.fits _ (hrz.mem hlt)
      obtain⟨x,hx0⟩:∃x,x=R.getD i Rx.zero:=⟨_,rfl⟩
      rw [← hx0] at hcol hfit hri hx
      have HX3:=HX2.out.keep hb3
      have HW3:=Zac HW2.out hb3
      have HLD:=hide (Zbf b1 (o1+i*6) x w3 hx)
      have HIX:=hide (ZaP b1 o1 rn rc i hlt)
      have HST:=hide (ZhM w3 (w.heap.size+1) _ _ HX3 x.r x.a x.n x.c)
      have HX4:=hide (ZaV HX3 x.r (.slice x.a x.n x.c))
      have HB4:=hide (Zam HW3 (Nat.le_succ _) x.r (.slice x.a x.n x.c))
      have HC4:Hid (ColF (setRw w3 (w.heap.size+1) x.r (.slice x.a x.n x.c)) x):=hcol.frm (ZbF w3 _ x.r _) (fun k hk C fr hc=>by
       subst hk
       rw [RwBlk,hc] at HX3
       simp only [Option.some.injEq,Obj.cells.injEq] at HX3
       exact absurd HX3.2.1 (by decide))
      generalize setRw w3 (w.heap.size+1) x.r (.slice x.a x.n x.c)=W4 at *
      have HGI:=hide hgi
      have HRI:=hide hri
      have HFIT:=hide hfit
      have c0:=hx.c0
      have c1:=hx.c1
      have c2:=hx.c2
      have c3:=hx.c3
      have c4:=hx.c4
      have c5:=hx.c5
      clear hb3 hq hno hri hgi HT3 hrz hcol hfit hx0 HX3 HW3 hx HH1 hli
      unfold Rw.val at HST
      go_wp2_with (refine Zab _ rfl rfl 33 (.tmp 4) (.tmp 29) rfl (.pointer (some ⟨w.heap.size+1,0,none⟩)) (.agg #[.float .f64 x.r.key,.bool x.r.dead,.slice x.a x.n x.c,.int .i64 x.r.wr,.int .i64 x.r.cell,.int .i64 x.r.no]) rfl rfl W4 HST.out ?_)
      refine bodyPost_ret (ZaD rfl HX4.out _ _ rfl rfl ⟨_,_,_,rfl⟩) rfl ?_
      refine⟨HB4.out,(fun h=>by rw [HGI.out] at h;cases h),fun r hr=>?_⟩
      rw [HGI.out] at hr
      cases hr
      exact⟨HRI.out ▸ HFIT.out,x,HRI.out,rfl,HC4.out⟩
   · have j1:¬(i:Int)<(rn:Int):=by omega
     have hgn:getH (lfs L) y=none:=by
      unfold getH
      rw [Ziq (fun j hj=>hno.out j (by rw [HAL.out] at hj;omega) hj)]
      rfl
     have HX2:=HX1.out.keep hWr.out
     have HW2:=Zac HW1.out hWr.out
     have HST:=hide (ZhM wr (w.heap.size+1) _ _ HX2 zeroR none 0 0)
     have HX3:=hide (ZaV HX2 zeroR (.slice none 0 0))
     have HB3:=hide (Zam HW2 (Nat.le_succ _) zeroR (.slice none 0 0))
     have HGN:=hide hgn
     generalize setRw wr (w.heap.size+1) zeroR (.slice none 0 0)=W3 at *
     clear hgn hno HX2 HW2
     unfold Rw.val zeroR at HST
     simp only at HST
     go_wp2_with (refine Zab _ rfl rfl 33 (.tmp 4) (.tmp 30) rfl (.pointer (some ⟨w.heap.size+1,0,none⟩)) (.agg #[.float .f64 0,.bool false,.slice none 0 0,.int .i64 0,.int .i64 0,.int .i64 0]) rfl rfl W3 HST.out ?_)
     refine bodyPost_ret (ZaD rfl HX3.out _ _ rfl rfl ⟨_,_,_,rfl⟩) rfl ?_
     exact⟨HB3.out,fun _=>rfl,fun g hg=>by rw [HGN.out] at hg;cases hg⟩
def Za1 (l : List Lb) : List Value := l.flatMap fun x => [x.u.val, x.v.val]
theorem Zcy : ∀ l : List Lb, (Za1 l).length = l.length * 2
  | [] => rfl
  | x :: l => by
    have e : Za1 (x :: l) = [x.u.val, x.v.val] ++ Za1 l := rfl
    rw [e, List.length_append, Zcy l, List.length_cons]
    simp only [List.length_cons, List.length_nil]
    omega
theorem ZfJ (l m : List Lb) : Za1 (l ++ m) = Za1 l ++ Za1 m := by simp [Za1]
theorem Zd9 (l : List Lb) : ∀ u ∈ Za1 l, u.oneCell' = true := by
 intro u hu
 obtain ⟨x, _, hx⟩ := List.mem_flatMap.1 hu
 simp only [List.mem_cons, List.not_mem_nil, or_false] at hx
 rcases hx with rfl | rfl <;> rfl
theorem Zcx : ∀ (l : List Lb) (j t : Nat), j < l.length → t < 2 → (Za1 l)[j * 2 + t]? = ([(l.getD j Lb.zero).u.val, (l.getD j Lb.zero).v.val] : List Value)[t]?
  | [], j, t, hj, _ => by simp at hj
  | x :: l, 0, t, _, ht => by
    have e : Za1 (x :: l) = [x.u.val, x.v.val] ++ Za1 l := rfl
    rw [e, Nat.zero_mul, Nat.zero_add, List.getElem?_append_left (by simpa using ht)]
    rfl
  | x :: l, j + 1, t, hj, ht => by
    have e : Za1 (x :: l) = [x.u.val, x.v.val] ++ Za1 l := rfl
    rw [e, List.getElem?_append_right (by simp only [List.length_cons, List.length_nil]; omega)]
    simp only [List.length_cons, List.length_nil]
    rw [show (j + 1) * 2 + t - (0 + 1 + 1) = j * 2 + t by omega]
    exact Zcx l j t (by simpa using hj) ht
theorem ZdA : ∀ (l : List Lb) (i : Nat) (x : Lb), Za1 (l.set i x) = ((Za1 l).set (i * 2) x.u.val).set (i * 2 + 1) x.v.val
  | [], i, x => by simp [Za1]
  | y :: l, 0, x => rfl
  | y :: l, i + 1, x => by
    have e : Za1 (y :: l) = y.u.val :: y.v.val :: Za1 l := rfl
    have e2 : Za1 ((y :: l).set (i + 1) x) = y.u.val :: y.v.val :: Za1 (l.set i x) := rfl
    rw [e, e2, ZdA l i x, show (i + 1) * 2 = i * 2 + 1 + 1 by omega]
    rfl
theorem ZmG : (Tryz.prog.info? 67).map (fun i => (i.zero, i.size, i.bytes)) = some (some (.agg #[.slice none 0 0, .slice none 0 0]), 2, 48) := by kernel_rfl
def OwnL (w : World) (s : Sl) (l : List Lb) : Prop := Own 67 2 w s (Za1 l)
theorem OwnL.len (h : OwnL w s l) : l.length = s.len := by
 have := h.1
 rw [Zcy] at this
 omega
theorem OwnL.at (h : OwnL w s l) {j : Nat} (hj : j < s.len) : ∃ b off, s.a = some ⟨b, off, none⟩ ∧ w.cell? ⟨b, off + j * 2, none⟩ = some (l.getD j Lb.zero).u.val ∧ w.cell? ⟨b, off + j * 2 + 1, none⟩ = some (l.getD j Lb.zero).v.val := by
 rcases h.2 with ⟨h0, _⟩ | ⟨g, off, cur, ha, _⟩
 · rw [h0] at hj; exact absurd hj (Nat.not_lt_zero _)
 · have hl : j < l.length := by rw [h.len]; exact hj
   have e0 := Zcx l j 0 hl (by decide)
   have e1 := Zcx l j 1 hl (by decide)
   have k0 := Own.cell h ha _ _ e0
   have k1 := Own.cell h ha _ _ e1
   rw [Addr.add_lit] at k0 k1
   exact ⟨g, off, ha, by simpa using k0, by rw [Nat.add_assoc]; simpa using k1⟩
theorem OwnL.gl {D : Nat → Prop} (h : OwnL w s l) (hm : s.len ≤ 900) (hD : ∀ k, s.blk = some k → D k) (hit : ∀ x ∈ l, Gi D w x.u x.t ∧ Gb D w x.v x.l) : Gl D w s l := by
 refine ⟨h.len, fun e => ?_, ?_, hm, fun ad ha hl => hD _ (by rw [Sl.blk, ha]; rfl), fun i hi => h.at hi, hit⟩
 · rcases h.2 with ⟨h0, _⟩ | ⟨g, off, cur, ha, _⟩
   · rw [h0]; rfl
   · rw [ha] at e; cases e
 · rcases h.2 with ⟨h0, _⟩ | ⟨g, off, cur, ha, hc, hd, he, _⟩
   · rw [h0]; exact Nat.le_refl _
   · exact he
theorem Gl.src {D:Nat→Prop}(h:Gl D w s l):Src Tryz.prog 2 22 s.val s.len (Za1 l) w:=by
 obtain⟨a,m,c⟩:=s
 have hlen:l.length=m:=h.len
 cases a with
 | none =>
  have hc:c=0:=h.nil rfl
  have hm:m=0:=by have:m≤c:=h.le;omega
  subst hc hm
  have hl:l=[]:=List.eq_nil_of_length_eq_zero hlen
  subst hl
  exact Src.ofNil w Tryz.underlying22 0
 | some ad =>
  refine Src.ofSlice _ Tryz.underlying22 ad m c (Za1 l) (by rw [Zcy,hlen]) (fun j u hj=>?_) (Zd9 _)
  have hjl:j<l.length*2:=by
   have:=(List.getElem?_eq_some_iff.1 hj).1
   rwa [Zcy] at this
  have hq:j / 2<m:=by rw [← hlen];omega
  obtain⟨b,off,ha,c0,c1⟩:=h.cell (j / 2) hq
  cases ha
  have hg:=Zcx l (j / 2) (j % 2) (by rw [hlen];exact hq) (Nat.mod_lt _ (by decide))
  rw [show j / 2*2+j % 2=j by omega] at hg
  rw [hg] at hj
  rw [Addr.add_lit]
  have hm:j % 2=0∨j % 2=1:=by omega
  rcases hm with e | e <;> rw [e] at hj <;> simp only [List.getElem?_cons_zero,List.getElem?_cons_succ,Option.some.injEq] at hj <;> subst hj
  · rw [show off+j=off+j / 2*2 by omega];exact c0
  · rw [show off+j=off+j / 2*2+1 by omega];exact c1
theorem OwnL.new0 (w : World) : OwnL (w.alloc (.cells #[] 67)) ⟨some ⟨w.heap.size, 0, none⟩, 0, 0⟩ [] :=
  ⟨rfl, .inr ⟨w.heap.size, 0, _, rfl, heap_alloc_new w _, by simp, Nat.le_refl _, by simp, rfl⟩⟩
theorem Zlp {off len cap:Nat}(h : OwnL w ⟨some ⟨g, off, none⟩, len, cap⟩ l) (i : Nat) (hi : i < len) (x : Lb) :
    ∃ W, (Instr.storeAt 67 (.pointer (some ⟨g, off + i * 2, none⟩)) (lfV x.u x.v)).run Tryz.prog w = .ok () W ∧ OwnL W ⟨some ⟨g, off, none⟩, len, cap⟩ (l.set i x) ∧ Frm (fun k => k = g) w W := by
  obtain ⟨b, o, ha, c0, c1⟩ := h.at (j := i) hi
  simp only [Option.some.injEq, Addr.mk.injEq, and_true] at ha
  obtain ⟨rfl, rfl⟩ := ha
  have f0 : ∀ o, w.frozen? ⟨g, o, none⟩ = false := fun o => by
   rcases h.2 with ⟨h0, _⟩ | ⟨g', off', cur, ha, hg, _⟩
   · cases h0
   · simp only [Option.some.injEq, Addr.mk.injEq, and_true] at ha
     obtain ⟨rfl, rfl⟩ := ha
     exact frozen_of_row w g _ cur _ hg
  have h1 := Own.setCell (Own.setCell h rfl (i * 2) x.u.val) rfl (i * 2 + 1) x.v.val
  rw [← ZdA] at h1
  refine ⟨(w.setCell ⟨g, off + i * 2, none⟩ x.u.val).setCell ⟨g, off + (i * 2 + 1), none⟩ x.v.val, ?_, h1, ((Frm.refl (fun k => k = g) w).setCell (p := ⟨g, off + i * 2, none⟩) rfl _).setCell (p := ⟨g, off + (i * 2 + 1), none⟩) rfl _⟩
  unfold lfV Sl.val at *
  rw [Nat.add_assoc] at c1
  simp [go_sem, Instr.storeAt, stored, c0, c1, f0, Nat.add_assoc]
end Go.Proofs.YtdojdcncncgncaaGreat
