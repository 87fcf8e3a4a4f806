/-
  Lemmas.
-/
import Derived.Test.YtdojdcncncgncaaGreatKtbi
namespace Go.Proofs.YtdojdcncncgncaaGreat
open Go.RowKit
set_option linter.unusedVariables false
set_option maxRecDepth 100000
set_option maxHeartbeats 4000000
variable {w w0 w':World}{S:List Sx}{g p:Nat}{s:Sl}
def setSx (w : World) (g : Nat) (y : Sx) : World := (((((((w.setCell ⟨g, 0, none⟩ (.int .i64 (y.i : Nat))).setCell ⟨g, 1, none⟩ (.int .i64 (y.k : Nat))).setCell ⟨g, 2, none⟩ (.float .f64 y.x.r.key)).setCell ⟨g, 3, none⟩ (.bool y.x.r.dead)).setCell ⟨g, 4, none⟩ (.slice y.x.a y.x.n y.x.c)).setCell ⟨g, 5, none⟩ (.int .i64 y.x.r.wr)).setCell ⟨g, 6, none⟩ (.int .i64 y.x.r.cell)).setCell ⟨g, 7, none⟩ (.int .i64 y.x.r.no)
theorem ZdE {y0 : Sx} (h : SxBlk w g y0) (y : Sx) : SxBlk (setSx w g y) g y := by
 have h1 := heap_setCell_same w g 0 _ 72 (.int .i64 (y.i : Nat)) h
 have h2 := heap_setCell_same _ g 1 _ 72 (.int .i64 (y.k : Nat)) h1
 have h3 := heap_setCell_same _ g 2 _ 72 (.float .f64 y.x.r.key) h2
 have h4 := heap_setCell_same _ g 3 _ 72 (.bool y.x.r.dead) h3
 have h5 := heap_setCell_same _ g 4 _ 72 (.slice y.x.a y.x.n y.x.c) h4
 have h6 := heap_setCell_same _ g 5 _ 72 (.int .i64 y.x.r.wr) h5
 have h7 := heap_setCell_same _ g 6 _ 72 (.int .i64 y.x.r.cell) h6
 have h8 := heap_setCell_same _ g 7 _ 72 (.int .i64 y.x.r.no) h7
 unfold SxBlk setSx
 rw [h8]
 simp [Sx.cells]
theorem ZdF (w : World) (g : Nat) (y : Sx) : Frm (fun k => k = g) w (setSx w g y) :=
  ((((((((Frm.refl (fun k => k = g) w).setCell (p := ⟨g, 0, none⟩) rfl _).setCell (p := ⟨g, 1, none⟩) rfl _).setCell (p := ⟨g, 2, none⟩) rfl _).setCell (p := ⟨g, 3, none⟩) rfl _).setCell (p := ⟨g, 4, none⟩) rfl _).setCell (p := ⟨g, 5, none⟩) rfl _).setCell (p := ⟨g, 6, none⟩) rfl _).setCell (p := ⟨g, 7, none⟩) rfl _
theorem SxBlk.fz {y : Sx} (h : SxBlk w p y) (t : Nat) : w.frozen? ⟨p, t, none⟩ = false := by
 unfold SxBlk at h
 simp [World.frozen?, h]
theorem ZmT {y0:Sx}(h:SxBlk w p y0)(y:Sx):(Instr.storeAt 72 (.pointer (some ⟨p,0,none⟩)) y.val).run Tryz.prog w=.ok () (setSx w p y):=by
 have hsf:∀(w:World) (a:Addr) (m:Mode) (x:Nat),(store a (.float .f64 x) m).run Tryz.prog w=stored Tryz.prog w a (.float .f64 x) m:=fun w a m x=>run_store Tryz.prog w a _ m rfl
 have c0:=h.c0
 have c1:=h.c1
 have c2:=h.c2
 have c3:=h.c3
 have c4:=h.c4
 have c5:=h.c5
 have c6:=h.c6
 have c7:=h.c7
 have f0:=h.fz
 simp [go_sem,Instr.storeAt,stored,hsf,c0,c1,c2,c3,c4,c5,c6,c7,f0,Sx.val,setSx]
theorem Zcl {fn : Func} {x y : Nat} (hr : fn.results = #[.cell x 72, .tmp y]) {W : World} {g : Nat} {z : Sx} (h : SxBlk W g z) (tmps : Array Value) (u : Value) (tx : tmps.getD x undef = .pointer (some ⟨g, 0, none⟩)) (ty : tmps.getD y undef = u) :
    (results fn tmps).run Tryz.prog W = .ok (.tuple #[z.val, u]) W := by
  have c0 := h.c0
  have c1 := h.c1
  have c2 := h.c2
  have c3 := h.c3
  have c4 := h.c4
  have c5 := h.c5
  have c6 := h.c6
  have c7 := h.c7
  have tx2 : tmps[x]?.getD undef = .pointer (some ⟨g, 0, none⟩) := by simpa using tx
  have ty2 : tmps[y]?.getD undef = u := by simpa using ty
  simp [results, hr, tx2, ty2, go_sem, c0, c1, c2, c3, c4, c5, c6, c7, Sx.val]
theorem ZiL {p : Sx → Bool} {i : Nat} (hi : i < S.length) (hp : p S[i] = true) (hn : ∀ j, (hj : j < i) → p (S[j]'(by omega)) = false) : S.find? p = some S[i] := by
 induction S generalizing i with
 | nil => exact absurd hi (Nat.not_lt_zero _)
 | cons x l ih =>
  cases i with
  | zero =>
   simp only [List.getElem_cons_zero] at hp ⊢
   rw [List.find?_cons, hp]
  | succ i =>
   have h0 : p x = false := hn 0 (Nat.zero_lt_succ _)
   rw [List.find?_cons, h0]
   simp only [List.getElem_cons_succ] at hp ⊢
   exact ih (by simpa using hi) hp (fun j hj => hn (j + 1) (Nat.succ_lt_succ hj))
theorem ZgU {p : Sx → Bool} (hn : ∀ j, (hj : j < S.length) → p S[j] = false) : S.find? p = none := by
 rw [List.find?_eq_none]
 intro x hx
 obtain ⟨j, hj, rfl⟩ := List.getElem_of_mem hx
 rw [hn j hj]
 decide
def Zdl (w : World) (r : Option Sx) (e : Ending) (w' : World) : Prop :=
  (e = .returned (match r with | some y => .tuple #[y.val, .bool true] | none => .tuple #[Sx.zero.val, .bool false])) ∧ Below w.heap.size w w'
theorem Zf1 (w0 w:World)(s:Sl)(S:List Sx)(h:Std w0 w s S)(hl:S.length≤100000)(g:Nat)(key:Nat)(hk:key<18446744073709551616)(hg:ZcX w g key) :
    Calls Tryz.prog 34 #[s.val,.func (.func 76) #[] #[.pointer (some ⟨g,0,none⟩)]] w (Zdl w (S.find? (ofK key))):=by
  obtain⟨a,len,cap⟩:=s
  have hB:=Zaa w (.cells #[.int .i64 0,.int .i64 0,.float .f64 0,.bool false,.slice none 0 0,.int .i64 0,.int .i64 0,.int .i64 0] 72)
  have hX:SxBlk (w.alloc (.cells #[.int .i64 0,.int .i64 0,.float .f64 0,.bool false,.slice none 0 0,.int .i64 0,.int .i64 0,.int .i64 0] 72)) w.heap.size Sx.zero:=SxBlk.new w Sx.zero
  have hS:=h.keep hB
  have HL:Hid (S.length=len):=h.len
  have hl':len≤100000:=by rw [← HL.out];exact hl
  have HI:=hide (Zmz w0 _ ⟨a,len,cap⟩ S hS hl g key hk (hg.keep hB))
  have HB:=hide hB
  have HX:=hide hX
  have HS:=hide hS
  clear h hB hX hS hl
  unfold Sl.val at *
  simp only at *
  go_enter Tryz.func34,Tryz.ntmps34
  go_wp2_with fail
  generalize w.alloc (.cells #[.int .i64 0,.int .i64 0,.float .f64 0,.bool false,.slice none 0 0,.int .i64 0,.int .i64 0,.int .i64 0] 72)=W0 at *
  refine HI.out.mono ?_
  rintro e w1 ⟨hi,hb⟩
  have HB1:=hide (Zad HB.out hb)
  have HX1:=hide (HX.out.keep hb)
  have HS1:=hide (HS.out.keep hb)
  clear hb HI
  rcases hi with ⟨i,hi,hp,hn,rfl⟩ | ⟨hn,rfl⟩
  · have HF:Hid (S.find? (ofK key)=some S[i]):=ZiL hi hp hn
    obtain⟨b,o,ha,c0⟩:=HS1.out.cell hi
    replace ha:a=some ⟨b,o,none⟩:=ha
    subst ha
    have hge:S.getD i Sx.zero=S[i]:=by simp [List.getD,hi]
    rw [hge] at c0
    have hlt:i<len:=by rw [← HL.out];exact hi
    have i0:¬(i:Int)<0:=by omega
    have i1:(i:Int)<(len:Int):=by omega
    have HLD:=hide (ZeO c0)
    have HIX:=hide (Zdx b o len cap i hlt)
    generalize S[i]=y at *
    have HST:=hide (ZmT HX1.out y)
    have HX2:=hide (ZdE HX1.out y)
    have HB2:Hid (Below w.heap.size w (setSx w1 w.heap.size y)):=HB1.out.trans ((ZdF w1 w.heap.size y).below HB1.out.size (fun k hk=>by rw [hk];exact Nat.le_refl _))
    generalize setSx w1 w.heap.size y=W2 at *
    clear c0 hge hp hn hi
    go_wp2_with (first | refine Zau _ rfl 72 (.tmp 15) rfl (.pointer (some ⟨b,o+i*8,none⟩)) _ rfl HLD.out ?_ | refine Zac _ rfl rfl 72 (.tmp 4) (.tmp 16) rfl (.pointer (some ⟨w.heap.size,0,none⟩)) _ rfl rfl W2 HST.out ?_)
    refine bodyPost_ret (Zcl rfl HX2.out _ _ rfl rfl) rfl ?_
    refine⟨?_,HB2.out⟩
    rw [HF.out]
    rfl
  · have HF:Hid (S.find? (ofK key)=none):=ZgU hn
    have HST:=hide (ZmT HX1.out Sx.zero)
    have HX2:=hide (ZdE HX1.out Sx.zero)
    have HB2:Hid (Below w.heap.size w (setSx w1 w.heap.size Sx.zero)):=HB1.out.trans ((ZdF w1 w.heap.size Sx.zero).below HB1.out.size (fun k hk=>by rw [hk];exact Nat.le_refl _))
    generalize setSx w1 w.heap.size Sx.zero=W2 at *
    clear hn
    go_wp2_with (first | refine Zac _ rfl rfl 72 (.tmp 4) (.tmp 12) rfl (.pointer (some ⟨w.heap.size,0,none⟩)) (Sx.zero.val) rfl rfl W2 HST.out ?_)
    refine bodyPost_ret (Zcl rfl HX2.out _ _ rfl rfl) rfl ?_
    refine⟨?_,HB2.out⟩
    rw [HF.out]
    rfl
theorem ZcK (w0 w:World)(s:Sl)(S:List Sx)(h:Std w0 w s S)(hl:S.length≤100000)(g:Nat)(b:Bt)(hg:BtBlk w g b) :
    Calls Tryz.prog 34 #[s.val,.func (.func 77) #[] #[.pointer (some ⟨g,0,none⟩)]] w (Zdl w (S.find? (inB b))):=by
  obtain⟨a,len,cap⟩:=s
  have hB:=Zaa w (.cells #[.int .i64 0,.int .i64 0,.float .f64 0,.bool false,.slice none 0 0,.int .i64 0,.int .i64 0,.int .i64 0] 72)
  have hX:SxBlk (w.alloc (.cells #[.int .i64 0,.int .i64 0,.float .f64 0,.bool false,.slice none 0 0,.int .i64 0,.int .i64 0,.int .i64 0] 72)) w.heap.size Sx.zero:=SxBlk.new w Sx.zero
  have hS:=h.keep hB
  have HL:Hid (S.length=len):=h.len
  have hl':len≤100000:=by rw [← HL.out];exact hl
  have HI:=hide (Zmw w0 _ ⟨a,len,cap⟩ S hS hl g b (hg.keep hB))
  have HB:=hide hB
  have HX:=hide hX
  have HS:=hide hS
  clear h hB hX hS hl
  unfold Sl.val at *
  simp only at *
  go_enter Tryz.func34,Tryz.ntmps34
  go_wp2_with fail
  generalize w.alloc (.cells #[.int .i64 0,.int .i64 0,.float .f64 0,.bool false,.slice none 0 0,.int .i64 0,.int .i64 0,.int .i64 0] 72)=W0 at *
  refine HI.out.mono ?_
  rintro e w1 ⟨hi,hb⟩
  have HB1:=hide (Zad HB.out hb)
  have HX1:=hide (HX.out.keep hb)
  have HS1:=hide (HS.out.keep hb)
  clear hb HI
  rcases hi with ⟨i,hi,hp,hn,rfl⟩ | ⟨hn,rfl⟩
  · have HF:Hid (S.find? (inB b)=some S[i]):=ZiL hi hp hn
    obtain⟨b,o,ha,c0⟩:=HS1.out.cell hi
    replace ha:a=some ⟨b,o,none⟩:=ha
    subst ha
    have hge:S.getD i Sx.zero=S[i]:=by simp [List.getD,hi]
    rw [hge] at c0
    have hlt:i<len:=by rw [← HL.out];exact hi
    have i0:¬(i:Int)<0:=by omega
    have i1:(i:Int)<(len:Int):=by omega
    have HLD:=hide (ZeO c0)
    have HIX:=hide (Zdx b o len cap i hlt)
    generalize S[i]=y at *
    have HST:=hide (ZmT HX1.out y)
    have HX2:=hide (ZdE HX1.out y)
    have HB2:Hid (Below w.heap.size w (setSx w1 w.heap.size y)):=HB1.out.trans ((ZdF w1 w.heap.size y).below HB1.out.size (fun k hk=>by rw [hk];exact Nat.le_refl _))
    generalize setSx w1 w.heap.size y=W2 at *
    clear c0 hge hp hn hi
    go_wp2_with (first | refine Zau _ rfl 72 (.tmp 15) rfl (.pointer (some ⟨b,o+i*8,none⟩)) _ rfl HLD.out ?_ | refine Zac _ rfl rfl 72 (.tmp 4) (.tmp 16) rfl (.pointer (some ⟨w.heap.size,0,none⟩)) _ rfl rfl W2 HST.out ?_)
    refine bodyPost_ret (Zcl rfl HX2.out _ _ rfl rfl) rfl ?_
    refine⟨?_,HB2.out⟩
    rw [HF.out]
    rfl
  · have HF:Hid (S.find? (inB b)=none):=ZgU hn
    have HST:=hide (ZmT HX1.out Sx.zero)
    have HX2:=hide (ZdE HX1.out Sx.zero)
    have HB2:Hid (Below w.heap.size w (setSx w1 w.heap.size Sx.zero)):=HB1.out.trans ((ZdF w1 w.heap.size Sx.zero).below HB1.out.size (fun k hk=>by rw [hk];exact Nat.le_refl _))
    generalize setSx w1 w.heap.size Sx.zero=W2 at *
    clear hn
    go_wp2_with (first | refine Zac _ rfl rfl 72 (.tmp 4) (.tmp 12) rfl (.pointer (some ⟨w.heap.size,0,none⟩)) (Sx.zero.val) rfl rfl W2 HST.out ?_)
    refine bodyPost_ret (Zcl rfl HX2.out _ _ rfl rfl) rfl ?_
    refine⟨?_,HB2.out⟩
    rw [HF.out]
    rfl
theorem Zhs (w : World) (key : Nat) : Calls Tryz.prog 35 #[.float .f64 key] w fun e w' => (∃ g, e = .returned (.func (.func 76) #[] #[.pointer (some ⟨g, 0, none⟩)]) ∧ ZcX w' g key) ∧ Below w.heap.size w w' := by
 have HK : Hid (ZcX (w.alloc (.cells #[.float .f64 key] 23)) w.heap.size key) := heap_alloc_new w _
 have HB := hide (Zaa w (.cells #[.float .f64 key] 23))
 go_enter Tryz.func35, Tryz.ntmps35
 go_wp2_with fail
 go_ret
 exact ⟨⟨_, rfl, HK.out⟩, HB.out⟩
theorem Zca (w : World) (b : Bt) : Calls Tryz.prog 36 #[btV b] w fun e w' => (∃ g, e = .returned (.func (.func 77) #[] #[.pointer (some ⟨g, 0, none⟩)]) ∧ BtBlk w' g b) ∧ Below w.heap.size w w' := by
 have HK := hide (Zaw w b)
 have HB := hide (Zaa w (.cells #[.int .i64 b.1, .int .i64 b.2] 26))
 obtain ⟨b1, b2⟩ := b
 unfold btV
 simp only at *
 go_enter Tryz.func36, Tryz.ntmps36
 go_wp2_with fail
 go_ret
 exact ⟨⟨_, rfl, HK.out⟩, HB.out⟩
theorem Zga.one {w0 w' : World} {l : List Lf} {e : Ending} (h : Zga w0 l e w') : ∃ (s : Sl) (S : List Sx) (k : Int), e = .returned (.tuple #[s.val, .int .i64 k]) ∧ Std w0 w' s S ∧ ((MayH l ∧ k = 0 ∧ S.map Sx.hr = allH l) ∨ (¬ MayH l ∧ k = 1 ∧ S = [])) := by
  rcases h with ⟨hm, s, S, he, hs, hr⟩ | ⟨hm, he, hb⟩
  · exact ⟨s, S, 0, he, hs, .inl ⟨hm, rfl, hr⟩⟩
  · exact ⟨⟨none, 0, 0⟩, [], 1, he, ⟨⟨rfl, .inl ⟨rfl, rfl⟩⟩, (fun k hk => by cases hk), hb, (fun y hy => by cases hy), fun y hy => by cases hy⟩, .inr ⟨hm, rfl, rfl⟩⟩
theorem MayH.len {l : List Lf} (h : MayH l) (e : S.map Sx.hr = allH l) : S.length ≤ 62 * 64 := by
 have := congrArg List.length e
 rw [List.length_map] at this
 rw [this]
 have h3 := ZcQ l 0 (fun f hf => (h.leaf f hf).slots.1)
 have : l.length * 64 ≤ 62 * 64 := Nat.mul_le_mul_right _ h.few
 exact Nat.le_trans h3 this
theorem Zj3 (w : World) (s : Sl) (L : List Lb) (h : Gl (fun _ => True) w s L) : Calls Tryz.prog 14 #[s.val] w fun e w' => Zkm (lfs L) e ∧ Below w.heap.size w w' := by
 have HO := hide (Zbz w s L h)
 obtain ⟨a, len, cap⟩ := s
 clear h
 unfold Sl.val at *
 simp only at *
 go_enter Tryz.func14, Tryz.ntmps14
 go_wp2_with fail
 refine HO.out.mono ?_
 intro e w1 ho
 obtain ⟨⟨sa, sn, sc⟩, S, k, rfl, hs, hk⟩ := ho.one
 have HK := hide hk
 have HB := hide hs.below
 clear ho hs hk HO
 unfold Sl.val
 simp only
 go_wp2_with fail
 go_ret
 refine ⟨?_, HB.out⟩
 rcases HK.out with ⟨hm, rfl, _⟩ | ⟨hm, rfl, _⟩
 · exact .inl ⟨hm, rfl⟩
 · exact .inr ⟨hm, rfl⟩
theorem SxBlk.rw {w : World} {p : Nat} {y : Sx} (h : SxBlk w p y) : RwAt w p 2 y.x := ⟨h.c2, h.c3, h.c4, h.c5, h.c6, h.c7⟩
theorem Zn9 (g : Nat) (w : World) : (Instr.fieldAt 72 (.pointer (some ⟨g, 0, none⟩)) 1).run Tryz.prog w = .ok (.pointer (some ⟨g, 2, none⟩)) w := by simp [go_sem, Instr.fieldAt]
theorem Zn8 (g : Nat) (w : World) : (Instr.fieldAt 72 (.pointer (some ⟨g, 0, none⟩)) 0).run Tryz.prog w = .ok (.pointer (some ⟨g, 0, none⟩)) w := by simp [go_sem, Instr.fieldAt]
theorem Zo7 (B:Nat)(W0 V w:World)(g p q:Nat)(x:Rx)(y:Bt)(r:Bool)(hW:FS B W0 V g 2 g 0 p q x y w)
    {Q:Exit→Act→World→Prop}{A:Act}(hsz:A.tmps.size=28)(hdf:A.defers=[])(s9:A.tmps.getD 9 undef=.pointer (some ⟨g,0,none⟩))(s10:A.tmps.getD 10 undef=.bool r)(s4:A.tmps.getD 4 undef=.pointer (some ⟨p,0,none⟩))(s5:A.tmps.getD 5 undef=.pointer (some ⟨q,0,none⟩))
    (hend:∀(u:Nat→Value) w',RwBlk w' p x.r (.slice x.a x.n x.c)→BtBlk w' q y→Below B W0 w'→Frm (fun k=>k=p∨k=q) V w'→Q .normal (((((((A).put (some 23) (u 23)).put (some 24) (u 24)).put (some 25) (u 25)).put (some 26) (u 26)).put (some 27) (u 27)).put (some 6) (.bool r)) w') :
    (Code.region 3 (Pl.find 3 ((Tryz.f10.body).getD .skip)) true).wp Tryz.prog Q A w:=by
  have hS0:FS B W0 V g 2 g 0 p q x y w.drew:=hW.drew
  have hA:=Pl.At.same (v:=.pointer (some ⟨q,0,none⟩)) (d:=5) (Pl.At.same (v:=.pointer (some ⟨p,0,none⟩)) (d:=4) (Pl.At.same (v:=.bool r) (d:=10) (Pl.At.same (v:=.pointer (some ⟨g,0,none⟩)) (d:=9) (Pl.At.here hsz hdf) s9) s10) s4) s5
  refine Pl.qa (S:=(FS B W0 V g 2 g 0 p q x y)) hA hS0 ?_
  rw [show (Pl.find 3 ((Tryz.f10.body).getD .skip)).size=8 by kernel_rfl]
  refine Pl.q0 0 23 (.pointer (some ⟨g,2,none⟩)) (Pl.q1) (Pl.q5 72 (.tmp 9) 1 (Zn9 g)) hS0 ?_
  refine Pl.q0 1 24 (x.val) (Pl.q1) (Pl.q3 33 (.tmp 23) (fun w' hS=>Zc2 g 2 x w' hS.rx)) hS0 ?_
  refine Pl.q0 2 25 (.pointer (some ⟨g,0,none⟩)) (Pl.q1) (Pl.q5 72 (.tmp 9) 0 (Zn8 g)) hS0 ?_
  refine Pl.q0 3 26 (btV y) (Pl.q1) (Pl.q3 26 (.tmp 25) (fun w' hS=>ZeM hS.y0 hS.y1)) hS0 ?_
  refine Pl.q0 4 27 (.bool r) (Pl.q1) (Pl.q2 (.tmp 10)) hS0 ?_
  obtain⟨W1,hst1,hS1,hk1⟩:=hS0.row
  refine Pl.qh 5 W1 (Pl.q1) (Pl.qi 33 (.tmp 4) (.tmp 24) hst1) hS1 ?_
  obtain⟨W2,hst2,hS2,hk2,hq2⟩:=hS1.bt hk1
  refine Pl.qh 6 W2 (Pl.q1) (Pl.qi 26 (.tmp 5) (.tmp 26) hst2) hS2 ?_
  refine Pl.q0 7 6 (.bool r) (Pl.q1) (Pl.qf (.tmp 27)) hS2 ?_
  refine Pl.q7 (fun A' hA'=>?_)
  rw [Pl.At.ext hA' ((((((hA.put 23 _).put 24 _).put 25 _).put 26 _).put 27 _).put 6 _)]
  exact hend hA'.fn _ hk2 hq2 hS2.e hS2.f
def orZ (r : Option Sx) : Sx := r.getD Sx.zero
theorem Zdl.one {r : Option Sx} {e : Ending} (h : Zdl w r e w') : e = .returned (.tuple #[(orZ r).val, .bool r.isSome]) ∧ Below w.heap.size w w' := by
 obtain ⟨h1, h2⟩ := h
 refine ⟨?_, h2⟩
 rw [h1]
 cases r <;> rfl
def Zkn (w : World) (l : List Lf) (key : Nat) (e : Ending) (w' : World) : Prop :=
  Below w.heap.size w w' ∧ ∃ S : List Sx, ((MayH l ∧ S.map Sx.hr = allH l) ∨ (¬ MayH l ∧ S = [])) ∧ e = .returned (.tuple #[(orZ (S.find? (ofK key))).x.val, btV (((orZ (S.find? (ofK key))).i : Nat), ((orZ (S.find? (ofK key))).k : Nat)), .bool (S.find? (ofK key)).isSome]) ∧ ∀ y ∈ S, ColF w' y.x ∧ y.x.r.fits
theorem ZgX (w:World)(s:Sl)(L:List Lb)(key:Nat)(h:Gl (fun _=>True) w s L)(hkey:key<18446744073709551616) :
    Calls Tryz.prog 10 #[s.val,.float .f64 key] w (Zkn w (lfs L) key):=by
  have hsf:∀(w:World) (a:Addr) (m:Mode) (x:Nat),(store a (.float .f64 x) m).run Tryz.prog w=stored Tryz.prog w a (.float .f64 x) m:=fun w a m x=>run_store Tryz.prog w a _ m rfl
  have hA1:=Zaa w (.cells #[.float .f64 0,.bool false,.slice none 0 0,.int .i64 0,.int .i64 0,.int .i64 0] 33)
  have hA2:=Zaa (w.alloc (.cells #[.float .f64 0,.bool false,.slice none 0 0,.int .i64 0,.int .i64 0,.int .i64 0] 33)) (.cells #[.int .i64 0,.int .i64 0] 26)
  have hX:RwBlk ((w.alloc (.cells #[.float .f64 0,.bool false,.slice none 0 0,.int .i64 0,.int .i64 0,.int .i64 0] 33)).alloc (.cells #[.int .i64 0,.int .i64 0] 26)) w.heap.size zeroR (.slice none 0 0):=(Zak w zeroR (.slice none 0 0)).keep hA2
  have hY:BtBlk ((w.alloc (.cells #[.float .f64 0,.bool false,.slice none 0 0,.int .i64 0,.int .i64 0,.int .i64 0] 33)).alloc (.cells #[.int .i64 0,.int .i64 0] 26)) (w.heap.size+1) (0,0):=by
   have:=Zaw (w.alloc (.cells #[.float .f64 0,.bool false,.slice none 0 0,.int .i64 0,.int .i64 0,.int .i64 0] 33)) (0,0)
   rwa [Zae] at this
  obtain⟨W0,hW0⟩:∃W0,W0=(w.alloc (.cells #[.float .f64 0,.bool false,.slice none 0 0,.int .i64 0,.int .i64 0,.int .i64 0] 33)).alloc (.cells #[.int .i64 0,.int .i64 0] 26):=⟨_,rfl⟩
  rw [← hW0] at hX hY
  have HW0:Hid (Below w.heap.size w W0):=by rw [hW0];exact Zad hA1 hA2
  have hs0:W0.heap.size=w.heap.size+2:=by rw [hW0,Zae,Zae]
  have HX:=hide hX
  have HY:=hide hY
  have HO:=hide (Zbz W0 s L (h.below HW0.out (Nat.le_refl _)))
  have HS0:=hide hs0
  have HWE:=hide hW0
  obtain⟨a,len,cap⟩:=s
  clear h hA1 hA2 hX hY hW0 hs0
  unfold Sl.val at *
  simp only at *
  go_enter Tryz.func10,Tryz.ntmps10
  go_wp2_with fail
  rw [← HWE.out]
  refine HO.out.mono ?_
  intro e w1 ho
  obtain⟨⟨sa,sn,sc⟩,S,k,rfl,hs,hk⟩:=ho.one
  have HK:Hid ((MayH (lfs L)∧S.map Sx.hr=allH (lfs L))∨(¬MayH (lfs L)∧S=[])):=by
   rcases hk with ⟨h1,_,h2⟩ | ⟨h1,_,h2⟩
   · exact .inl ⟨h1,h2⟩
   · exact .inr ⟨h1,h2⟩
  have HLS:Hid (S.length≤100000):=by
   rcases HK.out with ⟨h1,h2⟩ | ⟨h1,h2⟩
   · exact Nat.le_trans (h1.len h2) (by decide)
   · rw [h2];exact Nat.zero_le _
  have HW1:=hide (Zad HW0.out hs.below)
  have HX1:=hide (HX.out.keep hs.below)
  have HY1:=hide (HY.out.keep hs.below)
  have HS1:=hide hs
  have HSZ:Hid (w.heap.size+2≤w1.heap.size):=by show _≤_;rw [← HS0.out];exact hs.below.size
  have HKE:=hide (Zhs w1 key)
  clear ho hs hk HO
  unfold Sl.val
  simp only
  go_wp2_with fail
  refine HKE.out.mono ?_
  rintro e w2 ⟨⟨g,rfl,hg⟩,hb⟩
  have HFI:=hide (Zf1 W0 w2 ⟨sa,sn,sc⟩ S (HS1.out.keep hb) HLS.out g key hkey hg)
  have HS2:=hide (HS1.out.keep hb)
  have HW2:=hide (Zad HW1.out hb)
  have HX2:=hide (HX1.out.keep hb)
  have HY2:=hide (HY1.out.keep hb)
  have HSZ2:Hid (w.heap.size+2≤w2.heap.size):=Nat.le_trans HSZ.out hb.size
  clear hg hb HKE
  unfold Sl.val at HFI
  simp only at HFI
  go_wp2_with fail
  refine HFI.out.mono ?_
  intro e w3 hf
  obtain⟨rfl,hb⟩:=hf.one
  obtain⟨z,hz⟩:∃z,z=orZ (S.find? (ofK key)):=⟨_,rfl⟩
  obtain⟨r,hr⟩:∃r,r=(S.find? (ofK key)).isSome:=⟨_,rfl⟩
  rw [← hz,← hr]
  have HZ:=hide hz
  have HR:=hide hr
  have HB4:=Zaa w3 (.cells z.cells.toArray 72)
  have HBB:=Zad hb HB4
  have HS4:=hide (HS2.out.keep HBB)
  have HW4:=hide (Zad HW2.out HBB)
  have HX4:=hide (HX2.out.keep HBB)
  have HY4:=hide (HY2.out.keep HBB)
  have HSZ4:Hid (w.heap.size+2≤w3.heap.size):=Nat.le_trans HSZ2.out hb.size
  have HSX:=hide (SxBlk.new w3 z)
  have HSTO:=hide (Zck z w3)
  generalize w3.alloc (.cells z.cells.toArray 72)=W4 at *
  have HFS:Hid (FS w.heap.size w W4 w3.heap.size 2 w3.heap.size 0 w.heap.size (w.heap.size+1) z.x ((z.i:Nat),(z.k:Nat)) W4):=
   ⟨HSX.out.rw,HSX.out.c0,HSX.out.c1,⟨_,_,HX4.out⟩,⟨_,HY4.out⟩,HW4.out,Frm.refl _ _,by have:=HSZ4.out;refine ⟨?_,?_,?_,?_,?_,?_,?_⟩ <;> omega⟩
  clear hf hb hz hr HB4 HBB HFI
  go_upto_region 3 with (first | refine Zac _ rfl rfl 72 (.tmp 9) (.tmp 21) rfl (.pointer (some ⟨w3.heap.size,0,none⟩)) _ rfl rfl W4 HSTO.out ?_)
  refine Pl.q9 (ops:=Pl.find 3 ((Tryz.f10.body).getD .skip)) ?_
  refine Zo7 w.heap.size w W4 W4 w3.heap.size w.heap.size (w.heap.size+1) z.x ((z.i:Nat),(z.k:Nat)) r HFS.out (by rfl) (by rfl) (by rfl) (by rfl) (by rfl) (by rfl) ?_
  intro u w5 k1 k2 hb hfr
  simp only [Act.put,List.setIfInBounds_toArray,List.set_cons_zero,List.set_cons_succ]
  have HK1:=hide k1
  have HK2:=hide k2
  have HB5:=hide hb
  have HC5:Hid (∀y∈S,ColF w5 y.x∧y.x.r.fits):=fun y hy=>⟨(HS4.out.flt y hy).frm hfr (fun k hk C fr hc=>by
   rcases hk with rfl | rfl
   · have:=HX4.out;rw [RwBlk,hc] at this;simp only [Option.some.injEq,Obj.cells.injEq] at this;exact absurd this.2.1 (by decide)
   · have:=HY4.out;rw [BtBlk,hc] at this;simp only [Option.some.injEq,Obj.cells.injEq] at this;exact absurd this.2.1 (by decide)),HS4.out.fits y hy⟩
  clear k1 k2 hb hfr
  go_wp2_with fail
  refine bodyPost_ret (Zdb rfl HK1.out HK2.out _ _ rfl rfl rfl) rfl ?_
  refine⟨HB5.out,S,HK.out,?_,HC5.out⟩
  rw [← HZ.out,← HR.out]
  rfl
def ZlZ (w:World) (l:List Lf) (b:Bt) (e:Ending) (w':World):Prop:=
  Below w.heap.size w w'∧∃S:List Sx,((MayH l∧S.map Sx.hr=allH l)∨(¬MayH l∧S=[]))∧e=.returned (.tuple #[(orZ (S.find? (inB b))).x.val,.bool (S.find? (inB b)).isSome])∧∀y∈S,ColF w' y.x∧y.x.r.fits
theorem ZiN (w:World)(s:Sl)(L:List Lb)(b:Bt)(h:Gl (fun _=>True) w s L) :
    Calls Tryz.prog 11 #[s.val,btV b] w (ZlZ w (lfs L) b):=by
  have be:∀(w:World) (a:Addr) (m:Mode) (x:Nat),(store a (.float .f64 x) m).run Tryz.prog w=stored Tryz.prog w a (.float .f64 x) m:=fun w a m x=>run_store Tryz.prog w a _ m rfl;have ao:=Zaa w (.cells #[.int .i64 b.1,.int .i64 b.2] 26);have af:=Zaa (w.alloc (.cells #[.int .i64 b.1,.int .i64 b.2] 26)) (.cells #[.float .f64 0,.bool false,.slice none 0 0,.int .i64 0,.int .i64 0,.int .i64 0] 33);have hY:BtBlk ((w.alloc (.cells #[.int .i64 b.1,.int .i64 b.2] 26)).alloc (.cells #[.float .f64 0,.bool false,.slice none 0 0,.int .i64 0,.int .i64 0,.int .i64 0] 33)) w.heap.size b:=(Zaw w b).keep af;have hX:RwBlk ((w.alloc (.cells #[.int .i64 b.1,.int .i64 b.2] 26)).alloc (.cells #[.float .f64 0,.bool false,.slice none 0 0,.int .i64 0,.int .i64 0,.int .i64 0] 33)) (w.heap.size+1) zeroR (.slice none 0 0):=by
   have:=Zak (w.alloc (.cells #[.int .i64 b.1,.int .i64 b.2] 26)) zeroR (.slice none 0 0);rwa [Zae] at this
  obtain⟨W0,ac⟩:∃W0,W0=(w.alloc (.cells #[.int .i64 b.1,.int .i64 b.2] 26)).alloc (.cells #[.float .f64 0,.bool false,.slice none 0 0,.int .i64 0,.int .i64 0,.int .i64 0] 33):=⟨_,rfl⟩;rw [← ac] at hX hY;(have an:Hid (Below w.heap.size w W0):=by rw [ac];exact Zad ao af);have HX:=hide hX;have HY:=hide hY;have HO:=hide (Zbz W0 s L (h.below an.out (Nat.le_refl _)));have ba:=hide ac;have aj:=hide (fun w=>Zca w b);have ai:=hide (fun (w0 w:World) (s:Sl) (S:List Sx) (h:Std w0 w s S) (hl:S.length≤100000) (g:Nat) (hg:BtBlk w g b)=>ZcK w0 w s S h hl g b hg);obtain⟨a,len,cap⟩:=s;clear h ao af hX hY ac;obtain⟨b1,b2⟩:=b;unfold Sl.val btV at *;simp only at *;go_enter Tryz.func11,Tryz.ntmps11;go_wp2_with fail;rw [← ba.out];refine HO.out.mono ?_;intro e w1 ho;obtain⟨⟨sa,sn,sc⟩,S,k,rfl,hs,hk⟩:=ho.one;have HK:Hid ((MayH (lfs L)∧S.map Sx.hr=allH (lfs L))∨(¬MayH (lfs L)∧S=[])):=by
   rcases hk with ⟨h1,_,h2⟩ | ⟨h1,_,h2⟩
   · exact .inl ⟨h1,h2⟩
   · exact .inr ⟨h1,h2⟩
  have au:Hid (S.length≤100000):=by
   rcases HK.out with ⟨h1,h2⟩ | ⟨h1,h2⟩
   · exact Nat.le_trans (h1.len h2) (by decide)
   · rw [h2];exact Nat.zero_le _
  have ax:=hide (Zad an.out hs.below);have bb:=hide (HX.out.keep hs.below);have ag:=HY.out.keep hs.below;have ak:=hide hs;have y0:=ag.c0;have y1:=ag.c1;clear ho hs hk HO ag;unfold Sl.val;simp only at y0 y1 ⊢;go_wp2_with fail;refine(aj.out w1).mono ?_;rintro e w2 ⟨⟨g,rfl,hg⟩,hb⟩;have ab:=hide (ai.out W0 w2 ⟨sa,sn,sc⟩ S (ak.out.keep hb) au.out g hg);have av:=hide (ak.out.keep hb);have ay:=hide (Zad ax.out hb);have bc:=hide (bb.out.keep hb);clear hg hb aj ai y0 y1;unfold Sl.val at ab;simp only at ab;go_wp2_with fail;refine ab.out.mono ?_;intro e w3 hf;obtain⟨rfl,hb⟩:=hf.one;obtain⟨z,hz⟩:∃z,z=orZ (S.find? (inB (b1,b2))):=⟨_,rfl⟩;obtain⟨r,hr⟩:∃r,r=(S.find? (inB (b1,b2))).isSome:=⟨_,rfl⟩;rw [← hz,← hr];have HZ:=hide hz;have HR:=hide hr;have ah:=Zaa w3 (.cells z.cells.toArray 72);have aa:=Zad hb ah;have al:=hide (av.out.keep aa);have az:=hide (Zad ay.out aa);have ae:=hide (bc.out.keep aa);have am:=SxBlk.new w3 z;have ad:=hide (Zck z w3);generalize w3.alloc (.cells z.cells.toArray 72)=W4 at *;have ar:=hide (Zc2 w3.heap.size 2 z.x W4 am.rw);have aw:=hide (Zis W4 (w.heap.size+1) _ _ ae.out z.x.r z.x.a z.x.n z.x.c);have bd:=hide (Zbp ae.out z.x.r (.slice z.x.a z.x.n z.x.c));have ap:=hide (Zao az.out (show w.heap.size≤w.heap.size+1 by omega) z.x.r (.slice z.x.a z.x.n z.x.c));have aq:Hid (∀y∈S,ColF (setRw W4 (w.heap.size+1) z.x.r (.slice z.x.a z.x.n z.x.c)) y.x∧y.x.r.fits):=fun y hy=>⟨(al.out.flt y hy).frm (ZbQ W4 _ _ _) (fun k hk C fr hc=>by
   subst hk;have:=ae.out;rw [RwBlk,hc] at this;simp only [Option.some.injEq,Obj.cells.injEq] at this;exact absurd this.2.1 (by decide)),al.out.fits y hy⟩
  generalize setRw W4 (w.heap.size+1) z.x.r (.slice z.x.a z.x.n z.x.c)=W5 at *;clear hf hb hz hr ah aa ab am;go_wp2_with (first | refine Zac _ rfl rfl 72 (.tmp 8) (.tmp 20) rfl (.pointer (some ⟨w3.heap.size,0,none⟩)) _ rfl rfl W4 ad.out ?_ | refine Zau _ rfl 33 (.tmp 22) rfl (.pointer (some ⟨w3.heap.size,2,none⟩)) _ rfl ar.out ?_ | refine Zac _ rfl rfl 33 (.tmp 4) (.tmp 23) rfl (.pointer (some ⟨w.heap.size+1,0,none⟩)) _ rfl rfl W5 aw.out ?_);refine bodyPost_ret (ZaI rfl bd.out _ _ rfl rfl ⟨_,_,_,rfl⟩) rfl ?_;refine⟨ap.out,S,HK.out,?_,aq.out⟩;rw [← HZ.out,← HR.out];rfl
theorem Zgp {l:List Hr}(e:S.map Sx.hr=l)(p:Hr→Bool):l.find? p=(S.find? (fun y=>p y.hr)).map Sx.hr:=by
 subst e;rw [List.find?_map];rfl
theorem Zmt (w:World)(s:Sl)(L:List Lb)(b:Bt)(h:Gl (fun _=>True) w s L)(hm:MayH (lfs L)):Calls Tryz.prog 11 #[s.val,btV b] w (ZhA w (lfs L) b):=by
 refine(ZiN w s L b h).mono ?_;rintro e w' ⟨hb,S,hS,rfl,hc⟩;rcases hS with ⟨_,hr⟩ | ⟨hn,_⟩
 · have hf:(allH (lfs L)).find? (fun h=>((h.i:Int) == b.1) && ((h.k:Int) == b.2))=(S.find? (inB b)).map Sx.hr:=Zgp hr _;(have hg:getH (lfs L) b=((S.find? (inB b)).map Sx.hr).map Hr.r:=by rw [← hf];rfl);refine⟨hb,fun hn=>?_,fun r aa=>?_⟩
   · rw [hg] at hn;cases hq:S.find? (inB b) with
     | none=>rfl
     | some y=>rw [hq] at hn;cases hn
   · rw [hg] at aa;cases hq:S.find? (inB b) with
     | none=>rw [hq] at aa;cases aa
     | some y =>
      rw [hq] at aa;cases aa;have hy:=hc y (List.mem_of_find?_eq_some hq);exact⟨hy.2,y.x,rfl,rfl,hy.1⟩
 · exact absurd hm hn
theorem Zmu (w:World)(s:Sl)(L:List Lb)(b:Bt)(h:Gl (fun _=>True) w s L)(hm:¬MayH (lfs L)):Calls Tryz.prog 11 #[s.val,btV b] w fun e w'=>e=.returned (.tuple #[Zcr,.bool false])∧Below w.heap.size w w':=by
 refine(ZiN w s L b h).mono ?_;rintro e w' ⟨hb,S,hS,rfl,hc⟩;rcases hS with ⟨hy,_⟩ | ⟨_,rfl⟩
 · exact absurd hy hm
 · exact⟨rfl,hb⟩
theorem ZkM (w:World)(s:Sl)(L:List Lb)(key:Nat)(h:Gl (fun _=>True) w s L)(ab:key<18446744073709551616)(hm:MayH (lfs L)):Calls Tryz.prog 10 #[s.val,.float .f64 key] w (ZfY w (lfs L) key):=by
 refine(ZgX w s L key h ab).mono ?_;rintro e w' ⟨hb,S,hS,rfl,hc⟩;rcases hS with ⟨_,hr⟩ | ⟨hn,_⟩
 · have hg:findH (lfs L) key=(S.find? (ofK key)).map Sx.hr:=Zgp hr _;refine⟨hb,fun hn=>?_,fun r aa=>?_⟩
   · rw [hg] at hn;cases hq:S.find? (ofK key) with
     | none=>rfl
     | some y=>rw [hq] at hn;cases hn
   · rw [hg] at aa;cases hq:S.find? (ofK key) with
     | none=>rw [hq] at aa;cases aa
     | some y =>
      rw [hq] at aa;cases aa;have hy:=hc y (List.mem_of_find?_eq_some hq);exact⟨hy.2,y.x,rfl,rfl,hy.1⟩
 · exact absurd hm hn
theorem ZkN (w:World)(s:Sl)(L:List Lb)(key:Nat)(h:Gl (fun _=>True) w s L)(aa:key<18446744073709551616)(hm:¬MayH (lfs L)):Calls Tryz.prog 10 #[s.val,.float .f64 key] w fun e w'=>e=.returned (.tuple #[Zcr,btV (0,0),.bool false])∧Below w.heap.size w w':=by
 refine(ZgX w s L key h aa).mono ?_;rintro e w' ⟨hb,S,hS,rfl,hc⟩;rcases hS with ⟨hy,_⟩ | ⟨_,rfl⟩
 · exact absurd hy hm
 · exact⟨rfl,hb⟩
open Go.RowKit Go.Sort Go.Lib Go.Shelf
structure Ry where
  val:Rx
  fit:val.r.key<18446744073709551616
instance:Inhabited Ry:=⟨⟨Rx.zero,by decide⟩⟩
def Ry.enc (y:Ry):List Value:=y.1.cells
def Ry.cf (x y:Ry):Int:=cmp x.1.r.key y.1.r.key
theorem Ry.lt (x y:Ry):ltOf Ry.cf x y=decide (Fl.rk x.1.r.key<Fl.rk y.1.r.key):=by
 have h1:=Zgz x.2 y.2;unfold ltOf Ry.cf cmp;by_cases c1:Fl.less x.1.r.key y.1.r.key=true
 · rw [if_pos c1,decide_eq_true (h1.1 c1)];rfl
 · rw [if_neg c1,decide_eq_false (fun h=>c1 (h1.2 h))];split <;> rfl
theorem Ry.swo:SWO (ltOf Ry.cf) where
 irrefl x:=by rw [Ry.lt];simp
 trans x y z h1 h2:=by rw [Ry.lt] at *;simp at *;omega
 ntrans x y z h1 h2:=by rw [Ry.lt] at *;simp at *;omega
theorem Zka (x y:Rx)(hx:x.r.key<18446744073709551616)(hy:y.r.key<18446744073709551616)(W:World) :
    Calls Tryz.prog 39 #[x.val,y.val] W fun e w'=>e=.returned (.int .i64 (cmp x.r.key y.r.key))∧∃q os',w'=grow (W.drewN q) os':=by
  have HC:=hide (fun w=>ZbX x.r.key y.r.key hx hy w);have ab:=Zaa W (.cells #[.float .f64 x.r.key,.bool x.r.dead,.slice x.a x.n x.c,.int .i64 x.r.wr,.int .i64 x.r.cell,.int .i64 x.r.no] 33);have aa:=Zaa (W.alloc (.cells #[.float .f64 x.r.key,.bool x.r.dead,.slice x.a x.n x.c,.int .i64 x.r.wr,.int .i64 x.r.cell,.int .i64 x.r.no] 33)) (.cells #[.float .f64 y.r.key,.bool y.r.dead,.slice y.a y.n y.c,.int .i64 y.r.wr,.int .i64 y.r.cell,.int .i64 y.r.no] 33);have c0:=((Zak W x.r (.slice x.a x.n x.c)).keep aa).c0;have hY:=Zak (W.alloc (.cells #[.float .f64 x.r.key,.bool x.r.dead,.slice x.a x.n x.c,.int .i64 x.r.wr,.int .i64 x.r.cell,.int .i64 x.r.no] 33)) y.r (.slice y.a y.n y.c);rw [Zae] at hY;have d0:=hY.c0;clear ab aa hY;generalize cmp x.r.key y.r.key=z at *;unfold Rx.val Rw.val;go_enter Tryz.func39,Tryz.ntmps39;go_wp2_with fail;refine(HC.out _).mono ?_;rintro e w1 ⟨rfl,hw⟩;obtain rfl:=hw.symm;go_wp2_with fail;go_ret;exact⟨rfl,0,_,by rw [alloc_eq_grow,alloc_eq_grow,grow_grow];rfl⟩
theorem ZjZ (blk off size:Nat)(w:World):CmpLays Tryz.prog 39 #[] Ry.enc 6 Ry.cf blk off size w:=
 fun _ _ _ _ x y=>Zka x.1 y.1 x.2 y.2 _
theorem ZoZ (w:World):(isAgg (Zbb.t 24)).run Tryz.prog w=.ok true w:=by
 show (isAgg 33).run Tryz.prog w=.ok true w;simp [go_sem]
theorem Zol (w:World):(Go.sizeOf (Zbb.t 24)).run Tryz.prog w=.ok 6 w:=by
 show (Go.sizeOf 33).run Tryz.prog w=.ok 6 w;simp [go_sem]
theorem Zfi {off n:Nat}(d:Array Ry)(os:Array Obj):Frm (fun k=>k=g) w (sortWorldK Ry.enc 6 w g off n d os):=by
 refine⟨rfl,rfl,rfl,size_sortWorldK_c _ _ _ _ _ _ _ _,fun k hk aa=>?_⟩;simp only [sortWorldK,grow,putRowK,putRow,mapBlock,Sort.ahead];rw [Array.getElem?_append_left (by simpa using hk),Array.getElem?_modify];rw [if_neg (fun e=>aa e.symm)]
structure Zma (w w':World) (s:Sl) (R R':List Rx):Prop where
  perm:R'.Perm R
  up:R'.Pairwise fun x y=>Fl.rk x.r.key≤Fl.rk y.r.key
  at':∀j,j<R'.length→∃b off,s.a=some ⟨b,off,none⟩∧RwAt w' b (off+j*6) (R'.getD j Rx.zero)
  frm:Frm (fun k=>s.blk=some k) w w'
theorem Zh7 (w:World)(s:Sl)(R:List Rx)(h:Own 33 6 w s (ZaQ R))(hk:∀x∈R,x.r.key<18446744073709551616)(hl:R.length<1000000) :
    Calls Tryz.prog 38 #[s.val,.func (.func 39) #[] #[]] w fun e w'=>e=.returned (.tuple #[])∧∃R',Zma w w' s R R':=by
  (have ae:R.length=s.len:=by have:=h.1;rw [ZcH] at this;omega);rcases h.2 with ⟨rfl,h0⟩ | ⟨g,off,cur,ha,hg,ar,aq,an,ht⟩
  · have hR:R=[]:=by
     have:=congrArg List.length h0;rw [ZcH] at this;exact List.eq_nil_of_length_eq_zero (by simp at this;omega)
    subst hR;have hc:=Go.Proofs.AnyF.slices_SortFunc_none (P:=Tryz.prog) (ρ:=Zbb) { Zki with } none 0 (.func (.func 39) #[] #[]) w;refine Calls.mono hc ?_;rintro e w' ⟨rfl,hw⟩;subst hw;exact⟨rfl,[],.refl _,List.Pairwise.nil,(fun j hj=>absurd hj (Nat.not_lt_zero _)),Frm.refl _ _⟩
  · obtain⟨sa,sn,sc⟩:=s;simp only at ha ae ar aq an ht;subst ha;obtain⟨D,hD⟩:∃D:List Ry,D.map Ry.val=R:=⟨R.attach.map (fun x=>(⟨x.1,hk x.1 x.2⟩:Ry)),by rw [List.map_map];exact List.attach_map_subtype_val R⟩;(have ah:D.length=sn:=by rw [← ae,← hD,List.length_map]);have ak:g<w.heap.size:=(Array.getElem?_eq_some_iff.1 hg).1;have ac:∀(E:List Ry) (i:Nat),i<E.length→(E.map Ry.val).getD i Rx.zero=(E.toArray[i]!).1:=by
     intro E i hi;rw [getElem!_pos E.toArray i (by simpa using hi)];simp [List.getD,hi]
    have hH:HoldsK Ry.enc 6 w g off D.toArray:=by
     intro t ag;rw [size_flatK] at ag;(have aw:t<D.length*6:=by simpa using ag);rw [get_flatK _ _ _ _ ag];refine⟨?_,frozen_of_row w g _ _ _ hg⟩;(have hj:t / 6<R.length:=by rw [ae,← ah];omega);have hm:t % 6<6:=Nat.mod_lt _ (by decide);have aa:=ZdN R (t / 6) (t % 6) hj hm;(have e:t / 6*6+t % 6=t:=by omega);rw [e] at aa;have ad:=ac D (t / 6) (by omega);rw [hD] at ad;rw [ad] at aa;have am:((D.toArray[t / 6]!).1.cells)[t % 6]? = some (((D.toArray[t / 6]!).1.cells)[t % 6]!):=by
      have al:t % 6<((D.toArray[t / 6]!).1.cells).length:=hm;rw [getElem!_pos ((D.toArray[t / 6]!).1.cells) (t % 6) al];exact List.getElem?_eq_getElem al
     rw [am] at aa;have ab:=h.cell rfl t _ aa;rw [Addr.add_lit] at ab;exact ab
    have eg:∀args w,(callFunc 39 args).run Tryz.prog w=.ok (.enter 39 args) w:=Pl.qj Tryz.func39;have hc:=Go.Proofs.AnyQ.slices_SortFunc (P:=Tryz.prog) (ρ:=Zbb) Zki 6 ZoZ Zol Ry.enc (fun _=>rfl) (fun x v hv=>ZdO [x.1] v (by unfold Ry.enc at hv;simpa [ZaQ] using hv)) Ry.cf Ry.swo 39 #[] g off sc D.toArray w eg (ZjZ g off _ w) hH ak (by simp;omega);(have af:D.toArray.size=sn:=by simpa using ah);rw [af] at hc;refine Calls.mono hc ?_;rintro e w' ⟨rfl,d',n,os,hp,hs,hw⟩;(have ao:d'.size=sn:=by rw [hp.1,af]);have au:d'.toList.Perm D:=by
     have:=hp.2.2;rw [Array.extract_eq_self_of_le (by omega),Array.extract_eq_self_of_le (by omega)] at this;simpa using this
    refine⟨rfl,d'.toList.map Ry.val,?_,?_,?_,?_⟩
    · rw [← hD];exact au.map _
    · rw [List.pairwise_map];refine List.pairwise_iff_getElem.2 fun i j hi hj ap=>?_;(have hj':j<d'.size:=by simpa using hj);have:=hs i j (Nat.zero_le _) ap (by omega);rw [getElem!_pos d' j hj',getElem!_pos d' i (by omega),Ry.lt,decide_eq_false_iff_not] at this;simp only [Array.getElem_toList];omega
    · intro j hj;(have aj:j<d'.toList.length:=by simpa using hj);(have av:j<d'.size:=by simpa using aj);have ai:=holdsK_sortWorldK_c Ry.enc 6 w g off D.toArray d' n os hH ak (by rw [ao,af]);rw [← hw] at ai;have ad:=ac d'.toList j aj;rw [Array.toArray_toList] at ad;refine⟨g,off,rfl,?_⟩;rw [ad];have hc:∀t,t<6→w'.cell? ⟨g,off+(j*6+t),none⟩=some ((d'[j]!).1.cells[t]!):=by
       intro t ht;have h1:=(ai (j*6+t) (by rw [size_flatK];omega)).1;rw [get_flatK _ _ _ _ (by omega),show (j*6+t) / 6=j by omega,show (j*6+t) % 6=t by omega] at h1;exact h1
      exact⟨hc 0 (by omega),hc 1 (by omega),hc 2 (by omega),hc 3 (by omega),hc 4 (by omega),hc 5 (by omega)⟩
    · rw [hw];exact(Zfi d' os).mono (fun k _ e=>by rw [e];rfl)
def inP (lo hi : Nat) (y : Sx) : Bool := !Fl.less y.x.r.key lo && Fl.less y.x.r.key hi
theorem Zkd {lo hi:Nat}{l:List Hr}(e:S.map Sx.hr=l)(hg:∀g∈l,Zfg g.r)(ho:ZbN l){R':List Rx}(hp:R'.Perm ((S.filter (inP lo hi)).map Sx.x))(hu:R'.Pairwise fun x y=>Fl.rk x.r.key≤Fl.rk y.r.key):rws R'=Zek lo hi l:=by
 obtain⟨p1,p2,p3⟩:=Zl2 (lo:=lo) (hi:=hi) hg ho
 refine ZlU ?_ p1 (fun z=>?_)
 · have hS:S.Pairwise fun a b=>Fl.rk a.x.r.key≠Fl.rk b.x.r.key:=by
    have:=(Zh0 e hg).2 ho
    unfold rkS List.Nodup at this
    rw [List.pairwise_map] at this
    exact this.imp (fun h h2=>h (by rw [h2]))
   have hne:R'.Pairwise fun a b=>Fl.rk a.r.key≠Fl.rk b.r.key:=by
    refine(hp.pairwise_iff (fun h=>h.symm)).2 ?_
    rw [List.pairwise_map]
    exact hS.filter _
   unfold rws
   rw [List.pairwise_map]
   refine(hu.and hne).imp (fun h=>?_)
   show Fl.rk _<Fl.rk _
   omega
 · rw [p3]
   unfold rws
   constructor
   · intro hz
     obtain⟨x,hx,rfl⟩:=List.mem_map.1 hz
     obtain⟨y,hy,rfl⟩:=List.mem_map.1 (hp.mem_iff.1 hx)
     obtain⟨hy1,hy2⟩:=List.mem_filter.1 hy
     unfold inP at hy2
     simp only [Bool.and_eq_true,Bool.not_eq_true'] at hy2
     exact⟨y.hr,by rw [← e];exact List.mem_map_of_mem hy1,rfl,hy2⟩
   · rintro ⟨h,hh,rfl,h1,h2⟩
     rw [← e] at hh
     obtain⟨y,hy,rfl⟩:=List.mem_map.1 hh
     refine List.mem_map.2 ⟨y.x,hp.mem_iff.2 (List.mem_map.2 ⟨y,List.mem_filter.2 ⟨hy,?_⟩,rfl⟩),rfl⟩
     unfold inP
     simp only [Sx.hr] at h1 h2
     rw [h1,h2]
     rfl
theorem Std.frm {F:Nat→Prop}(h:Std w0 w s S)(f:Frm F w w')(hk:∀k,F k→∃cur,w.heap[k]? = some (.cells cur 33 (0,0)))(hn:∀k,F k→w0.heap.size≤k):Std w0 w' s S:=by
 refine⟨Own.frame h.own (fun k hh=>?_),h.new,h.below.trans (f.below h.below.size hn),fun y hy=>(h.flt y hy).frm f (fun k hh C fr hc=>?_),h.fits⟩
 · obtain⟨cur,hcur⟩:=Own.kind h.own hh
   refine f.block k (Array.getElem?_eq_some_iff.1 hcur).1 (fun e=>?_)
   obtain⟨c2,hc2⟩:=hk k e
   rw [hcur] at hc2
   simp only [Option.some.injEq,Obj.cells.injEq] at hc2
   exact absurd hc2.2.1 (by decide)
 · obtain⟨c2,hc2⟩:=hk k hh
   rw [hc] at hc2
   simp only [Option.some.injEq,Obj.cells.injEq] at hc2
   exact absurd hc2.2.1 (by decide)
structure RwI (w0 w : World) (s sR : Sl) (S : List Sx) (R : List Rx) : Prop where
  st : Std w0 w s S
  rq : Rq w0 w sR R
  flt : ∀ x ∈ R, ColF w x
theorem RwI.keep {w0 w w' : World} {s sR : Sl} {S : List Sx} {R : List Rx} (h : RwI w0 w s sR S R) (hb : Below w.heap.size w w') : RwI w0 w' s sR S R := ⟨h.st.keep hb, h.rq.keep hb, fun x hx => (h.flt x hx).keep hb⟩
theorem RwI.one {sR:Sl}{R:List Rx}(h:RwI w0 w s sR S R)(x:Rx)(hx:ColF w x)(hf:x.r.fits)(hl:R.length+1≤1000000) :
    ∃s' W,(∀ty,(Builtin.append_ #[38,38] ty #[sR.val,.slice (some ⟨w.heap.size,0,none⟩) 1 1]).run Tryz.prog (w.alloc (.cells #[.float .f64 x.r.key,.bool x.r.dead,.slice x.a x.n x.c,.int .i64 x.r.wr,.int .i64 x.r.cell,.int .i64 x.r.no] 33))=.ok s'.val W)∧RwI w0 W s s' S (R ++ [x]):=by
  obtain⟨s',W,hrun,hq,hfr⟩:=h.rq.one x (hx.colR w0) hf hl
  have hK:∀k,sR.blk=some k→∃cur,w.heap[k]? = some (.cells cur 33 (0,0)):=fun k hk=>h.rq.own.kind hk
  have hF:∀k,sR.blk=some k→∀C fr,w.heap[k]? ≠ some (Obj.cells C 23 fr):=by
   intro k hk C fr hc
   obtain⟨cur,hcur⟩:=hK k hk
   rw [hc] at hcur
   simp only [Option.some.injEq,Obj.cells.injEq] at hcur
   exact absurd hcur.2.1 (by decide)
  refine⟨s',W,hrun,h.st.frm hfr hK h.rq.new,hq,fun y hy=>?_⟩
  rcases List.mem_append.1 hy with hy | hy
  · exact(h.flt y hy).frm hfr hF
  · rw [List.mem_singleton.1 hy]
    exact hx.frm hfr hF
def Zko (w : World) (l : List Lf) (lo hi : Nat) (e : Ending) (w' : World) : Prop :=
  (MayH l ∧ Zer w (Zek lo hi (allH l)) e w') ∨ (¬ MayH l ∧ Zer w [] e w')
theorem ZgY (w:World)(s:Sl)(L:List Lb)(h:Gl (fun _=>True) w s L)(lo hi:Nat)(hlo:lo<18446744073709551616)(hhi:hi<18446744073709551616) :
    Calls Tryz.prog 12 #[s.val,.float .f64 lo,.float .f64 hi] w (Zko w (lfs L) lo hi):=by
  have hsf:∀(w:World) (a:Addr) (m:Mode) (x:Nat),(store a (.float .f64 x) m).run Tryz.prog w=stored Tryz.prog w a (.float .f64 x) m:=fun w a m x=>run_store Tryz.prog w a _ m rfl
  have HO:=hide (Zbz w s L h)
  have HGD:=hide h.good
  obtain⟨a,len,cap⟩:=s
  clear h
  unfold Sl.val at *
  simp only at *
  go_enter Tryz.func12,Tryz.ntmps12
  go_wp2_with fail
  refine HO.out.mono ?_
  intro e w1 ho
  obtain⟨⟨sa,sn,sc⟩,S,k,rfl,hs,hk⟩:=ho.one
  have HK:Hid ((MayH (lfs L)∧S.map Sx.hr=allH (lfs L))∨(¬MayH (lfs L)∧S=[])):=by
   rcases hk with ⟨h1,_,h2⟩ | ⟨h1,_,h2⟩
   · exact .inl ⟨h1,h2⟩
   · exact .inr ⟨h1,h2⟩
  have HLS:Hid (S.length≤62*64):=by
   rcases HK.out with ⟨h1,h2⟩ | ⟨h1,h2⟩
   · exact h1.len h2
   · rw [h2];exact Nat.zero_le _
  have HSN:Hid (S.length=sn):=hs.len
  have hsn:sn≤62*64:=by rw [← HSN.out];exact HLS.out
  have HI0:Hid (RwI w w1 ⟨sa,sn,sc⟩ ⟨none,0,0⟩ S (((S.take 0).filter (inP lo hi)).map Sx.x)):=
   ⟨hs,⟨⟨rfl,.inl ⟨rfl,rfl⟩⟩,(fun k hk=>by cases hk),hs.below,(fun x hx=>by cases hx),fun x hx=>by cases hx⟩,fun x hx=>by cases hx⟩
  clear ho hs hk HO
  unfold Sl.val
  simp only
  go_wp2_with fail
  go_loopw [9,19] (fun v9 iv wr=>∃(i:Nat) (sR:Sl),i≤sn∧iv=.int .i64 (i:Nat)∧v9=.slice sR.a sR.len sR.cap∧Hid (RwI w wr ⟨sa,sn,sc⟩ sR S (((S.take i).filter (inP lo hi)).map Sx.x))) (fun _ iv _=>sn-(intOf iv).toNat)
  case atStart=>exact ⟨0,⟨none,0,0⟩,Nat.zero_le _,rfl,rfl,HI0⟩
  case round =>
   clear HI0
   obtain⟨i,sR,hile,rfl,rfl,hI⟩:=hrel
   rcases Nat.lt_or_ge i sn with hlt | hge
   · have j1:(i:Int)<(sn:Int):=by omega
     have hsl:i<S.length:=by rw [HSN.out];exact hlt
     obtain⟨b,o,ha,c0⟩:=hI.out.st.cell hsl
     replace ha:sa=some ⟨b,o,none⟩:=ha
     subst ha
     have hge:S.getD i Sx.zero=S[i]:=by simp [List.getD,hsl]
     rw [hge] at c0
     have HLD:=hide (ZeO c0)
     have HIX:=hide (Zdx b o sn sc i hlt)
     have hmem:S[i]∈S:=List.getElem_mem hsl
     have hfit:=hI.out.st.fits _ hmem
     have hcol:=hI.out.st.flt _ hmem
     have htk:S.take (i+1)=S.take i ++ [S[i]]:=List.take_succ_eq_append_getElem hsl
     have HTK:=hide htk
     generalize S[i]=y at *
     have hB4:=Zaa wr (.cells y.cells.toArray 72)
     have hI4:=hI.out.keep hB4
     have hc4:=hcol.keep hB4
     have hSX:=SxBlk.new wr y
     have HSTO:=hide (Zck y wr)
     generalize hW4:wr.alloc (.cells y.cells.toArray 72)=W4 at *
     have HW4:=hide hW4
     have x2:=hSX.c2
     have HLD2:=hide (Zc2 wr.heap.size 2 y.x W4 hSX.rw)
     have hRl:(((S.take i).filter (inP lo hi)).map Sx.x).length+1≤1000000:=by
      rw [List.length_map]
      have h1:=List.length_filter_le (inP lo hi) (S.take i)
      rw [List.length_take] at h1
      omega
     obtain⟨s',W5,hrun5,hI5⟩:=hI4.one y.x hc4 hfit hRl
     have HR5:=hide hrun5
     have HBT:=hide (fun w=>ZhI y.x.r.key lo hi hfit.key hlo hhi w)
     have HP:Hid ((!Fl.less y.x.r.key lo && Fl.less y.x.r.key hi)=inP lo hi y):=rfl
     rw [HP.out] at HBT
     have HI4:=hide hI4
     have HI5:=hide hI5
     clear c0 hge hmem hfit hcol htk hB4 hI4 hc4 hSX hW4 hRl hrun5 hI5 HP
     unfold Sl.val at HR5
     cases hp:inP lo hi y with
     | false =>
      rw [hp] at HBT
      have HN:Hid (RwI w W4 ⟨some ⟨b,o,none⟩,sn,sc⟩ sR S (((S.take (i+1)).filter (inP lo hi)).map Sx.x)):=by
       show RwI _ _ _ _ _ _
       rw [HTK.out,List.filter_append,List.filter_cons,hp]
       simpa using HI4.out
      clear hp HTK HI5 HR5 HLD2
      go_wp2_with (first | refine Zau _ rfl 72 (.tmp 21) rfl (.pointer (some ⟨b,o+i*8,none⟩)) _ rfl HLD.out ?_ | refine Zac _ rfl rfl 72 (.tmp 11) (.tmp 22) rfl (.pointer (some ⟨wr.heap.size,0,none⟩)) _ rfl rfl W4 HSTO.out ?_)
      refine(HBT.out _).mono ?_
      rintro e w3 ⟨rfl,hw⟩
      obtain rfl:=hw.symm
      go_wp2_with fail
      go_roundw
      case rel=>exact ⟨i+1,sR,by omega,by go_num,rfl,HN⟩
      case measure=>simp only [intOf];omega
     | true =>
      rw [hp] at HBT
      have HN:Hid (RwI w W5 ⟨some ⟨b,o,none⟩,sn,sc⟩ s' S (((S.take (i+1)).filter (inP lo hi)).map Sx.x)):=by
       show RwI _ _ _ _ _ _
       rw [HTK.out,List.filter_append,List.filter_cons,hp,List.map_append]
       exact HI5.out
      clear hp HTK HI5
      unfold Rx.val Rw.val at HLD2
      go_wp2_with (first | refine Zau _ rfl 72 (.tmp 21) rfl (.pointer (some ⟨b,o+i*8,none⟩)) _ rfl HLD.out ?_ | refine Zac _ rfl rfl 72 (.tmp 11) (.tmp 22) rfl (.pointer (some ⟨wr.heap.size,0,none⟩)) _ rfl rfl W4 HSTO.out ?_)
      refine(HBT.out _).mono ?_
      rintro e w3 ⟨rfl,hw⟩
      obtain rfl:=hw.symm
      go_wp2_with (first | refine Zau _ rfl 33 (.tmp 30) rfl (.pointer (some ⟨wr.heap.size,2,none⟩)) _ rfl HLD2.out ?_ | (at_builtin;refine Zam _ rfl 38 (.tmp 29) (.tmp 32) rfl (.slice sR.a sR.len sR.cap) (.slice (some ⟨W4.heap.size,0,none⟩) 1 1) (.slice s'.a s'.len s'.cap) rfl rfl W5 HR5.out ?_))
      go_roundw
      case rel=>exact ⟨i+1,s',by omega,by go_num,rfl,HN⟩
      case measure=>simp only [intOf];omega
   · have j1:¬(i:Int)<(sn:Int):=by omega
     have HT:Hid (RwI w wr ⟨sa,sn,sc⟩ sR S ((S.filter (inP lo hi)).map Sx.x)):=by
      have:=hI.out
      rw [List.take_of_length_le (by rw [HSN.out];exact hge)] at this
      exact this
     clear hI
     obtain⟨ra,rn,rc⟩:=sR
     have hRl:((S.filter (inP lo hi)).map Sx.x).length<1000000:=by
      rw [List.length_map]
      have h1:=List.length_filter_le (inP lo hi) S
      have:=HLS.out
      omega
     have HSO:=hide (Zh7 wr ⟨ra,rn,rc⟩ _ HT.out.rq.own (fun x hx=>(HT.out.rq.fits x hx).key) hRl)
     clear hRl
     unfold Sl.val at HSO
     simp only at HSO
     go_wp2_with fail
     refine HSO.out.mono ?_
     rintro e w3 ⟨rfl,R',hR⟩
     have HR':=hide hR
     clear hR HSO
     go_wp2_with fail
     go_ret
     have hfr:=HR'.out.frm
     have hB:Below w.heap.size w w3:=HT.out.rq.below.trans (hfr.below HT.out.rq.below.size HT.out.rq.new)
     have hF:∀k,(Sl.mk ra rn rc).blk=some k→∀C fr,wr.heap[k]? ≠ some (Obj.cells C 23 fr):=by
      intro k hk C fr hc
      obtain⟨cur,hcur⟩:=HT.out.rq.own.kind hk
      rw [hc] at hcur
      simp only [Option.some.injEq,Obj.cells.injEq] at hcur
      exact absurd hcur.2.1 (by decide)
     have hflt:∀x∈R',ColF w3 x:=fun x hx=>(HT.out.flt x (HR'.out.perm.mem_iff.1 hx)).frm hfr hF
     have hlen:R'.length=rn:=by rw [HR'.out.perm.length_eq];exact HT.out.rq.len
     have hRI:Znd w3 ⟨ra,rn,rc⟩ R':=⟨⟨hlen,fun j hj=>HR'.out.at' j (by rw [hlen];exact hj),fun x hx=>(hflt x hx).fs,fun x hx=>HT.out.rq.fits x (HR'.out.perm.mem_iff.1 hx)⟩,HT.out.rq.own.lecap,fun e=>HT.out.rq.own.nilcap e,hflt⟩
     rcases HK.out with ⟨hm,he⟩ | ⟨hm,he⟩
     · exact .inl ⟨hm,hB,⟨ra,rn,rc⟩,R',rfl,hRI,Zkd he HGD.out hm.keys HR'.out.perm HR'.out.up⟩
     · refine .inr ⟨hm,hB,⟨ra,rn,rc⟩,R',rfl,hRI,?_⟩
       have:=HR'.out.perm
       rw [he] at this
       rw [List.Perm.eq_nil this]
       rfl
end Go.Proofs.YtdojdcncncgncaaGreat
