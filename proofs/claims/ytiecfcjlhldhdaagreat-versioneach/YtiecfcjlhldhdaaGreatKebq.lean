/-
  Lemmas.
-/
import Derived.Test.YtiecfcjlhldhdaaGreatKebp
import Derived.Test.YtiecfcjlhldhdaaGreatKebl
import Derived.Test.YtiecfcjlhldhdaaGreatKebm
import Derived.Test.YtiecfcjlhldhdaaGreatKebe
import Derived.Test.YtiecfcjlhldhdaaGreatKebd
namespace Go.Proofs.YtiecfcjlhldhdaaGreat
open Go.RowKit
set_option linter.unusedVariables false
set_option linter.unusedSimpArgs false
set_option maxRecDepth 100000
set_option maxHeartbeats 4000000
variable {w w' w0:World}{p:Nat}{y:Sx}{S:List Sx}
def SxBlk (w:World) (p:Nat) (y:Sx):Prop:=w.heap[p]? = some (Obj.cells y.cells.toArray 118 (0,0))
theorem SxBlk.lt (h:SxBlk w p y):p<w.heap.size:=(Array.getElem?_eq_some_iff.1 h).1
theorem SxBlk.keep (h:SxBlk w p y)(hb:Below w.heap.size w w'):SxBlk w' p y:=(hb.block p h.lt).trans h
theorem SxBlk.new (w:World)(y:Sx):SxBlk (w.alloc (.cells y.cells.toArray 118)) w.heap.size y:=heap_alloc_new w _
theorem SxBlk.c0 (h:SxBlk w p y):w.cell? ⟨p,0,none⟩=some (.int .i64 (y.i:Nat)):=by unfold SxBlk at h;rw [cell_of_row _ _ _ _ _ _ h];rfl
theorem SxBlk.c1 (h:SxBlk w p y):w.cell? ⟨p,1,none⟩=some (.int .i64 (y.k:Nat)):=by unfold SxBlk at h;rw [cell_of_row _ _ _ _ _ _ h];rfl
theorem SxBlk.c2 (h:SxBlk w p y):w.cell? ⟨p,2,none⟩=some (.float .f64 y.x.r.key):=by unfold SxBlk at h;rw [cell_of_row _ _ _ _ _ _ h];rfl
theorem SxBlk.c3 (h:SxBlk w p y):w.cell? ⟨p,3,none⟩=some (.bool y.x.r.dead):=by unfold SxBlk at h;rw [cell_of_row _ _ _ _ _ _ h];rfl
theorem SxBlk.c4 (h:SxBlk w p y):w.cell? ⟨p,4,none⟩=some (.slice y.x.a y.x.n y.x.c):=by unfold SxBlk at h;rw [cell_of_row _ _ _ _ _ _ h];rfl
theorem SxBlk.c5 (h:SxBlk w p y):w.cell? ⟨p,5,none⟩=some (.int .i64 y.x.r.wr):=by unfold SxBlk at h;rw [cell_of_row _ _ _ _ _ _ h];rfl
theorem SxBlk.c6 (h:SxBlk w p y):w.cell? ⟨p,6,none⟩=some (.int .i64 y.x.r.cell):=by unfold SxBlk at h;rw [cell_of_row _ _ _ _ _ _ h];rfl
theorem SxBlk.c7 (h:SxBlk w p y):w.cell? ⟨p,7,none⟩=some (.int .i64 y.x.r.no):=by unfold SxBlk at h;rw [cell_of_row _ _ _ _ _ _ h];rfl
structure SxAt (w:World) (b o:Nat) (y:Sx):Prop where
  c0:w.cell? ⟨b,o,none⟩=some (.int .i64 (y.i:Nat))
  c1:w.cell? ⟨b,o+1,none⟩=some (.int .i64 (y.k:Nat))
  c2:w.cell? ⟨b,o+2,none⟩=some (.float .f64 y.x.r.key)
  c3:w.cell? ⟨b,o+3,none⟩=some (.bool y.x.r.dead)
  c4:w.cell? ⟨b,o+4,none⟩=some (.slice y.x.a y.x.n y.x.c)
  c5:w.cell? ⟨b,o+5,none⟩=some (.int .i64 y.x.r.wr)
  c6:w.cell? ⟨b,o+6,none⟩=some (.int .i64 y.x.r.cell)
  c7:w.cell? ⟨b,o+7,none⟩=some (.int .i64 y.x.r.no)
theorem Zij {b o:Nat}(h:SxAt w b o y):(Instr.loadAt 118 (.pointer (some ⟨b,o,none⟩))).run Tryz.prog w=.ok y.val w:=by
 have c0:=h.c0;have c1:=h.c1;have c2:=h.c2;have c3:=h.c3;have c4:=h.c4;have c5:=h.c5;have c6:=h.c6;have c7:=h.c7;simp [go_sem,c0,c1,c2,c3,c4,c5,c6,c7,Sx.val]
theorem Zgf (b o len cap k:Nat)(hk:k<len)(w:World):(Instr.indexAt 114 (.slice (some ⟨b,o,none⟩) len cap) (.int .i64 (k:Nat))).run Tryz.prog w=.ok (.pointer (some ⟨b,o+k*8,none⟩)) w:=by
 (have aa:Tryz.prog.underlying 114=some (.slice (Tryz.prog.elem 114)):=by kernel_rfl);(have h1:(0:Int)≤(k:Int):=by omega);simp [go_sem,Instr.indexAt,run_underlying aa,h1,Addr.add_lit];omega
theorem Zj4 (y:Sx)(w:World):(Instr.storeAt 118 (.pointer (some ⟨w.heap.size,0,none⟩)) y.val).run Tryz.prog (w.alloc (.cells #[.int .i64 0,.int .i64 0,.float .f64 0,.bool false,.slice none 0 0,.int .i64 0,.int .i64 0,.int .i64 0] 118))=.ok () (w.alloc (.cells y.cells.toArray 118)):=by
 have aa:∀(w:World) (a:Addr) (m:Mode) (x:Nat),(store a (.float .f64 x) m).run Tryz.prog w=stored Tryz.prog w a (.float .f64 x) m:=fun w a m x=>run_store Tryz.prog w a _ m rfl;simp [go_sem,Instr.storeAt,aa,Sx.val,Sx.cells]
theorem Std.cell {s:Sl}(h:Std w0 w s S){i:Nat}(hi:i<S.length):∃b off,s.a=some ⟨b,off,none⟩∧SxAt w b (off+i*8) (S.getD i Sx.zero):=by
 rcases h.own.2 with ⟨rfl,h0⟩ | ⟨g,off,cur,ha,hg,ac,ab,aa,ht⟩
 · have:=congrArg List.length h0;rw [Zcv] at this;simp at this;omega
 · refine⟨g,off,ha,?_⟩;have hc:∀t,t<8→∀u,(S.getD i Sx.zero).cells[t]? = some u→w.cell? ⟨g,off+(i*8+t),none⟩=some u:=by
    intro t ht u hu;have:=h.own.cell ha (i*8+t) u (by rw [Zfq S i t hi ht];exact hu);rw [Addr.add_lit] at this;exact this
   exact⟨hc 0 (by omega) _ rfl,hc 1 (by omega) _ rfl,hc 2 (by omega) _ rfl,hc 3 (by omega) _ rfl,hc 4 (by omega) _ rfl,hc 5 (by omega) _ rfl,hc 6 (by omega) _ rfl,hc 7 (by omega) _ rfl⟩
theorem Std.len {s:Sl}(h:Std w0 w s S):S.length=s.len:=by have:=h.own.1;rw [Zcv] at this;omega
def Zc5 (w:World) (p:Nat) (k:Nat):Prop:=w.heap[p]? = some (Obj.cells #[.float .f64 k] 32 (0,0))
theorem Zc5.keep {k:Nat}(h:Zc5 w p k)(hb:Below w.heap.size w w'):Zc5 w' p k:=(hb.block p (Array.getElem?_eq_some_iff.1 h).1).trans h
theorem Zc5.c0 {k:Nat}(h:Zc5 w p k):w.cell? ⟨p,0,none⟩=some (.float .f64 k):=(Zbj h).1
theorem Znm {a b:Nat}(ha:a<18446744073709551616)(hb:b<18446744073709551616):(cmp a b == 0)=(Fl.key a == Fl.key b):=by
 have h1:=Zgm ha hb;have h2:=Zgm hb ha;have e:(Fl.key a == Fl.key b)=decide (Fl.rk a=Fl.rk b):=by
  by_cases h:Fl.key a=Fl.key b
  · (have:Fl.rk a=Fl.rk b:=by unfold Fl.rk;rw [h]);rw [decide_eq_true this];exact beq_iff_eq.2 h
  · have:¬Fl.rk a=Fl.rk b:=fun e=>h (by rw [← Fl.of_rk a ha,← Fl.of_rk b hb,e]);rw [decide_eq_false this];exact beq_eq_false_iff_ne.2 h
 rw [e];unfold cmp;by_cases c1:Fl.less a b=true
 · have:=h1.1 c1;rw [if_pos c1,decide_eq_false (by omega)];rfl
 · by_cases c2:Fl.less b a=true
   · have:=h2.1 c2;rw [if_neg c1,if_pos c2,decide_eq_false (by omega)];rfl
   · have n1:¬Fl.rk a<Fl.rk b:=fun h=>c1 (h1.2 h);have n2:¬Fl.rk b<Fl.rk a:=fun h=>c2 (h2.2 h);rw [if_neg c1,if_neg c2,decide_eq_true (by omega)];rfl
def ofK (k:Nat) (y:Sx):Bool:=Fl.key y.x.r.key == Fl.key k
def inB (b:Bt) (y:Sx):Bool:=((y.i:Int) == b.1) && ((y.k:Int) == b.2)
theorem Zpu (w:World)(y:Sx)(g key:Nat)(hy:y.x.r.key<18446744073709551616)(hk:key<18446744073709551616)(hg:Zc5 w g key) :
    Calls Tryz.prog 110 #[y.val,.pointer (some ⟨g,0,none⟩)] w fun e w'=>e=.returned (.bool (ofK key y))∧Below w.heap.size w w':=by
  have hB:=Zaa w (.cells y.cells.toArray 118);have hX:=SxBlk.new w y;have HB:=hide hB;have g0:=(hg.keep hB).c0;have x2:=hX.c2;have ac:=Znm hy hk;have HC:=hide (fun w=>Ze5 y.x.r.key key hy hk w);have HR:Hid ((cmp y.x.r.key key == 0)=ofK key y):=ac;clear hB hX hg ac;generalize cmp y.x.r.key key=z at *;generalize ofK key y=r at *;unfold Sx.cells at *;unfold Sx.val at *;have aa:=HR.out;clear HR;cases hz:(z == 0) with
  | true =>
   have ab:z=0:=beq_iff_eq.1 hz;rw [hz] at aa;subst aa ab;go_enter Tryz.func110,Tryz.ntmps110;go_wp2_with fail;refine(HC.out _).mono ?_;rintro e w1 ⟨rfl,hw⟩;obtain rfl:=hw.symm;go_wp2_with fail;go_ret;exact⟨rfl,HB.out⟩
  | false =>
   (have ab:¬z=0:=fun e=>by rw [e] at hz;cases hz);rw [hz] at aa;subst aa;go_enter Tryz.func110,Tryz.ntmps110;go_wp2_with fail;refine(HC.out _).mono ?_;rintro e w1 ⟨rfl,hw⟩;obtain rfl:=hw.symm;go_wp2_with fail;go_ret;exact⟨by first | rfl | simp [hz] | simp [ab],HB.out⟩
def ZoH (w:World) (S:List Sx) (p:Sx→Bool) (e:Ending) (w':World):Prop:=
  ((∃i,∃hi:i<S.length,p S[i]=true∧(∀j (hj:j<i),p (S[j]'(by omega))=false)∧e=.returned (.int .i64 (i:Nat)))∨((∀j (hj:j<S.length),p S[j]=false)∧e=.returned (.int .i64 (-1))))∧Below w.heap.size w w'
theorem Zn7 (w0 w:World)(s:Sl)(S:List Sx)(h:Std w0 w s S)(hl:S.length≤100000)(g:Nat)(key:Nat)(hk:key<18446744073709551616)(hg:Zc5 w g key) :
    Calls Tryz.prog 109 #[s.val,.func (.func 110) #[] #[.pointer (some ⟨g,0,none⟩)]] w (ZoH w S (ofK key)):=by
  obtain⟨a,len,cap⟩:=s;have HS:=hide h;have HL:Hid (S.length=len):=h.len;(have hl':len≤100000:=by rw [← HL.out];exact hl);have HG:=hide hg;clear h hl hg;unfold Sl.val;simp only;go_enter Tryz.func109,Tryz.ntmps109;go_wp2_with fail;go_loopw [8] (fun iv wr=>∃i:Nat,i≤len∧iv=.int .i64 (i:Nat)∧Hid (Below w.heap.size w wr)∧Hid (∀j (hj:j<S.length),j<i→ofK key (S[j])=false)) (fun iv _=>len-(intOf iv).toNat)
  case atStart=>exact ⟨0,Nat.zero_le _,rfl,Below.refl _ _,fun _ _ h=>absurd h (Nat.not_lt_zero _)⟩
  case round =>
   obtain⟨i,hi,rfl,hW,ac⟩:=hrel;rcases Nat.lt_or_ge i len with ah | af
   · (have i1:(i:Int)<(len:Int):=by omega);(have ad:i<S.length:=by rw [HL.out];exact ah);obtain⟨bb,oo,ha,c0⟩:=(HS.out.keep hW.out).cell ad;replace ha:a=some ⟨bb,oo,none⟩:=ha;subst ha;(have af:S.getD i Sx.zero=S[i]:=by simp [List.getD,ad]);rw [af] at c0;have ae:=hide (Zij c0);have ai:=hide (Zgf bb oo len cap i ah);have ab:=HS.out.fits _ (List.getElem_mem ad);have ag:=hide ad;have aa:=hide (Zpu wr S[i] g key ab.key hk (HG.out.keep hW.out));generalize hy:S[i]=y at *;have HY:=hide hy;clear c0 af ad ab hy;unfold Sx.val at ae aa;cases hp:ofK key y with
     | true =>
      rw [hp] at aa;have HP:=hide hp;clear hp;go_wp2_with (first | refine Zah _ rfl 118 (.tmp 14) rfl (.pointer (some ⟨bb,oo+i*8,none⟩)) _ rfl ae.out ?_);refine aa.out.mono ?_;rintro e w1 ⟨rfl,hb⟩;have HB:=hide (Zac hW.out hb);clear hb;go_wp2_with fail;go_ret;exact⟨.inl ⟨i,ag.out,(congrArg (ofK key) HY.out).trans HP.out,fun j hj=>ac.out j (Nat.lt_trans hj ag.out) hj,rfl⟩,HB.out⟩
     | false =>
      rw [hp] at aa;have HE:Hid (∀j (hj:j<S.length),j<i+1→ofK key (S[j])=false):=by
       intro j hj aj;by_cases e:j=i
       · subst e;exact (congrArg (ofK key) HY.out).trans hp
       · exact ac.out j hj (by omega)
      clear hp ac;go_wp2_with (first | refine Zah _ rfl 118 (.tmp 14) rfl (.pointer (some ⟨bb,oo+i*8,none⟩)) _ rfl ae.out ?_);refine aa.out.mono ?_;rintro e w1 ⟨rfl,hb⟩;have HB:=hide (Zac hW.out hb);clear hb;go_wp2_with fail;go_roundw
      case rel=>exact ⟨i+1,by omega,by go_num,HB,HE⟩
      case measure=>simp only [intOf];omega
   · (have i1:¬(i:Int)<(len:Int):=by omega);have HE:Hid (∀j (hj:j<S.length),ofK key (S[j])=false):=fun j hj=>ac.out j hj (by rw [HL.out] at hj;omega);clear ac;go_wp2_with fail;go_ret;exact⟨.inr ⟨HE.out,rfl⟩,hW.out⟩
def setSx (w:World) (g:Nat) (y:Sx):World:=(((((((w.setCell ⟨g,0,none⟩ (.int .i64 (y.i:Nat))).setCell ⟨g,1,none⟩ (.int .i64 (y.k:Nat))).setCell ⟨g,2,none⟩ (.float .f64 y.x.r.key)).setCell ⟨g,3,none⟩ (.bool y.x.r.dead)).setCell ⟨g,4,none⟩ (.slice y.x.a y.x.n y.x.c)).setCell ⟨g,5,none⟩ (.int .i64 y.x.r.wr)).setCell ⟨g,6,none⟩ (.int .i64 y.x.r.cell)).setCell ⟨g,7,none⟩ (.int .i64 y.x.r.no)
theorem ZhA {g:Nat}{y0:Sx}(h:SxBlk w g y0)(y:Sx):SxBlk (setSx w g y) g y:=by
 have h1:=heap_setCell_same w g 0 _ 118 (.int .i64 (y.i:Nat)) h;have h2:=heap_setCell_same _ g 1 _ 118 (.int .i64 (y.k:Nat)) h1;have h3:=heap_setCell_same _ g 2 _ 118 (.float .f64 y.x.r.key) h2;have h4:=heap_setCell_same _ g 3 _ 118 (.bool y.x.r.dead) h3;have h5:=heap_setCell_same _ g 4 _ 118 (.slice y.x.a y.x.n y.x.c) h4;have h6:=heap_setCell_same _ g 5 _ 118 (.int .i64 y.x.r.wr) h5;have h7:=heap_setCell_same _ g 6 _ 118 (.int .i64 y.x.r.cell) h6;have h8:=heap_setCell_same _ g 7 _ 118 (.int .i64 y.x.r.no) h7;unfold SxBlk setSx;rw [h8];simp [Sx.cells]
theorem ZhB (w:World)(g:Nat)(y:Sx):Frm (fun k=>k=g) w (setSx w g y):=
 ((((((((Frm.refl (fun k=>k=g) w).setCell (p:=⟨g,0,none⟩) rfl _).setCell (p:=⟨g,1,none⟩) rfl _).setCell (p:=⟨g,2,none⟩) rfl _).setCell (p:=⟨g,3,none⟩) rfl _).setCell (p:=⟨g,4,none⟩) rfl _).setCell (p:=⟨g,5,none⟩) rfl _).setCell (p:=⟨g,6,none⟩) rfl _).setCell (p:=⟨g,7,none⟩) rfl _
theorem SxBlk.fz (h:SxBlk w p y)(t:Nat):w.frozen? ⟨p,t,none⟩=false:=by
 unfold SxBlk at h;simp [World.frozen?,h]
theorem ZqU {y0:Sx}(h:SxBlk w p y0)(y:Sx):(Instr.storeAt 118 (.pointer (some ⟨p,0,none⟩)) y.val).run Tryz.prog w=.ok () (setSx w p y):=by
 have aa:∀(w:World) (a:Addr) (m:Mode) (x:Nat),(store a (.float .f64 x) m).run Tryz.prog w=stored Tryz.prog w a (.float .f64 x) m:=fun w a m x=>run_store Tryz.prog w a _ m rfl;have c0:=h.c0;have c1:=h.c1;have c2:=h.c2;have c3:=h.c3;have c4:=h.c4;have c5:=h.c5;have c6:=h.c6;have c7:=h.c7;have f0:=h.fz;simp [go_sem,Instr.storeAt,stored,aa,c0,c1,c2,c3,c4,c5,c6,c7,f0,Sx.val,setSx]
theorem ZeZ {fn:Func}{x y:Nat}(hr:fn.results=#[.cell x 118,.tmp y]){W:World}{g:Nat}{z:Sx}(h:SxBlk W g z)(tmps:Array Value)(u:Value)(tx:tmps.getD x undef=.pointer (some ⟨g,0,none⟩))(ty:tmps.getD y undef=u) :
    (results fn tmps).run Tryz.prog W=.ok (.tuple #[z.val,u]) W:=by
  have c0:=h.c0;have c1:=h.c1;have c2:=h.c2;have c3:=h.c3;have c4:=h.c4;have c5:=h.c5;have c6:=h.c6;have c7:=h.c7;(have tx2:tmps[x]?.getD undef=.pointer (some ⟨g,0,none⟩):=by simpa using tx);(have ty2:tmps[y]?.getD undef=u:=by simpa using ty);simp [results,hr,tx2,ty2,go_sem,c0,c1,c2,c3,c4,c5,c6,c7,Sx.val]
theorem Znz {p:Sx→Bool}{i:Nat}(hi:i<S.length)(hp:p S[i]=true)(hn:∀j,(hj:j<i)→p (S[j]'(by omega))=false):S.find? p=some S[i]:=by
 induction S generalizing i with
 | nil=>exact absurd hi (Nat.not_lt_zero _)
 | cons x l ih =>
  cases i with
  | zero =>
   simp only [List.getElem_cons_zero] at hp ⊢;rw [List.find?_cons,hp]
  | succ i =>
   have h0:p x=false:=hn 0 (Nat.zero_lt_succ _);rw [List.find?_cons,h0];simp only [List.getElem_cons_succ] at hp ⊢;exact ih (by simpa using hi) hp (fun j hj=>hn (j+1) (Nat.succ_lt_succ hj))
theorem Zl2 {p:Sx→Bool}(hn:∀j,(hj:j<S.length)→p S[j]=false):S.find? p=none:=by
 rw [List.find?_eq_none];intro x hx;obtain⟨j,hj,rfl⟩:=List.getElem_of_mem hx;rw [hn j hj];decide
def Zez (w:World) (r:Option Sx) (e:Ending) (w':World):Prop:=
  (e=.returned (match r with | some y=>.tuple #[y.val,.bool true] | none=>.tuple #[Sx.zero.val,.bool false]))∧Below w.heap.size w w'
theorem Zka (w0 w:World)(s:Sl)(S:List Sx)(h:Std w0 w s S)(hl:S.length≤100000)(g:Nat)(key:Nat)(hk:key<18446744073709551616)(hg:Zc5 w g key) :
    Calls Tryz.prog 67 #[s.val,.func (.func 110) #[] #[.pointer (some ⟨g,0,none⟩)]] w (Zez w (S.find? (ofK key))):=by
  obtain⟨a,len,cap⟩:=s;have hB:=Zaa w (.cells #[.int .i64 0,.int .i64 0,.float .f64 0,.bool false,.slice none 0 0,.int .i64 0,.int .i64 0,.int .i64 0] 118);have hX:SxBlk (w.alloc (.cells #[.int .i64 0,.int .i64 0,.float .f64 0,.bool false,.slice none 0 0,.int .i64 0,.int .i64 0,.int .i64 0] 118)) w.heap.size Sx.zero:=SxBlk.new w Sx.zero;have hS:=h.keep hB;have HL:Hid (S.length=len):=h.len;(have hl':len≤100000:=by rw [← HL.out];exact hl);have HI:=hide (Zn7 w0 _ ⟨a,len,cap⟩ S hS hl g key hk (hg.keep hB));have HB:=hide hB;have HX:=hide hX;have HS:=hide hS;clear h hB hX hS hl;unfold Sl.val at *;simp only at *;go_enter Tryz.func67,Tryz.ntmps67;go_wp2_with fail;generalize w.alloc (.cells #[.int .i64 0,.int .i64 0,.float .f64 0,.bool false,.slice none 0 0,.int .i64 0,.int .i64 0,.int .i64 0] 118)=W0 at *;refine HI.out.mono ?_;rintro e w1 ⟨hi,hb⟩;have aa:=hide (Zac HB.out hb);have ab:=hide (HX.out.keep hb);have ah:=hide (HS.out.keep hb);clear hb HI;rcases hi with ⟨i,hi,hp,hn,rfl⟩ | ⟨hn,rfl⟩
  · have HF:Hid (S.find? (ofK key)=some S[i]):=Znz hi hp hn;obtain⟨b,o,ha,c0⟩:=ah.out.cell hi;replace ha:a=some ⟨b,o,none⟩:=ha;subst ha;(have af:S.getD i Sx.zero=S[i]:=by simp [List.getD,hi]);rw [af] at c0;(have ai:i<len:=by rw [← HL.out];exact hi);(have i0:¬(i:Int)<0:=by omega);(have i1:(i:Int)<(len:Int):=by omega);have ag:=hide (Zij c0);have aj:=hide (Zgf b o len cap i ai);generalize S[i]=y at *;have ad:=hide (ZqU ab.out y);have ae:=hide (ZhA ab.out y);have ac:Hid (Below w.heap.size w (setSx w1 w.heap.size y)):=aa.out.trans ((ZhB w1 w.heap.size y).below aa.out.size (fun k hk=>by rw [hk];exact Nat.le_refl _));generalize setSx w1 w.heap.size y=W2 at *;clear c0 af hp hn hi;go_wp2_with (first | refine Zah _ rfl 118 (.tmp 15) rfl (.pointer (some ⟨b,o+i*8,none⟩)) _ rfl ag.out ?_ | refine Zad _ rfl rfl 118 (.tmp 4) (.tmp 16) rfl (.pointer (some ⟨w.heap.size,0,none⟩)) _ rfl rfl W2 ad.out ?_);refine bodyPost_ret (ZeZ rfl ae.out _ _ rfl rfl) rfl ?_;refine⟨?_,ac.out⟩;rw [HF.out];rfl
  · have HF:Hid (S.find? (ofK key)=none):=Zl2 hn;have ad:=hide (ZqU ab.out Sx.zero);have ae:=hide (ZhA ab.out Sx.zero);have ac:Hid (Below w.heap.size w (setSx w1 w.heap.size Sx.zero)):=aa.out.trans ((ZhB w1 w.heap.size Sx.zero).below aa.out.size (fun k hk=>by rw [hk];exact Nat.le_refl _));generalize setSx w1 w.heap.size Sx.zero=W2 at *;clear hn;go_wp2_with (first | refine Zad _ rfl rfl 118 (.tmp 4) (.tmp 12) rfl (.pointer (some ⟨w.heap.size,0,none⟩)) (Sx.zero.val) rfl rfl W2 ad.out ?_);refine bodyPost_ret (ZeZ rfl ae.out _ _ rfl rfl) rfl ?_;refine⟨?_,ac.out⟩;rw [HF.out];rfl
theorem Zmh (w:World)(key:Nat):Calls Tryz.prog 68 #[.float .f64 key] w fun e w'=>(∃g,e=.returned (.func (.func 110) #[] #[.pointer (some ⟨g,0,none⟩)])∧Zc5 w' g key)∧Below w.heap.size w w':=by
 have HK:Hid (Zc5 (w.alloc (.cells #[.float .f64 key] 32)) w.heap.size key):=heap_alloc_new w _;have HB:=hide (Zaa w (.cells #[.float .f64 key] 32));go_enter Tryz.func68,Tryz.ntmps68;go_wp2_with fail;go_ret;exact⟨⟨_,rfl,HK.out⟩,HB.out⟩
theorem ZfO.one {l:List Lf}{e:Ending}(h:ZfO w0 l e w'):∃(s:Sl)(S:List Sx)(k:Int),e=.returned (.tuple #[s.val,.int .i64 k])∧Std w0 w' s S∧((MayH l∧k=0∧S.map Sx.hr=allH l)∨(¬MayH l∧k=1∧S=[])):=by
 rcases h with ⟨hm,s,S,he,hs,hr⟩ | ⟨hm,he,hb⟩
 · exact⟨s,S,0,he,hs,.inl ⟨hm,rfl,hr⟩⟩
 · exact⟨⟨none,0,0⟩,[],1,he,⟨⟨rfl,.inl ⟨rfl,rfl⟩⟩,(fun k hk=>by cases hk),hb,(fun y hy=>by cases hy),fun y hy=>by cases hy⟩,.inr ⟨hm,rfl,rfl⟩⟩
theorem MayH.len {l:List Lf}(h:MayH l)(e:S.map Sx.hr=allH l):S.length≤62*64:=by
 have:=congrArg List.length e;rw [List.length_map] at this;rw [this];have h3:=ZbG l 0 (fun f hf=>(h.leaf f hf).slots.1);have:l.length*64≤62*64:=Nat.mul_le_mul_right _ h.few;exact Nat.le_trans h3 this
theorem Zkc (w:World)(s:Sl)(L:List Lb)(h:Gl (fun _=>True) w s L):Calls Tryz.prog 35 #[s.val] w fun e w'=>ZoF (lfs L) e∧Below w.heap.size w w':=by
 have HO:=hide (Zgu w s L h);obtain⟨a,len,cap⟩:=s;clear h;unfold Sl.val at *;simp only at *;go_enter Tryz.func35,Tryz.ntmps35;go_wp2_with fail;refine HO.out.mono ?_;intro e w1 ho;obtain⟨⟨sa,sn,sc⟩,S,k,rfl,hs,hk⟩:=ho.one;have HK:=hide hk;have HB:=hide hs.below;clear ho hs hk HO;unfold Sl.val;simp only;go_wp2_with fail;go_ret;refine⟨?_,HB.out⟩;rcases HK.out with ⟨hm,rfl,_⟩ | ⟨hm,rfl,_⟩
 · exact .inl ⟨hm,rfl⟩
 · exact .inr ⟨hm,rfl⟩
theorem SxBlk.rw (h:SxBlk w p y):RwAt w p 2 y.x:=⟨h.c2,h.c3,h.c4,h.c5,h.c6,h.c7⟩
theorem ZoT (g:Nat)(w:World):(Instr.fieldAt 118 (.pointer (some ⟨g,0,none⟩)) 1).run Tryz.prog w=.ok (.pointer (some ⟨g,2,none⟩)) w:=by simp [go_sem,Instr.fieldAt]
theorem ZoS (g:Nat)(w:World):(Instr.fieldAt 118 (.pointer (some ⟨g,0,none⟩)) 0).run Tryz.prog w=.ok (.pointer (some ⟨g,0,none⟩)) w:=by simp [go_sem,Instr.fieldAt]
theorem Zqh (B:Nat)(W0 V w:World)(g p q:Nat)(x:Rx)(y:Bt)(r:Bool)(hW:FS B W0 V g 2 g 0 p q x y w)
    {Q:Exit→Act→World→Prop}{A:Act}(aj:A.tmps.size=28)(af:A.defers=[])(s9:A.tmps.getD 9 undef=.pointer (some ⟨g,0,none⟩))(s10:A.tmps.getD 10 undef=.bool r)(s4:A.tmps.getD 4 undef=.pointer (some ⟨p,0,none⟩))(s5:A.tmps.getD 5 undef=.pointer (some ⟨q,0,none⟩))
    (hend:∀(u:Nat→Value) w',RwBlk w' p x.r (.slice x.a x.n x.c)→BtBlk w' q y→Below B W0 w'→Frm (fun k=>k=p∨k=q) V w'→Q .normal ((Pl.pu A u [23,24,25,26,27]).put (some 6) (.bool r)) w') :
    (Code.region 3 (Pl.find 3 ((Tryz.f31.body).getD .skip)) true).wp Tryz.prog Q A w:=by
  have aa:FS B W0 V g 2 g 0 p q x y w.drew:=hW.drew;have hA:=Pl.At.same (v:=.pointer (some ⟨q,0,none⟩)) (d:=5) (Pl.At.same (v:=.pointer (some ⟨p,0,none⟩)) (d:=4) (Pl.At.same (v:=.bool r) (d:=10) (Pl.At.same (v:=.pointer (some ⟨g,0,none⟩)) (d:=9) (Pl.At.here aj af) s9) s10) s4) s5;refine Pl.qa (S:=(FS B W0 V g 2 g 0 p q x y)) hA aa ?_;rw [show (Pl.find 3 ((Tryz.f31.body).getD .skip)).size=8 by kernel_rfl];refine Pl.q0 0 23 (.pointer (some ⟨g,2,none⟩)) (Pl.q1) (Pl.q5 118 (.tmp 9) 1 (ZoT g)) aa ?_;refine Pl.q0 1 24 (x.val) (Pl.q1) (Pl.q4 39 (.tmp 23) (fun w' hS=>ZbD g 2 x w' hS.rx)) aa ?_;refine Pl.q0 2 25 (.pointer (some ⟨g,0,none⟩)) (Pl.q1) (Pl.q5 118 (.tmp 9) 0 (ZoS g)) aa ?_;refine Pl.q0 3 26 (btV y) (Pl.q1) (Pl.q4 67 (.tmp 25) (fun w' hS=>ZlV hS.y0 hS.y1)) aa ?_;refine Pl.q0 4 27 (.bool r) (Pl.q1) (Pl.q2 (.tmp 10)) aa ?_;obtain⟨W1,ac,ae,ag⟩:=aa.row;refine Pl.qj 5 W1 (Pl.q1) (Pl.qk 39 (.tmp 4) (.tmp 24) ac) ae ?_;obtain⟨W2,ad,ab,ah,ai⟩:=ae.bt ag;refine Pl.qj 6 W2 (Pl.q1) (Pl.qk 67 (.tmp 5) (.tmp 26) ad) ab ?_;refine Pl.q0 7 6 (.bool r) (Pl.q1) (Pl.qe (.tmp 27)) ab ?_;refine Pl.q8 (fun A' hA'=>?_);rw [Pl.At.ext hA' ((((((hA.put 23 _).put 24 _).put 25 _).put 26 _).put 27 _).put 6 _)];exact hend hA'.fn _ ah ai ab.e ab.f
def orZ (r:Option Sx):Sx:=r.getD Sx.zero
theorem Zez.one {r:Option Sx}{e:Ending}(h:Zez w r e w'):e=.returned (.tuple #[(orZ r).val,.bool r.isSome])∧Below w.heap.size w w':=by
 obtain⟨h1,h2⟩:=h;refine⟨?_,h2⟩;rw [h1];cases r <;> rfl
def ZkY (w:World) (l:List Lf) (key:Nat) (e:Ending) (w':World):Prop:=
  Below w.heap.size w w'∧∃S:List Sx,((MayH l∧S.map Sx.hr=allH l)∨(¬MayH l∧S=[]))∧e=.returned (.tuple #[(orZ (S.find? (ofK key))).x.val,btV (((orZ (S.find? (ofK key))).i:Nat),((orZ (S.find? (ofK key))).k:Nat)),.bool (S.find? (ofK key)).isSome])∧∀y∈S,ColF w' y.x∧y.x.r.fits
theorem ZlB (w:World)(s:Sl)(L:List Lb)(key:Nat)(h:Gl (fun _=>True) w s L)(ai:key<18446744073709551616) :
    Calls Tryz.prog 31 #[s.val,.float .f64 key] w (ZkY w (lfs L) key):=by
  have bm:∀(w:World) (a:Addr) (m:Mode) (x:Nat),(store a (.float .f64 x) m).run Tryz.prog w=stored Tryz.prog w a (.float .f64 x) m:=fun w a m x=>run_store Tryz.prog w a _ m rfl;have aq:=Zaa w (.cells #[.float .f64 0,.bool false,.slice none 0 0,.int .i64 0,.int .i64 0,.int .i64 0] 39);have ah:=Zaa (w.alloc (.cells #[.float .f64 0,.bool false,.slice none 0 0,.int .i64 0,.int .i64 0,.int .i64 0] 39)) (.cells #[.int .i64 0,.int .i64 0] 67);have hX:RwBlk ((w.alloc (.cells #[.float .f64 0,.bool false,.slice none 0 0,.int .i64 0,.int .i64 0,.int .i64 0] 39)).alloc (.cells #[.int .i64 0,.int .i64 0] 67)) w.heap.size zeroR (.slice none 0 0):=(Zai w zeroR (.slice none 0 0)).keep ah;have hY:BtBlk ((w.alloc (.cells #[.float .f64 0,.bool false,.slice none 0 0,.int .i64 0,.int .i64 0,.int .i64 0] 39)).alloc (.cells #[.int .i64 0,.int .i64 0] 67)) (w.heap.size+1) (0,0):=by
   have:=Zbq (w.alloc (.cells #[.float .f64 0,.bool false,.slice none 0 0,.int .i64 0,.int .i64 0,.int .i64 0] 39)) (0,0);rwa [Zae] at this
  obtain⟨W0,ab⟩:∃W0,W0=(w.alloc (.cells #[.float .f64 0,.bool false,.slice none 0 0,.int .i64 0,.int .i64 0,.int .i64 0] 39)).alloc (.cells #[.int .i64 0,.int .i64 0] 67):=⟨_,rfl⟩;rw [← ab] at hX hY;(have an:Hid (Below w.heap.size w W0):=by rw [ab];exact Zac aq ah);(have au:W0.heap.size=w.heap.size+2:=by rw [ab,Zae,Zae]);have HX:=hide hX;have HY:=hide hY;have HO:=hide (Zgu W0 s L (h.below an.out (Nat.le_refl _)));have bb:=hide au;have bh:=hide ab;obtain⟨a,len,cap⟩:=s;clear h aq ah hX hY ab au;unfold Sl.val at *;simp only at *;go_enter Tryz.func31,Tryz.ntmps31;go_wp2_with fail;rw [← bh.out];refine HO.out.mono ?_;intro e w1 ho;obtain⟨⟨sa,sn,sc⟩,S,k,rfl,hs,hk⟩:=ho.one;have HK:Hid ((MayH (lfs L)∧S.map Sx.hr=allH (lfs L))∨(¬MayH (lfs L)∧S=[])):=by
   rcases hk with ⟨h1,_,h2⟩ | ⟨h1,_,h2⟩
   · exact .inl ⟨h1,h2⟩
   · exact .inr ⟨h1,h2⟩
  have ba:Hid (S.length≤100000):=by
   rcases HK.out with ⟨h1,h2⟩ | ⟨h1,h2⟩
   · exact Nat.le_trans (h1.len h2) (by decide)
   · rw [h2];exact Nat.zero_le _
  have be:=hide (Zac an.out hs.below);have bi:=hide (HX.out.keep hs.below);have bk:=hide (HY.out.keep hs.below);have al:=hide hs;(have bd:Hid (w.heap.size+2≤w1.heap.size):=by show _≤_;rw [← bb.out];exact hs.below.size);have ak:=hide (Zmh w1 key);clear ho hs hk HO;unfold Sl.val;simp only;go_wp2_with fail;refine ak.out.mono ?_;rintro e w2 ⟨⟨g,rfl,hg⟩,hb⟩;have ac:=hide (Zka W0 w2 ⟨sa,sn,sc⟩ S (al.out.keep hb) ba.out g key ai hg);have bc:=hide (al.out.keep hb);have bf:=hide (Zac be.out hb);have bj:=hide (bi.out.keep hb);have bl:=hide (bk.out.keep hb);have af:Hid (w.heap.size+2≤w2.heap.size):=Nat.le_trans bd.out hb.size;clear hg hb ak;unfold Sl.val at ac;simp only at ac;go_wp2_with fail;refine ac.out.mono ?_;intro e w3 hf;obtain⟨rfl,hb⟩:=hf.one;obtain⟨z,hz⟩:∃z,z=orZ (S.find? (ofK key)):=⟨_,rfl⟩;obtain⟨r,hr⟩:∃r,r=(S.find? (ofK key)).isSome:=⟨_,rfl⟩;rw [← hz,← hr];have HZ:=hide hz;have HR:=hide hr;have aj:=Zaa w3 (.cells z.cells.toArray 118);have aa:=Zac hb aj;have am:=hide (bc.out.keep aa);have bg:=hide (Zac bf.out aa);have ao:=hide (bj.out.keep aa);have ap:=hide (bl.out.keep aa);have ag:Hid (w.heap.size+2≤w3.heap.size):=Nat.le_trans af.out hb.size;have ae:=hide (SxBlk.new w3 z);have ad:=hide (Zj4 z w3);generalize w3.alloc (.cells z.cells.toArray 118)=W4 at *;have ax:Hid (FS w.heap.size w W4 w3.heap.size 2 w3.heap.size 0 w.heap.size (w.heap.size+1) z.x ((z.i:Nat),(z.k:Nat)) W4):=
   ⟨ae.out.rw,ae.out.c0,ae.out.c1,⟨_,_,ao.out⟩,⟨_,ap.out⟩,bg.out,Frm.refl _ _,by have:=ag.out;refine ⟨?_,?_,?_,?_,?_,?_,?_⟩ <;> omega⟩
  clear hf hb hz hr aj aa ac;go_upto_region 3 with (first | refine Zad _ rfl rfl 118 (.tmp 9) (.tmp 21) rfl (.pointer (some ⟨w3.heap.size,0,none⟩)) _ rfl rfl W4 ad.out ?_);refine Pl.q9 (ops:=Pl.find 3 ((Tryz.f31.body).getD .skip)) ?_;refine Zqh w.heap.size w W4 W4 w3.heap.size w.heap.size (w.heap.size+1) z.x ((z.i:Nat),(z.k:Nat)) r ax.out (by rfl) (by rfl) (by rfl) (by rfl) (by rfl) (by rfl) ?_;intro u w5 k1 k2 hb ar;simp only [Pl.pu,List.foldl,Act.put,List.setIfInBounds_toArray,List.set_cons_zero,List.set_cons_succ];have ay:=hide k1;have az:=hide k2;have av:=hide hb;have aw:Hid (∀y∈S,ColF w5 y.x∧y.x.r.fits):=fun y hy=>⟨(am.out.flt y hy).frm ar (fun k hk C fr hc=>by
   rcases hk with rfl | rfl
   · have:=ao.out;rw [RwBlk,hc] at this;simp only [Option.some.injEq,Obj.cells.injEq] at this;exact absurd this.2.1 (by decide)
   · have:=ap.out;rw [BtBlk,hc] at this;simp only [Option.some.injEq,Obj.cells.injEq] at this;exact absurd this.2.1 (by decide)),am.out.fits y hy⟩
  clear k1 k2 hb ar;go_wp2_with fail;refine bodyPost_ret (ZcB rfl ay.out az.out _ _ rfl rfl rfl) rfl ?_;refine⟨av.out,S,HK.out,?_,aw.out⟩;rw [← HZ.out,← HR.out];rfl
theorem ZoQ {l:List Hr}(e:S.map Sx.hr=l)(p:Hr→Bool):l.find? p=(S.find? (fun y=>p y.hr)).map Sx.hr:=by
 subst e;rw [List.find?_map];rfl
theorem ZlC (w:World)(s:Sl)(L:List Lb)(key:Nat)(h:Gl (fun _=>True) w s L)(ab:key<18446744073709551616)(hm:MayH (lfs L)):Calls Tryz.prog 31 #[s.val,.float .f64 key] w (ZiN w (lfs L) key):=by
 refine(ZlB w s L key h ab).mono ?_;rintro e w' ⟨hb,S,hS,rfl,hc⟩;rcases hS with ⟨_,hr⟩ | ⟨hn,_⟩
 · have hg:findH (lfs L) key=(S.find? (ofK key)).map Sx.hr:=ZoQ hr _;refine⟨hb,fun hn=>?_,fun r aa=>?_⟩
   · rw [hg] at hn;cases hq:S.find? (ofK key) with
     | none=>rfl
     | some y=>rw [hq] at hn;cases hn
   · rw [hg] at aa;cases hq:S.find? (ofK key) with
     | none=>rw [hq] at aa;cases aa
     | some y =>
      rw [hq] at aa;cases aa;have hy:=hc y (List.mem_of_find?_eq_some hq);exact⟨hy.2,y.x,rfl,rfl,hy.1⟩
 · exact absurd hm hn
theorem Zqa:∀args w,(callFunc 33 args).run Tryz.prog w=.ok (.enter 33 args) w:=Pl.qi Tryz.func33
theorem Zqb:∀args w,(callFunc 34 args).run Tryz.prog w=.ok (.enter 34 args) w:=Pl.qi Tryz.func34
theorem Zqc:∀args w,(callFunc 35 args).run Tryz.prog w=.ok (.enter 35 args) w:=Pl.qi Tryz.func35
theorem Zqd:∀args w,(callFunc 36 args).run Tryz.prog w=.ok (.enter 36 args) w:=Pl.qi Tryz.func36
theorem Zly:∀args w,(callFunc 29 args).run Tryz.prog w=.ok (.enter 29 args) w:=Pl.qi Tryz.func29
theorem ZpR (w:World)(g:Nat)(z:Bz)(a b c m:Int)(hg:BsBlk w g z)(hT:∀W,Below w.heap.size w W→Calls Tryz.prog 33 #[z.t.val z.es] W fun e w'=>e=.returned (.int .i64 a)∧Below W.heap.size W w')(hU:∀W,Below w.heap.size w W→Calls Tryz.prog 34 #[.slice z.cs.a z.cs.len z.cs.cap] W fun e w'=>e=.returned (.int .i64 b)∧Below W.heap.size W w')(hL:∀W,Below w.heap.size w W→Calls Tryz.prog 35 #[.slice z.ls.a z.ls.len z.ls.cap] W fun e w'=>e=.returned (.int .i64 c)∧Below W.heap.size W w')(hP:∀W,Below w.heap.size w W→Calls Tryz.prog 36 #[z.val] W fun e w'=>e=.returned (.int .i64 m)∧Below W.heap.size W w')
    {Q:Exit→Act→World→Prop}{A:Act}(an:A.tmps.size=16)(am:A.defers=[])(s1:A.tmps.getD 1 undef=.pointer (some ⟨g,0,none⟩))
    (hend:∀(u:Nat→Value) w',Below w.heap.size w w'→Q .normal ((Pl.pu A u [3,4,6,7,9,10,12,5,8,11,13,14,15]).put (some 2) (.int .i64 (orN [a,b,c,m]))) w') :
    (Code.region 1 (Pl.find 1 ((Tryz.f10.body).getD .skip)) true).wp Tryz.prog Q A w:=by
  have aa:Below w.heap.size w w.drew:=Zab w;have hA:=Pl.At.same (v:=.pointer (some ⟨g,0,none⟩)) (d:=1) (Pl.At.here an am) s1;refine Pl.qa (S:=fun w'=>Below w.heap.size w w') hA aa ?_;rw [show (Pl.find 1 ((Tryz.f10.body).getD .skip)).size=14 by kernel_rfl];refine Pl.q0 0 3 (.pointer (some ⟨g,0,none⟩)) (Pl.q1) (Pl.q5 28 (.tmp 1) 0 (Zrg g)) aa ?_;refine Pl.q0 1 4 (z.t.val z.es) (Pl.q1) (Pl.q4 24 (.tmp 3) (fun w' hS=>ZnI (hg.keep hS))) aa ?_;refine Pl.q0 3 6 (.pointer (some ⟨g,4,none⟩)) (Pl.q1) (Pl.q5 28 (.tmp 1) 1 (ZoM g)) aa ?_;refine Pl.q0 4 7 (.slice z.cs.a z.cs.len z.cs.cap) (Pl.q1) (Pl.q4 25 (.tmp 6) (fun w' hS=>ldCs (hg.keep hS).c4)) aa ?_;refine Pl.q0 6 9 (.pointer (some ⟨g,5,none⟩)) (Pl.q1) (Pl.q5 28 (.tmp 1) 2 (ZoN g)) aa ?_;refine Pl.q0 7 10 (.slice z.ls.a z.ls.len z.ls.cap) (Pl.q1) (Pl.q4 26 (.tmp 9) (fun w' hS=>ldLs (hg.keep hS).c5)) aa ?_;refine Pl.q0 9 12 (z.val) (Pl.q1) (Pl.q4 28 (.tmp 1) (fun w' hS=>Zgn (hg.keep hS))) aa ?_;refine Pl.qd 2 5 33 [(.tmp 4)] #[24] (Pl.q1) Zqa (Calls.mono (hT _ aa) ?_);rintro e w2 ⟨rfl,aj⟩;have ae:Below w.heap.size w w2:=Zac aa aj;refine⟨.int .i64 a,rfl,ae,?_⟩;refine Pl.qd 5 8 34 [(.tmp 7)] #[25] (Pl.q1) Zqb (Calls.mono (hU _ ae) ?_);rintro e w5 ⟨rfl,ak⟩;have af:Below w.heap.size w w5:=Zac ae ak;refine⟨.int .i64 b,rfl,af,?_⟩;refine Pl.qd 8 11 35 [(.tmp 10)] #[26] (Pl.q1) Zqc (Calls.mono (hL _ af) ?_);rintro e w8 ⟨rfl,al⟩;have ag:Below w.heap.size w w8:=Zac af al;refine⟨.int .i64 c,rfl,ag,?_⟩;refine Pl.qd 10 13 36 [(.tmp 12)] #[28] (Pl.q1) Zqd (Calls.mono (hP _ ag) ?_);rintro e w10 ⟨rfl,ah⟩;have ab:Below w.heap.size w w10:=Zac ag ah;refine⟨.int .i64 m,rfl,ab,?_⟩;have ad:Below w.heap.size w (w10.alloc (.cells #[.int .i64 a,.int .i64 b,.int .i64 c,.int .i64 m] 40)):=Zac ab (Zaa w10 _);refine Pl.qh 11 14 (.slice (some ⟨w10.heap.size,0,none⟩) 4 4) (w10.alloc (.cells #[.int .i64 a,.int .i64 b,.int .i64 c,.int .i64 m] 40)) (Pl.q1) (Pl.bsV 11 112 4 [(0,.tmp 5),(1,.tmp 8),(2,.tmp 11),(3,.tmp 13)] _ _ (by kernel_rfl) (by decide) (Zry w10 a b c m)) ad ?_;refine Pl.qd 12 15 29 [(.tmp 14)] #[112] (Pl.q1) Zly (Calls.mono (Zpv w10 a b c m) ?_);rintro e w12 ⟨rfl,ai⟩;have ac:Below w.heap.size w w12:=Zac ab ai;refine⟨.int .i64 (orN [a,b,c,m]),rfl,ac,?_⟩;refine Pl.q0 13 2 (.int .i64 (orN [a,b,c,m])) (Pl.q1) (Pl.qe (.tmp 15)) ac ?_;refine Pl.q8 (fun A' hA'=>?_);rw [Pl.At.ext hA' ((((((((((((((hA.put 3 _).put 4 _).put 6 _).put 7 _).put 9 _).put 10 _).put 12 _).put 5 _).put 8 _).put 11 _).put 13 _).put 14 _).put 15 _).put 2 _)];exact hend hA'.fn _ ac
theorem Zbv (w:World)(z:Bz)(h:Bin w z):Calls Tryz.prog 10 #[z.val] w fun e w'=>ZhM z.b e∧Below w.heap.size w w':=by
 have hA:=Zaa w (.cells #[.int .i64 z.t.nx,.int .i64 z.t.no,.int .i64 z.t.cm,.slice z.es.a z.es.len z.es.cap,.slice z.cs.a z.cs.len z.cs.cap,.slice z.ls.a z.ls.len z.ls.cap] 28);have ab:=Zbi w z;obtain⟨W0,hW⟩:∃W,w.alloc (.cells #[.int .i64 z.t.nx,.int .i64 z.t.no,.int .i64 z.t.cm,.slice z.es.a z.es.len z.es.cap,.slice z.cs.a z.cs.len z.cs.cap,.slice z.ls.a z.ls.len z.ls.cap] 28)=W:=⟨_,rfl⟩;rw [hW] at hA ab;have ad:=hide hW;have ah:=hide ab;have HA:=hide hA;have HH:=hide (h.keep hA);obtain⟨hl,ac⟩:∃c:Bool,c=true↔MayH (lfs z.lb):=by
  by_cases hm:MayH (lfs z.lb)
  · exact⟨true,fun _=>hm,fun _=>rfl⟩
  · exact⟨false,fun e=>(by cases e),fun e=>absurd e hm⟩
 have HT:Hid (∀W,Below W0.heap.size W0 W→_):=fun W hb=>Znk z.t z.es (chk (mayB z.t)) W (HH.out.keep hb).es (by cases mayB z.t <;> rfl);have HU:Hid (∀W,Below W0.heap.size W0 W→_):=fun W hb=>Zfx z.cs.a z.cs.len z.cs.cap z.ux W (HH.out.keep hb).cs (by have:=h.cb;omega);have HL:Hid (∀W,Below W0.heap.size W0 W→Calls Tryz.prog 35 #[.slice z.ls.a z.ls.len z.ls.cap] W fun e w'=>e=.returned (.int .i64 (chk hl))∧Below W.heap.size W w'):=fun W hb=>(Zkc W z.ls z.lb (HH.out.keep hb).ls).mono fun e w' k=>by
  refine⟨?_,k.2⟩;rcases k.1 with ⟨k1,k2⟩ | ⟨k1,k2⟩
  · rw [k2,ac.2 k1];rfl
  · cases hl with
    | false=>exact k2
    | true=>exact absurd (ac.1 rfl) k1
 have HP:Hid (∀W,Below W0.heap.size W0 W→_):=fun W hb=>ZkE W z (HH.out.keep hb);have HR:Hid (ZhM z.b (.returned (.int .i64 (orN [chk (mayB z.t),chk (MayU (uns z.ux)),chk hl,chk (!((uns z.ux).findIdx? (fun y:Un=>decide ((z.ls.len:Int)≤y.page))).isSome)])))):=by
  (have ae:(lfs z.lb).length=z.ls.len:=by rw [lfs,List.length_map];exact h.ls.len);have hp:=Zml (uns z.ux) z.ls.len;rw [ZnR];show (MayBs z.b∧_)∨(¬MayBs z.b∧_);have aa:(mayB z.t && MayU (uns z.ux) && hl && !((uns z.ux).findIdx? (fun y:Un=>decide ((z.ls.len:Int)≤y.page))).isSome)=true↔MayBs z.b:=by
   simp only [Bool.and_eq_true,Bool.not_eq_true',ac,hp];constructor
   · rintro ⟨⟨⟨h1,h2⟩,h3⟩,h4⟩;exact⟨fun i hi=>by show _<(((lfs z.lb).length:Nat):Int);rw [ae];exact h4 i hi,Zeq.1 h1,h2,h3⟩
   · intro k;refine⟨⟨⟨Zeq.2 k.t,k.u⟩,k.l⟩,fun i hi=>?_⟩;have h4:_<(((lfs z.lb).length:Nat):Int):=k.pg i hi;rw [ae] at h4;exact h4
  generalize (mayB z.t && MayU (uns z.ux) && hl && !((uns z.ux).findIdx? (fun y:Un=>decide ((z.ls.len:Int)≤y.page))).isSome)=m at *;cases m with
  | true=>exact .inl ⟨aa.1 rfl,rfl⟩
  | false=>exact .inr ⟨fun k=>Bool.noConfusion (aa.2 k),rfl⟩
 clear h hW ab hA;unfold Bz.val;go_enter Tryz.func10,Tryz.ntmps10;go_wp2_with fail;rw [ad.out];clear ad;refine Pl.q9 (ops:=Pl.find 1 ((Tryz.f10.body).getD .skip)) ?_;refine ZpR W0 w.heap.size z _ _ _ _ ah.out HT.out HU.out HL.out HP.out (by rfl) rfl (by rfl) ?_;intro u1 w1 af;simp only [Pl.pu,List.foldl,Act.put,List.setIfInBounds_toArray,List.set_cons_zero,List.set_cons_succ];have ag:=hide (Zac HA.out af);clear af HT HU HL HP HH;go_wp2_with fail;go_ret;exact⟨HR.out,ag.out⟩
theorem Zki {D:Nat→Prop}(w:World)(s:Sl)(t:List Int)(h:Gi D w s t)(x:Int) :
    Calls Tryz.prog 144 #[s.val,.int .i64 x] w fun e w'=>∃k:Int,e=.returned (.int .i64 k)∧decide (0≤k)=t.contains x∧Below w.heap.size w w':=by
  obtain⟨a,len,cap⟩:=s;have H:=hide h;have HL:Hid (t.length=len):=h.len;have ad:len≤1000000:=h.big;have H0:=hide (Below.refl w.heap.size w);obtain⟨r,hr⟩:∃r,r=t.contains x:=⟨_,rfl⟩;rw [← hr];have HR:=hide hr;clear h hr;unfold Sl.val;simp only;go_enter Tryz.func144,Tryz.ntmps144;go_wp2_with fail;go_loopw [8] (fun iv wr=>wr=w∧∃i:Nat,i≤len∧iv=.int .i64 (i:Nat)∧Hid (∀j,j<i→t.getD j 0≠x)) (fun iv _=>len-(intOf iv).toNat)
  case atStart=>exact ⟨rfl,0,Nat.zero_le _,rfl,fun j hj=>absurd hj (Nat.not_lt_zero _)⟩
  case round =>
   obtain⟨rfl,i,hi,rfl,aa⟩:=hrel;rcases Nat.lt_or_ge i len with ab | ae
   · (have i1:(i:Int)<(len:Int):=by omega);obtain⟨bb,oo,ha,c0⟩:=H.out.cell i ab;replace ha:a=some ⟨bb,oo,none⟩:=ha;subst ha;obtain⟨y,hy⟩:∃y,y=t.getD i 0:=⟨_,rfl⟩;rw [← hy] at c0;by_cases ac:x=y
     · have HE:Hid (r=true):=HR.out.trans (ZgK (i:=i) (by rw [HL.out];exact ab) (by rw [← hy,ac]));clear hy aa;go_wp2_with fail;go_ret;exact⟨_,rfl,by rw [HE.out];simp,H0.out⟩
     · have HN:Hid (∀j,j<i+1→t.getD j 0≠x):=by
        intro j hj;by_cases e:j=i
        · rw [e,← hy];exact fun e2=>ac e2.symm
        · exact aa.out j (by omega)
       clear hy aa;go_wp2_with fail;go_roundw
       case rel=>exact ⟨trivial,i+1,by omega,by go_num,HN⟩
       case measure=>simp only [intOf];omega
   · (have i1:¬(i:Int)<(len:Int):=by omega);have HE:Hid (r=false):=HR.out.trans (ZhX (fun j hj=>aa.out j (by rw [HL.out] at hj;omega)));clear aa;go_wp2_with fail;go_ret;exact⟨_,rfl,by rw [HE.out];rfl,H0.out⟩
theorem ZfY {D:Nat→Prop}(w:World)(s:Sl)(t:List Int)(h:Gi D w s t)(x:Int) :
    Calls Tryz.prog 111 #[s.val,.int .i64 x] w fun e w'=>e=.returned (.bool (t.contains x))∧Below w.heap.size w w':=by
  have HI:=hide (Zki w s t h x);obtain⟨r,hr⟩:∃r,r=t.contains x:=⟨_,rfl⟩;rw [← hr] at HI ⊢;obtain⟨a,len,cap⟩:=s;clear h hr;unfold Sl.val at *;simp only at *;go_enter Tryz.func111,Tryz.ntmps111;go_wp2_with fail;refine HI.out.mono ?_;rintro e w1 ⟨k,rfl,hk,hb⟩;have HB:=hide hb;have HK:=hide hk;clear hb hk HI;go_wp2_with fail;go_ret;exact⟨by rw [← HK.out];rfl,HB.out⟩
def errV (ok:Bool):Int:=if ok then 0 else 1
theorem ZdW (w:World)(n:Int) :
    Calls Tryz.prog 65 #[.int .i64 n] w fun e w'=>e=.returned (.bool (decide (0≤n∧n≤2147483647)))∧w'=w:=by
  go_enter Tryz.func65,Tryz.ntmps65;by_cases h0:0≤n
  · by_cases h1:n≤2147483647
    · rw [decide_eq_true (show 0≤n∧n≤2147483647 from ⟨h0,h1⟩)];go_wp2_with fail;go_ret;exact⟨rfl,rfl⟩
    · rw [decide_eq_false (show ¬(0≤n∧n≤2147483647) from fun h=>h1 h.2)];go_wp2_with fail;go_ret;exact⟨rfl,rfl⟩
  · rw [decide_eq_false (show ¬(0≤n∧n≤2147483647) from fun h=>h0 h.1)];go_wp2_with fail;go_ret;exact⟨rfl,rfl⟩
def lastV (t:List Int) (i:Nat):Int:=if i=0 then 0 else t.getD (i-1) 0
theorem Zkp (t:List Int)(i:Nat):lastV t (i+1)=t.getD i 0:=by simp [lastV]
theorem ZbJ (w:World)(s:Sl)(v:Vw)(h:Gi (fun _=>True) w s v.act)(hs:s.len≤200) :
    Calls Tryz.prog 30 #[vwV v s] w fun e w'=>e=.returned (.int .i64 (errV (decide (MayV v))))∧Below w.heap.size w w':=by
  obtain⟨a,len,cap⟩:=s;obtain⟨vs,vn,t⟩:=v;have hA:=Zaa w (.cells #[.int .i64 vs,.int .i64 vn,.slice a len cap] 31);have H:=hide (h.below hA (Nat.le_refl _));have HL:Hid (t.length=len):=h.len;have al:len≤1000000:=h.big;have HA:=hide hA;obtain⟨r,hr⟩:∃r,r=errV (decide (MayV ⟨vs,vn,t⟩)):=⟨_,rfl⟩;rw [← hr];have HR:=hide hr;(have HN:Hid (¬MayV ⟨vs,vn,t⟩→r=1):=fun hm=>by rw [hr,decide_eq_false hm];rfl);(have HY:Hid (MayV ⟨vs,vn,t⟩→r=0):=fun hm=>by rw [hr,decide_eq_true hm];rfl);clear h hA hr hs;unfold vwV Sl.val;simp only at H ⊢;go_enter Tryz.func30,Tryz.ntmps30;have aa:=hide (fun W=>ZdW W vs);have ac:=hide (fun W=>ZdW W vn);by_cases hc:(0≤vs∧vs≤2147483647)∧(0≤vn∧vn≤2147483647)∧len≤64
  · obtain⟨p1,p3,p5⟩:=hc;(have q5:¬(64:Int)<(len:Int):=by omega);rw [decide_eq_true p1] at aa;rw [decide_eq_true p3] at ac;go_wp2_with fail;refine(aa.out _).mono ?_;rintro e w1 ⟨rfl,rfl⟩;go_wp2_with fail;refine(ac.out _).mono ?_;rintro e w1 ⟨rfl,rfl⟩;go_wp2_with fail;clear aa ac;go_loopw [3,25] (fun lv iv wr=>wr=w.alloc (.cells #[.int .i64 vs,.int .i64 vn,.slice a len cap] 31)∧∃i:Nat,i≤len∧iv=.int .i64 (i:Nat)∧lv=.int .i64 (lastV t i)∧Hid (0≤lastV t i)∧Hid (∀j,j<i→(1≤t.getD j 0∧t.getD j 0<vn∧t.getD j 0≠vs)∧(0<j→t.getD (j-1) 0<t.getD j 0))) (fun _ iv _=>len-(intOf iv).toNat)
    case atStart=>exact ⟨rfl,0,Nat.zero_le _,rfl,rfl,Int.le_refl _,fun j hj=>absurd hj (Nat.not_lt_zero _)⟩
    case round =>
     obtain⟨rfl,i,hi,rfl,rfl,ae,ab⟩:=hrel;rcases Nat.lt_or_ge i len with ag | am
     · (have i1:(i:Int)<(len:Int):=by omega);obtain⟨bb,oo,ha,c0⟩:=H.out.cell i ag;replace ha:a=some ⟨bb,oo,none⟩:=ha;subst ha;have af:=Zkp t i;obtain⟨y,hy⟩:∃y,y=t.getD i 0:=⟨_,rfl⟩;rw [← hy] at c0 af;have ah:=hide af;obtain⟨l,hl⟩:∃l,l=lastV t i:=⟨_,rfl⟩;rw [← hl] at ae ⊢;have ad:=hide hy;have ai:=hide hl;clear af hy hl;by_cases hg:l<y∧y<vn∧y≠vs
       · obtain⟨g1,g2,g3⟩:=hg;(have q6:¬y≤l:=by omega);(have q7:¬y ≥ vn:=by omega);have q8:(y == vs)=false:=beq_eq_false_iff_ne.2 g3;have ak:Hid (∀j,j<i+1→(1≤t.getD j 0∧t.getD j 0<vn∧t.getD j 0≠vs)∧(0<j→t.getD (j-1) 0<t.getD j 0)):=by
          intro j hj;by_cases e:j=i
          · subst e;have:=ae.out;refine⟨⟨by rw [← ad.out];omega,by rw [← ad.out];exact g2,by rw [← ad.out];exact g3⟩,fun h0=>?_⟩;have h9:=ai.out;unfold lastV at h9;rw [if_neg (by omega)] at h9;rw [← h9,← ad.out];exact g1
          · exact ab.out j (by omega)
         (have aj:Hid (0≤lastV t (i+1)):=by show 0≤_;rw [ah.out];have:=ae.out;omega);clear ab ae g3;go_wp2_with fail;go_roundw
         case rel=>exact ⟨trivial,i+1,by omega,by go_num,by rw [ah.out],aj,ak⟩
         case measure=>simp only [intOf];omega
       · have HQ:Hid (r=1):=HN.out (fun m=>by
          have m1:=m.2.2.2.1 i (by show i<t.length;rw [HL.out];exact ag);have m2:=m.2.2.2.2 i (by show i<t.length;rw [HL.out];exact ag);simp only [← ad.out] at m1 m2;refine hg ⟨?_,m1.2.1,m1.2.2⟩;have h9:=ai.out;unfold lastV at h9;split at h9
          · omega
          · have:=m2 (by omega);omega)
         by_cases e1:y≤l
         · clear hg ab;go_wp2_with fail;go_ret;exact⟨by rw [HQ.out];rfl,HA.out⟩
         · by_cases e2:y ≥ vn
           · clear hg ab;go_wp2_with fail;go_ret;exact⟨by rw [HQ.out];rfl,HA.out⟩
           · have e3:(y == vs)=true:=by
              (have:y=vs:=by omega);rw [this];exact beq_self_eq_true _
             clear hg ab;go_wp2_with fail;go_ret;exact⟨by rw [HQ.out];rfl,HA.out⟩
     · (have i1:¬(i:Int)<(len:Int):=by omega);have HQ:Hid (r=0):=HY.out (by
        show (0≤vs∧vs≤2147483647)∧(0≤vn∧vn≤2147483647)∧t.length≤64∧(∀i,i<t.length→1≤t.getD i 0∧t.getD i 0<vn∧t.getD i 0≠vs)∧∀i,i<t.length→0<i→t.getD (i-1) 0<t.getD i 0;have hl:=HL.out;exact⟨p1,p3,by omega,fun j hj=>(ab.out j (by omega)).1,fun j hj h0=>(ab.out j (by omega)).2 h0⟩)
       clear ab;go_wp2_with fail;go_ret;exact⟨by rw [HQ.out];rfl,HA.out⟩
  · have HQ:Hid (r=1):=HN.out (fun m=>hc ⟨m.1,m.2.1,by have:=HL.out;have:t.length≤64:=m.2.2.1;omega⟩);by_cases p1:0≤vs∧vs≤2147483647
    · rw [decide_eq_true p1] at aa;by_cases p3:0≤vn∧vn≤2147483647
      · (have q5:(64:Int)<(len:Int):=by omega);rw [decide_eq_true p3] at ac;clear hc;go_wp2_with fail;refine(aa.out _).mono ?_;rintro e w1 ⟨rfl,rfl⟩;go_wp2_with fail;refine(ac.out _).mono ?_;rintro e w1 ⟨rfl,rfl⟩;go_wp2_with fail;go_ret;exact⟨by rw [HQ.out];rfl,HA.out⟩
      · rw [decide_eq_false p3] at ac;clear hc;go_wp2_with fail;refine(aa.out _).mono ?_;rintro e w1 ⟨rfl,rfl⟩;go_wp2_with fail;refine(ac.out _).mono ?_;rintro e w1 ⟨rfl,rfl⟩;go_wp2_with fail;go_ret;exact⟨by rw [HQ.out];rfl,HA.out⟩
    · rw [decide_eq_false p1] at aa;clear hc;go_wp2_with fail;refine(aa.out _).mono ?_;rintro e w1 ⟨rfl,rfl⟩;go_wp2_with fail;go_ret;exact⟨by rw [HQ.out];rfl,HA.out⟩
theorem ZmW (w:World)(s:Sl)(v:Vw)(h:Gi (fun _=>True) w s v.act)(hs:s.len≤200)(x:Int) :
    Calls Tryz.prog 69 #[vwV v s,.int .i64 x] w fun e w'=>e=.returned (.bool (seesA v x))∧Below w.heap.size w w':=by
  obtain⟨vs,vn,t⟩:=v;have hA:=Zaa w (.cells #[.int .i64 vs,.int .i64 vn,s.val] 31);have HG:=hide (h.below hA (Nat.le_refl _));have HC:=hide (ZbJ _ s ⟨vs,vn,t⟩ HG.out hs);have HK:=hide (Zdt w ⟨vs,vn,t⟩ s);have HA:=hide hA;have HI:=hide (fun (W:World) (hb:Below (w.alloc (.cells #[.int .i64 vs,.int .i64 vn,s.val] 31)).heap.size (w.alloc (.cells #[.int .i64 vs,.int .i64 vn,s.val] 31)) W)=>ZfY W s t (HG.out.below hb (Nat.le_refl _)) x);obtain⟨r,hr⟩:∃r,r=seesA ⟨vs,vn,t⟩ x:=⟨_,rfl⟩;rw [← hr];obtain⟨m,hm⟩:∃m,m=decide (MayV ⟨vs,vn,t⟩):=⟨_,rfl⟩;rw [← hm] at HC;obtain⟨c,hc⟩:∃c,c=t.contains x:=⟨_,rfl⟩;rw [← hc] at HI;(have HR:Hid (r=(m && ((x == 0) || ((decide (0<x) && (x == vs)) || (decide (0<x) && (decide (x<vn) && !c)))))):=by show _=_;rw [hr,hm,hc];rfl);obtain⟨a,len,cap⟩:=s;clear h hs hA hr hm hc HG;unfold vwV Sl.val at *;simp only at *;go_enter Tryz.func69,Tryz.ntmps69;go_wp2_with fail;generalize w.alloc (.cells #[.int .i64 vs,.int .i64 vn,.slice a len cap] 31)=W0 at *;refine HC.out.mono ?_;rintro e w1 ⟨rfl,hb⟩;have HB:=hide (Zac HA.out hb);have ab:=hide (HI.out w1 hb);have hk:=HK.out.keep hb;have c0:=hk.c0;have c1:=hk.c1;have c2:=hk.c2;unfold Sl.val at c2;simp only at c0 c1 c2;clear hb hk HC HI HK;cases m with
  | false =>
   (have HQ:Hid (r=false):=by show _=_;rw [HR.out];rfl);unfold errV;simp only [Bool.false_eq_true,if_false];go_wp2_with fail;go_ret;exact⟨by rw [HQ.out];rfl,HB.out⟩
  | true =>
   unfold errV;simp only [if_true];by_cases h0:x<0
   · have HQ:Hid (r=false):=by
      show _=_;rw [HR.out,decide_eq_false (by omega:¬0<x),beq_eq_false_iff_ne.2 (by omega:x≠0)];rfl
     go_wp2_with fail;go_ret;exact⟨by rw [HQ.out];rfl,HB.out⟩
   · by_cases h1:x=0
     · (have HQ:Hid (r=true):=by show _=_;rw [HR.out,h1];rfl);subst h1;go_wp2_with fail;go_ret;exact⟨by rw [HQ.out];rfl,HB.out⟩
     · have b1:(x == 0)=false:=beq_eq_false_iff_ne.2 h1;(have hp:0<x:=by omega);by_cases h2:x=vs
       · have HQ:Hid (r=true):=by
          show _=_;rw [HR.out,decide_eq_true hp,← h2];simp
         subst h2;clear HR;go_wp2_with fail;go_ret;exact⟨by rw [HQ.out];rfl,HB.out⟩
       · have b2:(x == vs)=false:=beq_eq_false_iff_ne.2 h2;by_cases h3:x<vn
         · have HQ:Hid (r = !c):=by
            show _=_;rw [HR.out,decide_eq_true hp,decide_eq_true h3,b1,b2];simp
           clear HR;go_wp2_with fail;refine ab.out.mono ?_;rintro e w2 ⟨rfl,ac⟩;have aa:=hide (Zac HB.out ac);clear ac ab;cases c with
           | true =>
            go_wp2_with fail;go_ret;exact⟨by rw [HQ.out];rfl,aa.out⟩
           | false =>
            go_wp2_with fail;go_ret;exact⟨by rw [HQ.out];rfl,aa.out⟩
         · have HQ:Hid (r=false):=by
            show _=_;rw [HR.out,decide_eq_true hp,decide_eq_false h3,b1,b2];simp
           clear HR;go_wp2_with fail;go_ret;exact⟨by rw [HQ.out];rfl,HB.out⟩
end Go.Proofs.YtiecfcjlhldhdaaGreat
