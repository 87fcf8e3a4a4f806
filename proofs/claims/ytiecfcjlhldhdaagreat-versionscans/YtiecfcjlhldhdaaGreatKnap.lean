/-
  Lemmas.
-/
import Derived.Test.YtiecfcjlhldhdaaGreatKnao
import Derived.Test.YtiecfcjlhldhdaaGreatKnan
import Derived.Test.YtiecfcjlhldhdaaGreatKnak
import Derived.Test.YtiecfcjlhldhdaaGreatKnam
import Derived.Test.YtiecfcjlhldhdaaGreatKnal
namespace Go.Proofs.YtiecfcjlhldhdaaGreat
open Go.RowKit Go.Proofs.Tryz
set_option linter.unusedVariables false
set_option linter.unusedSimpArgs false
set_option maxRecDepth 100000
set_option maxHeartbeats 4000000
variable {w w0 w' wr W:World}{p i g off n:Nat}{q s vs:Sl}{y x:Rx}{b:Bool}{e:Int}{S:List Sx}{t pre:List Int}{A:Act}{z:Bz}{v:Vw}{x0:Rw}
def SxBlk (w:World) (p:Nat) (y:Sx):Prop:=w.heap[p]? = some (Obj.cells y.cells.toArray 118 (0,0))
theorem SxBlk.lt {y:Sx}(h:SxBlk w p y):p<w.heap.size:=(Array.getElem?_eq_some_iff.1 h).1
theorem SxBlk.keep {y:Sx}(h:SxBlk w p y)(hb:Bl w w'):SxBlk w' p y:=(hb.block p h.lt).trans h
theorem SxBlk.new (w:World)(y:Sx):SxBlk (w.alloc (.cells y.cells.toArray 118)) w.heap.size y:=heap_alloc_new w _
theorem SxBlk.c0 {y:Sx}(h:SxBlk w p y):w.cell? ⟨p,0,none⟩=some (.int .i64 (y.i:Nat)):=by unfold SxBlk at h;rw [cell_of_row _ _ _ _ _ _ h];rfl
theorem SxBlk.c1 {y:Sx}(h:SxBlk w p y):w.cell? ⟨p,1,none⟩=some (.int .i64 (y.k:Nat)):=by unfold SxBlk at h;rw [cell_of_row _ _ _ _ _ _ h];rfl
theorem SxBlk.c2 {y:Sx}(h:SxBlk w p y):w.cell? ⟨p,2,none⟩=some (.float .f64 y.x.r.key):=by unfold SxBlk at h;rw [cell_of_row _ _ _ _ _ _ h];rfl
theorem SxBlk.c3 {y:Sx}(h:SxBlk w p y):w.cell? ⟨p,3,none⟩=some (.bool y.x.r.dead):=by unfold SxBlk at h;rw [cell_of_row _ _ _ _ _ _ h];rfl
theorem SxBlk.c4 {y:Sx}(h:SxBlk w p y):w.cell? ⟨p,4,none⟩=some (.slice y.x.a y.x.n y.x.c):=by unfold SxBlk at h;rw [cell_of_row _ _ _ _ _ _ h];rfl
theorem SxBlk.c5 {y:Sx}(h:SxBlk w p y):w.cell? ⟨p,5,none⟩=some (.int .i64 y.x.r.wr):=by unfold SxBlk at h;rw [cell_of_row _ _ _ _ _ _ h];rfl
theorem SxBlk.c6 {y:Sx}(h:SxBlk w p y):w.cell? ⟨p,6,none⟩=some (.int .i64 y.x.r.cell):=by unfold SxBlk at h;rw [cell_of_row _ _ _ _ _ _ h];rfl
theorem SxBlk.c7 {y:Sx}(h:SxBlk w p y):w.cell? ⟨p,7,none⟩=some (.int .i64 y.x.r.no):=by unfold SxBlk at h;rw [cell_of_row _ _ _ _ _ _ h];rfl
structure SxAt (w:World) (b o:Nat) (y:Sx):Prop where
  c0:w.cell? ⟨b,o,none⟩=some (.int .i64 (y.i:Nat))
  c1:w.cell? ⟨b,o+1,none⟩=some (.int .i64 (y.k:Nat))
  c2:w.cell? ⟨b,o+2,none⟩=some (.float .f64 y.x.r.key)
  c3:w.cell? ⟨b,o+3,none⟩=some (.bool y.x.r.dead)
  c4:w.cell? ⟨b,o+4,none⟩=some (.slice y.x.a y.x.n y.x.c)
  c5:w.cell? ⟨b,o+5,none⟩=some (.int .i64 y.x.r.wr)
  c6:w.cell? ⟨b,o+6,none⟩=some (.int .i64 y.x.r.cell)
  c7:w.cell? ⟨b,o+7,none⟩=some (.int .i64 y.x.r.no)
theorem Zi0 {b o:Nat}{y:Sx}(h:SxAt w b o y):(Instr.loadAt 118 (.pointer (some ⟨b,o,none⟩))).run prog w=.ok y.val w:=by
 have c0:=h.c0;have c1:=h.c1;have c2:=h.c2;have c3:=h.c3;have c4:=h.c4;have c5:=h.c5;have c6:=h.c6;have c7:=h.c7;simp [go_sem,c0,c1,c2,c3,c4,c5,c6,c7,Sx.val]
theorem Zgx (b o len cap k:Nat)(hk:k<len)(w:World):(Instr.indexAt 114 (.slice (some ⟨b,o,none⟩) len cap) (.int .i64 (k:Nat))).run prog w=.ok (.pointer (some ⟨b,o+k*8,none⟩)) w:=by
 (have aa:prog.underlying 114=some (.slice (prog.elem 114)):=by kernel_rfl);(have h1:(0:Int)≤(k:Int):=by omega);simp [go_sem,Instr.indexAt,run_underlying aa,h1,Addr.add_lit];omega
theorem ZjJ (y:Sx)(w:World):(Instr.storeAt 118 (.pointer (some ⟨w.heap.size,0,none⟩)) y.val).run prog (w.alloc (.cells #[.int .i64 0,.int .i64 0,.float .f64 0,.bool false,.slice none 0 0,.int .i64 0,.int .i64 0,.int .i64 0] 118))=.ok () (w.alloc (.cells y.cells.toArray 118)):=by
 have aa:∀(w:World) (a:Addr) (m:Mode) (x:Nat),(store a (.float .f64 x) m).run prog w=stored prog w a (.float .f64 x) m:=fun w a m x=>run_store prog w a _ m rfl;simp [go_sem,Instr.storeAt,aa,Sx.val,Sx.cells]
theorem Std.cell (h:Std w0 w s S)(hi:i<S.length):∃b off,s.a=some ⟨b,off,none⟩∧SxAt w b (off+i*8) (S.getD i Sx.zero):=by
 rcases h.own.2 with ⟨rfl,h0⟩ | ⟨g,off,cur,ha,hg,ac,ab,aa,ht⟩
 · have:=congrArg List.length h0;rw [Zcy] at this;simp at this;omega
 · refine⟨g,off,ha,?_⟩;have hc:∀t,t<8→∀u,(S.getD i Sx.zero).cells[t]? = some u→w.cell? ⟨g,off+(i*8+t),none⟩=some u:=by
    intro t ht u hu;have:=h.own.cell ha (i*8+t) u (by rw [Zf5 S i t hi ht];exact hu);rw [Addr.add_lit] at this;exact this
   exact⟨hc 0 (by omega) _ rfl,hc 1 (by omega) _ rfl,hc 2 (by omega) _ rfl,hc 3 (by omega) _ rfl,hc 4 (by omega) _ rfl,hc 5 (by omega) _ rfl,hc 6 (by omega) _ rfl,hc 7 (by omega) _ rfl⟩
theorem Std.len (h:Std w0 w s S):S.length=s.len:=by have:=h.own.1;rw [Zcy] at this;omega
def Zc8 (w:World) (p:Nat) (k:Nat):Prop:=w.heap[p]? = some (Obj.cells #[.float .f64 k] 32 (0,0))
theorem Zc8.keep {k:Nat}(h:Zc8 w p k)(hb:Bl w w'):Zc8 w' p k:=(hb.block p (Array.getElem?_eq_some_iff.1 h).1).trans h
theorem Zc8.c0 {k:Nat}(h:Zc8 w p k):w.cell? ⟨p,0,none⟩=some (.float .f64 k):=(Zbo h).1
theorem Zn7 {a b:Nat}(ha:a<18446744073709551616)(hb:b<18446744073709551616):(cmp a b == 0)=(Fl.key a == Fl.key b):=by
 have h1:=Zg3 ha hb;have h2:=Zg3 hb ha;have e:(Fl.key a == Fl.key b)=decide (Fl.rk a=Fl.rk b):=by
  by_cases h:Fl.key a=Fl.key b
  · (have:Fl.rk a=Fl.rk b:=by unfold Fl.rk;rw [h]);rw [decide_eq_true this];exact beq_iff_eq.2 h
  · have:¬Fl.rk a=Fl.rk b:=fun e=>h (by rw [← Fl.of_rk a ha,← Fl.of_rk b hb,e]);rw [decide_eq_false this];exact beq_eq_false_iff_ne.2 h
 rw [e];unfold cmp;by_cases c1:Fl.less a b=true
 · have:=h1.1 c1;rw [if_pos c1,decide_eq_false (by omega)];rfl
 · by_cases c2:Fl.less b a=true
   · have:=h2.1 c2;rw [if_neg c1,if_pos c2,decide_eq_false (by omega)];rfl
   · have n1:¬Fl.rk a<Fl.rk b:=fun h=>c1 (h1.2 h);have n2:¬Fl.rk b<Fl.rk a:=fun h=>c2 (h2.2 h);rw [if_neg c1,if_neg c2,decide_eq_true (by omega)];rfl
def ofK (k:Nat) (y:Sx):Bool:=Fl.key y.x.r.key == Fl.key k
def inB (b:Bt) (y:Sx):Bool:=((y.i:Int) == b.1) && ((y.k:Int) == b.2)
theorem ZpP (w:World)(y:Sx)(g key:Nat)(hy:y.x.r.key<18446744073709551616)(hk:key<18446744073709551616)(hg:Zc8 w g key) :
    Calls prog 110 #[y.val,.pointer (some ⟨g,0,none⟩)] w fun e w'=>e=.returned (.bool (ofK key y))∧Bl w w':=by
  have hB:=Zab w (.cells y.cells.toArray 118);have hX:=SxBlk.new w y;have HB:=Zh hB;have g0:=(hg.keep hB).c0;have x2:=hX.c2;have ac:=Zn7 hy hk;have HC:=Zh (fun w=>ZeG y.x.r.key key hy hk w);have HR:Hi ((cmp y.x.r.key key == 0)=ofK key y):=ac;clear hB hX hg ac;generalize cmp y.x.r.key key=z at *;generalize ofK key y=r at *;unfold Sx.cells at *;unfold Sx.val at *;have aa:=HR.o;clear HR;cases hz:(z == 0) with
  | true =>
   have ab:z=0:=beq_iff_eq.1 hz;rw [hz] at aa;subst aa ab;go_enter func110,ntmps110;go_wp2_with fail;refine(HC.o _).mono ?_;rintro e w1 ⟨rfl,hw⟩;obtain rfl:=hw.symm;go_wp2;go_ret;exact⟨rfl,HB.o⟩
  | false =>
   (have ab:¬z=0:=fun e=>by rw [e] at hz;cases hz);rw [hz] at aa;subst aa;go_enter func110,ntmps110;go_wp2_with fail;refine(HC.o _).mono ?_;rintro e w1 ⟨rfl,hw⟩;obtain rfl:=hw.symm;go_wp2;go_ret;exact⟨by first | rfl | simp [hz] | simp [ab],HB.o⟩
def Zpk (w:World) (S:List Sx) (p:Sx→Bool) (e:Ending) (w':World):Prop:=
  ((∃i,∃hi:i<S.length,p S[i]=true∧(∀j (hj:j<i),p (S[j]'(by omega))=false)∧e=.returned (.int .i64 (i:Nat)))∨((∀j (hj:j<S.length),p S[j]=false)∧e=.returned (.int .i64 (-1))))∧Bl w w'
theorem ZnU (w0 w:World)(s:Sl)(S:List Sx)(h:Std w0 w s S)(hl:S.length≤100000)(g:Nat)(key:Nat)(hk:key<18446744073709551616)(hg:Zc8 w g key) :
    Calls prog 109 #[s.val,.func (.func 110) #[] #[.pointer (some ⟨g,0,none⟩)]] w (Zpk w S (ofK key)):=by
  obtain⟨a,len,cap⟩:=s;have HS:=Zh h;have HL:Hi (S.length=len):=h.len;(have hl':len≤100000:=by rw [← HL.o];exact hl);have HG:=Zh hg;clear h hl hg;unfold Sl.val;simp only;go_enter func109,ntmps109;go_wp2_with fail;go_loopw [8] (fun iv wr=>∃i:Nat,i≤len∧iv=.int .i64 (i:Nat)∧Hi (Bl w wr)∧Hi (∀j (hj:j<S.length),j<i→ofK key (S[j])=false)) (fun iv _=>len-(intOf iv).toNat)
  case atStart=>exact ⟨0,Nat.zero_le _,rfl,Below.refl _ _,fun _ _ h=>absurd h (Nat.not_lt_zero _)⟩
  case round =>
   obtain⟨i,hi,rfl,hW,ac⟩:=hrel;rcases Nat.lt_or_ge i len with ah | af
   · (have i1:(i:Int)<(len:Int):=by omega);(have ad:i<S.length:=by rw [HL.o];exact ah);obtain⟨bb,oo,ha,c0⟩:=(HS.o.keep hW.o).cell ad;replace ha:a=some ⟨bb,oo,none⟩:=ha;subst ha;(have af:S.getD i Sx.zero=S[i]:=by simp [List.getD,ad]);rw [af] at c0;have ae:=Zh (Zi0 c0);have ai:=Zh (Zgx bb oo len cap i ah);have ab:=HS.o.fits _ (List.getElem_mem ad);have ag:=Zh ad;have aa:=Zh (ZpP wr S[i] g key ab.key hk (HG.o.keep hW.o));generalize hy:S[i]=y at *;have HY:=Zh hy;clear c0 af ad ab hy;unfold Sx.val at ae aa;cases hp:ofK key y with
     | true =>
      rw [hp] at aa;have HP:=Zh hp;clear hp;go_wp2_with (first | refine Zah _ rfl 118 (.tmp 14) rfl (.pointer (some ⟨bb,oo+i*8,none⟩)) _ rfl ae.o ?_);refine aa.o.mono ?_;rintro e w1 ⟨rfl,hb⟩;have HB:=Zh (Zac hW.o hb);clear hb;go_wp2;go_ret;exact⟨.inl ⟨i,ag.o,(congrArg (ofK key) HY.o).trans HP.o,fun j hj=>ac.o j (Nat.lt_trans hj ag.o) hj,rfl⟩,HB.o⟩
     | false =>
      rw [hp] at aa;have HE:Hi (∀j (hj:j<S.length),j<i+1→ofK key (S[j])=false):=by
       intro j hj aj;by_cases e:j=i
       · subst e;exact (congrArg (ofK key) HY.o).trans hp
       · exact ac.o j hj (by omega)
      clear hp ac;go_wp2_with (first | refine Zah _ rfl 118 (.tmp 14) rfl (.pointer (some ⟨bb,oo+i*8,none⟩)) _ rfl ae.o ?_);refine aa.o.mono ?_;rintro e w1 ⟨rfl,hb⟩;have HB:=Zh (Zac hW.o hb);clear hb;go_wp2;go_roundw;exact ⟨i+1,by omega,by go_num,HB,HE⟩;simp only [intOf];omega
   · (have i1:¬(i:Int)<(len:Int):=by omega);have HE:Hi (∀j (hj:j<S.length),ofK key (S[j])=false):=fun j hj=>ac.o j hj (by rw [HL.o] at hj;omega);clear ac;go_wp2;go_ret;exact⟨.inr ⟨HE.o,rfl⟩,hW.o⟩
def setSx (w:World) (g:Nat) (y:Sx):World:=(((((((w.setCell ⟨g,0,none⟩ (.int .i64 (y.i:Nat))).setCell ⟨g,1,none⟩ (.int .i64 (y.k:Nat))).setCell ⟨g,2,none⟩ (.float .f64 y.x.r.key)).setCell ⟨g,3,none⟩ (.bool y.x.r.dead)).setCell ⟨g,4,none⟩ (.slice y.x.a y.x.n y.x.c)).setCell ⟨g,5,none⟩ (.int .i64 y.x.r.wr)).setCell ⟨g,6,none⟩ (.int .i64 y.x.r.cell)).setCell ⟨g,7,none⟩ (.int .i64 y.x.r.no)
theorem ZhQ {y0:Sx}(h:SxBlk w g y0)(y:Sx):SxBlk (setSx w g y) g y:=by
 have h1:=heap_setCell_same w g 0 _ 118 (.int .i64 (y.i:Nat)) h;have h2:=heap_setCell_same _ g 1 _ 118 (.int .i64 (y.k:Nat)) h1;have h3:=heap_setCell_same _ g 2 _ 118 (.float .f64 y.x.r.key) h2;have h4:=heap_setCell_same _ g 3 _ 118 (.bool y.x.r.dead) h3;have h5:=heap_setCell_same _ g 4 _ 118 (.slice y.x.a y.x.n y.x.c) h4;have h6:=heap_setCell_same _ g 5 _ 118 (.int .i64 y.x.r.wr) h5;have h7:=heap_setCell_same _ g 6 _ 118 (.int .i64 y.x.r.cell) h6;have h8:=heap_setCell_same _ g 7 _ 118 (.int .i64 y.x.r.no) h7;unfold SxBlk setSx;rw [h8];simp [Sx.cells]
theorem ZhR (w:World)(g:Nat)(y:Sx):Frm (fun k=>k=g) w (setSx w g y):=
 ((((((((Frm.refl (fun k=>k=g) w).setCell (p:=⟨g,0,none⟩) rfl _).setCell (p:=⟨g,1,none⟩) rfl _).setCell (p:=⟨g,2,none⟩) rfl _).setCell (p:=⟨g,3,none⟩) rfl _).setCell (p:=⟨g,4,none⟩) rfl _).setCell (p:=⟨g,5,none⟩) rfl _).setCell (p:=⟨g,6,none⟩) rfl _).setCell (p:=⟨g,7,none⟩) rfl _
theorem SxBlk.fz {y:Sx}(h:SxBlk w p y)(t:Nat):w.frozen? ⟨p,t,none⟩=false:=by
 unfold SxBlk at h;simp [World.frozen?,h]
theorem Zr6 {y0:Sx}(h:SxBlk w p y0)(y:Sx):(Instr.storeAt 118 (.pointer (some ⟨p,0,none⟩)) y.val).run prog w=.ok () (setSx w p y):=by
 have aa:∀(w:World) (a:Addr) (m:Mode) (x:Nat),(store a (.float .f64 x) m).run prog w=stored prog w a (.float .f64 x) m:=fun w a m x=>run_store prog w a _ m rfl;have c0:=h.c0;have c1:=h.c1;have c2:=h.c2;have c3:=h.c3;have c4:=h.c4;have c5:=h.c5;have c6:=h.c6;have c7:=h.c7;have f0:=h.fz;simp [go_sem,Instr.storeAt,stored,aa,c0,c1,c2,c3,c4,c5,c6,c7,f0,Sx.val,setSx]
theorem Zfn {fn:Func}{x y:Nat}(hr:fn.results=#[.cell x 118,.tmp y]){z:Sx}(h:SxBlk W g z)(tmps:Array Value)(u:Value)(tx:tmps.getD x undef=.pointer (some ⟨g,0,none⟩))(ty:tmps.getD y undef=u) :
    (results fn tmps).run prog W=.ok (.tuple #[z.val,u]) W:=by
  have c0:=h.c0;have c1:=h.c1;have c2:=h.c2;have c3:=h.c3;have c4:=h.c4;have c5:=h.c5;have c6:=h.c6;have c7:=h.c7;(have tx2:tmps[x]?.getD undef=.pointer (some ⟨g,0,none⟩):=by simpa using tx);(have ty2:tmps[y]?.getD undef=u:=by simpa using ty);simp [results,hr,tx2,ty2,go_sem,c0,c1,c2,c3,c4,c5,c6,c7,Sx.val]
theorem ZnM {p:Sx→Bool}(hi:i<S.length)(hp:p S[i]=true)(hn:∀j,(hj:j<i)→p (S[j]'(by omega))=false):S.find? p=some S[i]:=by
 induction S generalizing i with
 | nil=>exact absurd hi (Nat.not_lt_zero _)
 | cons x l ih =>
  cases i with
  | zero =>
   simp only [List.getElem_cons_zero] at hp ⊢;rw [List.find?_cons,hp]
  | succ i =>
   have h0:p x=false:=hn 0 (Nat.zero_lt_succ _);rw [List.find?_cons,h0];simp only [List.getElem_cons_succ] at hp ⊢;exact ih (by simpa using hi) hp (fun j hj=>hn (j+1) (Nat.succ_lt_succ hj))
theorem ZlM {p:Sx→Bool}(hn:∀j,(hj:j<S.length)→p S[j]=false):S.find? p=none:=by
 rw [List.find?_eq_none];intro x hx;obtain⟨j,hj,rfl⟩:=List.getElem_of_mem hx;rw [hn j hj];decide
def Ze8 (w:World) (r:Option Sx) (e:Ending) (w':World):Prop:=
  (e=.returned (match r with | some y=>.tuple #[y.val,.bool true] | none=>.tuple #[Sx.zero.val,.bool false]))∧Bl w w'
theorem Zkq (w0 w:World)(s:Sl)(S:List Sx)(h:Std w0 w s S)(hl:S.length≤100000)(g:Nat)(key:Nat)(hk:key<18446744073709551616)(hg:Zc8 w g key) :
    Calls prog 67 #[s.val,.func (.func 110) #[] #[.pointer (some ⟨g,0,none⟩)]] w (Ze8 w (S.find? (ofK key))):=by
  obtain⟨a,len,cap⟩:=s;have hB:=Zab w (.cells #[.int .i64 0,.int .i64 0,.float .f64 0,.bool false,.slice none 0 0,.int .i64 0,.int .i64 0,.int .i64 0] 118);have hX:SxBlk (w.alloc (.cells #[.int .i64 0,.int .i64 0,.float .f64 0,.bool false,.slice none 0 0,.int .i64 0,.int .i64 0,.int .i64 0] 118)) w.heap.size Sx.zero:=SxBlk.new w Sx.zero;have hS:=h.keep hB;have HL:Hi (S.length=len):=h.len;(have hl':len≤100000:=by rw [← HL.o];exact hl);have HI:=Zh (ZnU w0 _ ⟨a,len,cap⟩ S hS hl g key hk (hg.keep hB));have HB:=Zh hB;have HX:=Zh hX;have HS:=Zh hS;clear h hB hX hS hl;unfold Sl.val at *;simp only at *;go_enter func67,ntmps67;go_wp2_with fail;generalize w.alloc (.cells #[.int .i64 0,.int .i64 0,.float .f64 0,.bool false,.slice none 0 0,.int .i64 0,.int .i64 0,.int .i64 0] 118)=W0 at *;refine HI.o.mono ?_;rintro e w1 ⟨hi,hb⟩;have aa:=Zh (Zac HB.o hb);have ab:=Zh (HX.o.keep hb);have ah:=Zh (HS.o.keep hb);clear hb HI;rcases hi with ⟨i,hi,hp,hn,rfl⟩ | ⟨hn,rfl⟩
  · have HF:Hi (S.find? (ofK key)=some S[i]):=ZnM hi hp hn;obtain⟨b,o,ha,c0⟩:=ah.o.cell hi;replace ha:a=some ⟨b,o,none⟩:=ha;subst ha;(have af:S.getD i Sx.zero=S[i]:=by simp [List.getD,hi]);rw [af] at c0;(have ai:i<len:=by rw [← HL.o];exact hi);(have i0:¬(i:Int)<0:=by omega);(have i1:(i:Int)<(len:Int):=by omega);have ag:=Zh (Zi0 c0);have aj:=Zh (Zgx b o len cap i ai);generalize S[i]=y at *;have ad:=Zh (Zr6 ab.o y);have ae:=Zh (ZhQ ab.o y);have ac:Hi (Bl w (setSx w1 w.heap.size y)):=aa.o.trans ((ZhR w1 w.heap.size y).below aa.o.size (fun k hk=>by rw [hk];exact Nat.le_refl _));generalize setSx w1 w.heap.size y=W2 at *;clear c0 af hp hn hi;go_wp2_with (first | refine Zah _ rfl 118 (.tmp 15) rfl (.pointer (some ⟨b,o+i*8,none⟩)) _ rfl ag.o ?_ | refine Zad _ rfl rfl 118 (.tmp 4) (.tmp 16) rfl (.pointer (some ⟨w.heap.size,0,none⟩)) _ rfl rfl W2 ad.o ?_);refine bodyPost_ret (Zfn rfl ae.o _ _ rfl rfl) rfl ?_;refine⟨?_,ac.o⟩;rw [HF.o];rfl
  · have HF:Hi (S.find? (ofK key)=none):=ZlM hn;have ad:=Zh (Zr6 ab.o Sx.zero);have ae:=Zh (ZhQ ab.o Sx.zero);have ac:Hi (Bl w (setSx w1 w.heap.size Sx.zero)):=aa.o.trans ((ZhR w1 w.heap.size Sx.zero).below aa.o.size (fun k hk=>by rw [hk];exact Nat.le_refl _));generalize setSx w1 w.heap.size Sx.zero=W2 at *;clear hn;go_wp2_with (first | refine Zad _ rfl rfl 118 (.tmp 4) (.tmp 12) rfl (.pointer (some ⟨w.heap.size,0,none⟩)) (Sx.zero.val) rfl rfl W2 ad.o ?_);refine bodyPost_ret (Zfn rfl ae.o _ _ rfl rfl) rfl ?_;refine⟨?_,ac.o⟩;rw [HF.o];rfl
theorem Zmz (w:World)(key:Nat):Calls prog 68 #[.float .f64 key] w fun e w'=>(∃g,e=.returned (.func (.func 110) #[] #[.pointer (some ⟨g,0,none⟩)])∧Zc8 w' g key)∧Bl w w':=by
 have HK:Hi (Zc8 (w.alloc (.cells #[.float .f64 key] 32)) w.heap.size key):=heap_alloc_new w _;have HB:=Zh (Zab w (.cells #[.float .f64 key] 32));go_enter func68,ntmps68;go_wp2;go_ret;exact⟨⟨_,rfl,HK.o⟩,HB.o⟩
theorem Zge.one {l:List Lf}{e:Ending}(h:Zge w0 l e w'):∃(s:Sl)(S:List Sx)(k:Int),e=.returned (.tuple #[s.val,.int .i64 k])∧Std w0 w' s S∧((MayH l∧k=0∧S.map Sx.hr=allH l)∨(¬MayH l∧k=1∧S=[])):=by
 rcases h with ⟨hm,s,S,he,hs,hr⟩ | ⟨hm,he,hb⟩
 · exact⟨s,S,0,he,hs,.inl ⟨hm,rfl,hr⟩⟩
 · exact⟨⟨none,0,0⟩,[],1,he,⟨⟨rfl,.inl ⟨rfl,rfl⟩⟩,(fun k hk=>by cases hk),hb,(fun y hy=>by cases hy),fun y hy=>by cases hy⟩,.inr ⟨hm,rfl,rfl⟩⟩
theorem MayH.len {l:List Lf}(h:MayH l)(e:S.map Sx.hr=allH l):S.length≤62*64:=by
 have:=congrArg List.length e;rw [List.length_map] at this;rw [this];have h3:=ZbI l 0 (fun f hf=>(h.leaf f hf).slots.1);have:l.length*64≤62*64:=Nat.mul_le_mul_right _ h.few;exact Nat.le_trans h3 this
theorem Zkt (w:World)(s:Sl)(L:List Lb)(h:Gl (fun _=>True) w s L):Calls prog 35 #[s.val] w fun e w'=>Zpi (lfs L) e∧Bl w w':=by
 have HO:=Zh (ZgC w s L h);obtain⟨a,len,cap⟩:=s;clear h;unfold Sl.val at *;simp only at *;go_enter func35,ntmps35;go_wp2_with fail;refine HO.o.mono ?_;intro e w1 ho;obtain⟨⟨sa,sn,sc⟩,S,k,rfl,hs,hk⟩:=ho.one;have HK:=Zh hk;have HB:=Zh hs.below;clear ho hs hk HO;unfold Sl.val;simp only;go_wp2;go_ret;refine⟨?_,HB.o⟩;rcases HK.o with ⟨hm,rfl,_⟩ | ⟨hm,rfl,_⟩
 · exact .inl ⟨hm,rfl⟩
 · exact .inr ⟨hm,rfl⟩
theorem SxBlk.rw {y:Sx}(h:SxBlk w p y):RwAt w p 2 y.x:=⟨h.c2,h.c3,h.c4,h.c5,h.c6,h.c7⟩
theorem Zpx (g:Nat)(w:World):(Instr.fieldAt 118 (.pointer (some ⟨g,0,none⟩)) 1).run prog w=.ok (.pointer (some ⟨g,2,none⟩)) w:=by simp [go_sem,Instr.fieldAt]
theorem Zpw (g:Nat)(w:World):(Instr.fieldAt 118 (.pointer (some ⟨g,0,none⟩)) 0).run prog w=.ok (.pointer (some ⟨g,0,none⟩)) w:=by simp [go_sem,Instr.fieldAt]
theorem ZqJ (B:Nat)(W0 V w:World)(g p q:Nat)(x:Rx)(y:Bt)(r:Bool)(hW:FS B W0 V g 2 g 0 p q x y w)
    {Q:Exit→Act→World→Prop}(aj:A.tmps.size=28)(af:A.defers=[])(s9:A.tmps.getD 9 undef=.pointer (some ⟨g,0,none⟩))(s10:A.tmps.getD 10 undef=.bool r)(s4:A.tmps.getD 4 undef=.pointer (some ⟨p,0,none⟩))(s5:A.tmps.getD 5 undef=.pointer (some ⟨q,0,none⟩))
    (hend:∀(u:Nat→Value) w',RwBlk w' p x.r (.slice x.a x.n x.c)→BtBlk w' q y→Below B W0 w'→Frm (fun k=>k=p∨k=q) V w'→Q .normal ((Pl.pu A u [23,24,25,26,27]).put (some 6) (.bool r)) w') :
    Pl.rg prog 3 f31 Q A w:=by
  have aa:FS B W0 V g 2 g 0 p q x y w.drew:=hW.drew;have hA:=Pl.At.same (v:=.pointer (some ⟨q,0,none⟩)) (d:=5) (Pl.At.same (v:=.pointer (some ⟨p,0,none⟩)) (d:=4) (Pl.At.same (v:=.bool r) (d:=10) (Pl.At.same (v:=.pointer (some ⟨g,0,none⟩)) (d:=9) (Pl.At.here aj af) s9) s10) s4) s5;refine Pl.qb (S:=(FS B W0 V g 2 g 0 p q x y)) hA aa ?_;rw [show (Pl.fd 3 f31).size=8 by kernel_rfl];refine Pl.q0 0 23 (.pointer (some ⟨g,2,none⟩)) (Pl.q1) (Pl.q6 118 (.tmp 9) 1 (Zpx g)) aa ?_;refine Pl.q0 1 24 (x.val) (Pl.q1) (Pl.q4 39 (.tmp 23) (fun w' hS=>Zbl g 2 x w' hS.rx)) aa ?_;refine Pl.q0 2 25 (.pointer (some ⟨g,0,none⟩)) (Pl.q1) (Pl.q6 118 (.tmp 9) 0 (Zpw g)) aa ?_;refine Pl.q0 3 26 (btV y) (Pl.q1) (Pl.q4 67 (.tmp 25) (fun w' hS=>Zmo hS.y0 hS.y1)) aa ?_;refine Pl.q0 4 27 (.bool r) (Pl.q1) (Pl.q2 (.tmp 10)) aa ?_;obtain⟨W1,ac,ae,ag⟩:=aa.row;refine Pl.ql 5 W1 (Pl.q1) (Pl.qm 39 (.tmp 4) (.tmp 24) ac) ae ?_;obtain⟨W2,ad,ab,ah,ai⟩:=ae.bt ag;refine Pl.ql 6 W2 (Pl.q1) (Pl.qm 67 (.tmp 5) (.tmp 26) ad) ab ?_;refine Pl.q0 7 6 (.bool r) (Pl.q1) (Pl.qd (.tmp 27)) ab ?_;refine Pl.q8 (fun A' hA'=>?_);exact Pl.en hA' hA [23,24,25,26,27,6] (hend hA'.fn _ ah ai ab.e ab.f)
def orZ (r:Option Sx):Sx:=r.getD Sx.zero
theorem Ze8.one {r:Option Sx}{e:Ending}(h:Ze8 w r e w'):e=.returned (.tuple #[(orZ r).val,.bool r.isSome])∧Bl w w':=by
 obtain⟨h1,h2⟩:=h;refine⟨?_,h2⟩;rw [h1];cases r <;> rfl
def Zls (w:World) (l:List Lf) (key:Nat) (e:Ending) (w':World):Prop:=
  Bl w w'∧∃S:List Sx,((MayH l∧S.map Sx.hr=allH l)∨(¬MayH l∧S=[]))∧e=.returned (.tuple #[(orZ (S.find? (ofK key))).x.val,btV (((orZ (S.find? (ofK key))).i:Nat),((orZ (S.find? (ofK key))).k:Nat)),.bool (S.find? (ofK key)).isSome])∧∀y∈S,ColF w' y.x∧y.x.r.fits
theorem ZlU (w:World)(s:Sl)(L:List Lb)(key:Nat)(h:Gl (fun _=>True) w s L)(ai:key<18446744073709551616) :
    Calls prog 31 #[s.val,.float .f64 key] w (Zls w (lfs L) key):=by
  have bm:∀(w:World) (a:Addr) (m:Mode) (x:Nat),(store a (.float .f64 x) m).run prog w=stored prog w a (.float .f64 x) m:=fun w a m x=>run_store prog w a _ m rfl;have aq:=Zab w (.cells #[.float .f64 0,.bool false,.slice none 0 0,.int .i64 0,.int .i64 0,.int .i64 0] 39);have ah:=Zab (w.alloc (.cells #[.float .f64 0,.bool false,.slice none 0 0,.int .i64 0,.int .i64 0,.int .i64 0] 39)) (.cells #[.int .i64 0,.int .i64 0] 67);have hX:RwBlk ((w.alloc (.cells #[.float .f64 0,.bool false,.slice none 0 0,.int .i64 0,.int .i64 0,.int .i64 0] 39)).alloc (.cells #[.int .i64 0,.int .i64 0] 67)) w.heap.size zeroR (.slice none 0 0):=(Zai w zeroR (.slice none 0 0)).keep ah;have hY:BtBlk ((w.alloc (.cells #[.float .f64 0,.bool false,.slice none 0 0,.int .i64 0,.int .i64 0,.int .i64 0] 39)).alloc (.cells #[.int .i64 0,.int .i64 0] 67)) (w.heap.size+1) (0,0):=by
   have:=Zbv (w.alloc (.cells #[.float .f64 0,.bool false,.slice none 0 0,.int .i64 0,.int .i64 0,.int .i64 0] 39)) (0,0);rwa [Zae] at this
  obtain⟨W0,ab⟩:∃W0,W0=(w.alloc (.cells #[.float .f64 0,.bool false,.slice none 0 0,.int .i64 0,.int .i64 0,.int .i64 0] 39)).alloc (.cells #[.int .i64 0,.int .i64 0] 67):=⟨_,rfl⟩;rw [← ab] at hX hY;(have an:Hi (Bl w W0):=by rw [ab];exact Zac aq ah);(have au:W0.heap.size=w.heap.size+2:=by rw [ab,Zae,Zae]);have HX:=Zh hX;have HY:=Zh hY;have HO:=Zh (ZgC W0 s L (h.below an.o (Nat.le_refl _)));have bb:=Zh au;have bh:=Zh ab;obtain⟨a,len,cap⟩:=s;clear h aq ah hX hY ab au;unfold Sl.val at *;simp only at *;go_enter func31,ntmps31;go_wp2_with fail;rw [← bh.o];refine HO.o.mono ?_;intro e w1 ho;obtain⟨⟨sa,sn,sc⟩,S,k,rfl,hs,hk⟩:=ho.one;have HK:Hi ((MayH (lfs L)∧S.map Sx.hr=allH (lfs L))∨(¬MayH (lfs L)∧S=[])):=by
   rcases hk with ⟨h1,_,h2⟩ | ⟨h1,_,h2⟩
   · exact .inl ⟨h1,h2⟩
   · exact .inr ⟨h1,h2⟩
  have ba:Hi (S.length≤100000):=by
   rcases HK.o with ⟨h1,h2⟩ | ⟨h1,h2⟩
   · exact Nat.le_trans (h1.len h2) (by decide)
   · rw [h2];exact Nat.zero_le _
  have be:=Zh (Zac an.o hs.below);have bi:=Zh (HX.o.keep hs.below);have bk:=Zh (HY.o.keep hs.below);have al:=Zh hs;(have bd:Hi (w.heap.size+2≤w1.heap.size):=by show _≤_;rw [← bb.o];exact hs.below.size);have ak:=Zh (Zmz w1 key);clear ho hs hk HO;unfold Sl.val;simp only;go_wp2_with fail;refine ak.o.mono ?_;rintro e w2 ⟨⟨g,rfl,hg⟩,hb⟩;have ac:=Zh (Zkq W0 w2 ⟨sa,sn,sc⟩ S (al.o.keep hb) ba.o g key ai hg);have bc:=Zh (al.o.keep hb);have bf:=Zh (Zac be.o hb);have bj:=Zh (bi.o.keep hb);have bl:=Zh (bk.o.keep hb);have af:Hi (w.heap.size+2≤w2.heap.size):=Nat.le_trans bd.o hb.size;clear hg hb ak;unfold Sl.val at ac;simp only at ac;go_wp2_with fail;refine ac.o.mono ?_;intro e w3 hf;obtain⟨rfl,hb⟩:=hf.one;obtain⟨z,hz⟩:∃z,z=orZ (S.find? (ofK key)):=⟨_,rfl⟩;obtain⟨r,hr⟩:∃r,r=(S.find? (ofK key)).isSome:=⟨_,rfl⟩;rw [← hz,← hr];have HZ:=Zh hz;have HR:=Zh hr;have aj:=Zab w3 (.cells z.cells.toArray 118);have aa:=Zac hb aj;have am:=Zh (bc.o.keep aa);have bg:=Zh (Zac bf.o aa);have ao:=Zh (bj.o.keep aa);have ap:=Zh (bl.o.keep aa);have ag:Hi (w.heap.size+2≤w3.heap.size):=Nat.le_trans af.o hb.size;have ae:=Zh (SxBlk.new w3 z);have ad:=Zh (ZjJ z w3);generalize w3.alloc (.cells z.cells.toArray 118)=W4 at *;have ax:Hi (FS w.heap.size w W4 w3.heap.size 2 w3.heap.size 0 w.heap.size (w.heap.size+1) z.x ((z.i:Nat),(z.k:Nat)) W4):=
   ⟨ae.o.rw,ae.o.c0,ae.o.c1,⟨_,_,ao.o⟩,⟨_,ap.o⟩,bg.o,Frm.refl _ _,by have:=ag.o;refine ⟨?_,?_,?_,?_,?_,?_,?_⟩ <;> omega⟩
  clear hf hb hz hr aj aa ac;go_upto_region 3 with (first | refine Zad _ rfl rfl 118 (.tmp 9) (.tmp 21) rfl (.pointer (some ⟨w3.heap.size,0,none⟩)) _ rfl rfl W4 ad.o ?_);refine Pl.q9 (ops:=Pl.fd 3 f31) ?_;refine ZqJ w.heap.size w W4 W4 w3.heap.size w.heap.size (w.heap.size+1) z.x ((z.i:Nat),(z.k:Nat)) r ax.o (by rfl) (by rfl) (by rfl) (by rfl) (by rfl) (by rfl) ?_;intro u w5 k1 k2 hb ar;simp only [Pl.pu,List.foldl,Act.put,List.setIfInBounds_toArray,List.set];have ay:=Zh k1;have az:=Zh k2;have av:=Zh hb;have aw:Hi (∀y∈S,ColF w5 y.x∧y.x.r.fits):=fun y hy=>⟨(am.o.flt y hy).frm ar (fun k hk C fr hc=>by
   rcases hk with rfl | rfl
   · have:=ao.o;rw [RwBlk,hc] at this;simp only [Option.some.injEq,Obj.cells.injEq] at this;exact absurd this.2.1 (by decide)
   · have:=ap.o;rw [BtBlk,hc] at this;simp only [Option.some.injEq,Obj.cells.injEq] at this;exact absurd this.2.1 (by decide)),am.o.fits y hy⟩
  clear k1 k2 hb ar;go_wp2;refine bodyPost_ret (ZcF rfl ay.o az.o _ _ rfl rfl rfl) rfl ?_;refine⟨av.o,S,HK.o,?_,aw.o⟩;rw [← HZ.o,← HR.o];rfl
theorem Zpu {l:List Hr}(e:S.map Sx.hr=l)(p:Hr→Bool):l.find? p=(S.find? (fun y=>p y.hr)).map Sx.hr:=by
 subst e;rw [List.find?_map];rfl
theorem ZlV (w:World)(s:Sl)(L:List Lb)(key:Nat)(h:Gl (fun _=>True) w s L)(ab:key<18446744073709551616)(hm:MayH (lfs L)):Calls prog 31 #[s.val,.float .f64 key] w (Zjf w (lfs L) key):=by
 refine(ZlU w s L key h ab).mono ?_;rintro e w' ⟨hb,S,hS,rfl,hc⟩;rcases hS with ⟨_,hr⟩ | ⟨hn,_⟩
 · have hg:findH (lfs L) key=(S.find? (ofK key)).map Sx.hr:=Zpu hr _;refine⟨hb,fun hn=>?_,fun r aa=>?_⟩
   · rw [hg] at hn;cases hq:S.find? (ofK key) with
     | none=>rfl
     | some y=>rw [hq] at hn;cases hn
   · rw [hg] at aa;cases hq:S.find? (ofK key) with
     | none=>rw [hq] at aa;cases aa
     | some y =>
      rw [hq] at aa;cases aa;have hy:=hc y (List.mem_of_find?_eq_some hq);exact⟨hy.2,y.x,rfl,rfl,hy.1⟩
 · exact absurd hm hn
theorem ZqD:∀args w,(callFunc 33 args).run prog w=.ok (.enter 33 args) w:=Pl.qi func33
theorem ZqE:∀args w,(callFunc 34 args).run prog w=.ok (.enter 34 args) w:=Pl.qi func34
theorem ZqF:∀args w,(callFunc 35 args).run prog w=.ok (.enter 35 args) w:=Pl.qi func35
theorem ZqG:∀args w,(callFunc 36 args).run prog w=.ok (.enter 36 args) w:=Pl.qi func36
theorem ZlK:∀args w,(callFunc 29 args).run prog w=.ok (.enter 29 args) w:=Pl.qi func29
theorem Zq5 (w:World)(g:Nat)(z:Bz)(a b c m:Int)(hg:BsBlk w g z)(hT:∀W,Bl w W→Calls prog 33 #[z.t.val z.es] W fun e w'=>e=.returned (.int .i64 a)∧Bl W w')(hU:∀W,Bl w W→Calls prog 34 #[.slice z.cs.a z.cs.len z.cs.cap] W fun e w'=>e=.returned (.int .i64 b)∧Bl W w')(hL:∀W,Bl w W→Calls prog 35 #[.slice z.ls.a z.ls.len z.ls.cap] W fun e w'=>e=.returned (.int .i64 c)∧Bl W w')(hP:∀W,Bl w W→Calls prog 36 #[z.val] W fun e w'=>e=.returned (.int .i64 m)∧Bl W w')
    {Q:Exit→Act→World→Prop}(an:A.tmps.size=16)(am:A.defers=[])(s1:A.tmps.getD 1 undef=.pointer (some ⟨g,0,none⟩))
    (hend:∀(u:Nat→Value) w',Bl w w'→Q .normal ((Pl.pu A u [3,4,6,7,9,10,12,5,8,11,13,14,15]).put (some 2) (.int .i64 (orN [a,b,c,m]))) w') :
    Pl.rg prog 1 f10 Q A w:=by
  have aa:Bl w w.drew:=Zaa w;have hA:=Pl.At.same (v:=.pointer (some ⟨g,0,none⟩)) (d:=1) (Pl.At.here an am) s1;refine Pl.qb (S:=fun w'=>Bl w w') hA aa ?_;rw [show (Pl.fd 1 f10).size=14 by kernel_rfl];refine Pl.q0 0 3 (.pointer (some ⟨g,0,none⟩)) (Pl.q1) (Pl.q6 28 (.tmp 1) 0 (ZrJ g)) aa ?_;refine Pl.q0 1 4 (z.t.val z.es) (Pl.q1) (Pl.q4 24 (.tmp 3) (fun w' hS=>Zof (hg.keep hS))) aa ?_;refine Pl.q0 3 6 (.pointer (some ⟨g,4,none⟩)) (Pl.q1) (Pl.q6 28 (.tmp 1) 1 (Zpp g)) aa ?_;refine Pl.q0 4 7 (.slice z.cs.a z.cs.len z.cs.cap) (Pl.q1) (Pl.q4 25 (.tmp 6) (fun w' hS=>ldCs (hg.keep hS).c4)) aa ?_;refine Pl.q0 6 9 (.pointer (some ⟨g,5,none⟩)) (Pl.q1) (Pl.q6 28 (.tmp 1) 2 (Zpq g)) aa ?_;refine Pl.q0 7 10 (.slice z.ls.a z.ls.len z.ls.cap) (Pl.q1) (Pl.q4 26 (.tmp 9) (fun w' hS=>ldLs (hg.keep hS).c5)) aa ?_;refine Pl.q0 9 12 (z.val) (Pl.q1) (Pl.q4 28 (.tmp 1) (fun w' hS=>Zg4 (hg.keep hS))) aa ?_;refine Pl.qe 2 5 33 [(.tmp 4)] #[24] (Pl.q1) ZqD (Calls.mono (hT _ aa) ?_);rintro e w2 ⟨rfl,aj⟩;have ae:Bl w w2:=Zac aa aj;refine⟨.int .i64 a,rfl,ae,?_⟩;refine Pl.qe 5 8 34 [(.tmp 7)] #[25] (Pl.q1) ZqE (Calls.mono (hU _ ae) ?_);rintro e w5 ⟨rfl,ak⟩;have af:Bl w w5:=Zac ae ak;refine⟨.int .i64 b,rfl,af,?_⟩;refine Pl.qe 8 11 35 [(.tmp 10)] #[26] (Pl.q1) ZqF (Calls.mono (hL _ af) ?_);rintro e w8 ⟨rfl,al⟩;have ag:Bl w w8:=Zac af al;refine⟨.int .i64 c,rfl,ag,?_⟩;refine Pl.qe 10 13 36 [(.tmp 12)] #[28] (Pl.q1) ZqG (Calls.mono (hP _ ag) ?_);rintro e w10 ⟨rfl,ah⟩;have ab:Bl w w10:=Zac ag ah;refine⟨.int .i64 m,rfl,ab,?_⟩;have ad:Bl w (w10.alloc (.cells #[.int .i64 a,.int .i64 b,.int .i64 c,.int .i64 m] 40)):=Zac ab (Zab w10 _);refine Pl.qf 11 14 (.slice (some ⟨w10.heap.size,0,none⟩) 4 4) (w10.alloc (.cells #[.int .i64 a,.int .i64 b,.int .i64 c,.int .i64 m] 40)) (Pl.q1) (Pl.bsV 11 112 4 [(0,.tmp 5),(1,.tmp 8),(2,.tmp 11),(3,.tmp 13)] _ _ (by kernel_rfl) (by decide) (Zsb w10 a b c m)) ad ?_;refine Pl.qe 12 15 29 [(.tmp 14)] #[112] (Pl.q1) ZlK (Calls.mono (ZpQ w10 a b c m) ?_);rintro e w12 ⟨rfl,ai⟩;have ac:Bl w w12:=Zac ab ai;refine⟨.int .i64 (orN [a,b,c,m]),rfl,ac,?_⟩;refine Pl.q0 13 2 (.int .i64 (orN [a,b,c,m])) (Pl.q1) (Pl.qd (.tmp 15)) ac ?_;refine Pl.q8 (fun A' hA'=>?_);exact Pl.en hA' hA [3,4,6,7,9,10,12,5,8,11,13,14,15,2] (hend hA'.fn _ ac)
theorem Zb0 (w:World)(z:Bz)(h:Bin w z):Calls prog 10 #[z.val] w fun e w'=>Zie z.b e∧Bl w w':=by
 have hA:=Zab w (.cells #[.int .i64 z.t.nx,.int .i64 z.t.no,.int .i64 z.t.cm,.slice z.es.a z.es.len z.es.cap,.slice z.cs.a z.cs.len z.cs.cap,.slice z.ls.a z.ls.len z.ls.cap] 28);have ab:=ZaU w z;obtain⟨W0,hW⟩:∃W,w.alloc (.cells #[.int .i64 z.t.nx,.int .i64 z.t.no,.int .i64 z.t.cm,.slice z.es.a z.es.len z.es.cap,.slice z.cs.a z.cs.len z.cs.cap,.slice z.ls.a z.ls.len z.ls.cap] 28)=W:=⟨_,rfl⟩;rw [hW] at hA ab;have ad:=Zh hW;have ah:=Zh ab;have HA:=Zh hA;have HH:=Zh (h.keep hA);obtain⟨hl,ac⟩:∃c:Bool,c=true↔MayH (lfs z.lb):=by
  by_cases hm:MayH (lfs z.lb)
  · exact⟨true,fun _=>hm,fun _=>rfl⟩
  · exact⟨false,fun e=>(by cases e),fun e=>absurd e hm⟩
 have HT:Hi (∀W,Bl W0 W→Calls prog 33 #[z.t.val z.es] W fun e w'=>e=.returned (.int .i64 (chk (mayB z.t)))∧Bl W w'):=fun W hb=>Zn5 z.t z.es (chk (mayB z.t)) W (HH.o.keep hb).es (by cases mayB z.t <;> rfl);have HU:Hi (∀W,Bl W0 W→Calls prog 34 #[.slice z.cs.a z.cs.len z.cs.cap] W fun e w'=>e=.returned (.int .i64 (chk (MayU (uns z.ux))))∧Bl W w'):=fun W hb=>ZfC z.cs.a z.cs.len z.cs.cap z.ux W (HH.o.keep hb).cs (by have:=h.cb;omega);have HL:Hi (∀W,Bl W0 W→Calls prog 35 #[.slice z.ls.a z.ls.len z.ls.cap] W fun e w'=>e=.returned (.int .i64 (chk hl))∧Bl W w'):=fun W hb=>(Zkt W z.ls z.lb (HH.o.keep hb).ls).mono fun e w' k=>by
  refine⟨?_,k.2⟩;rcases k.1 with ⟨k1,k2⟩ | ⟨k1,k2⟩
  · rw [k2,ac.2 k1];rfl
  · cases hl with
    | false=>exact k2
    | true=>exact absurd (ac.1 rfl) k1
 have HP:Hi (∀W,Bl W0 W→Calls prog 36 #[z.val] W fun e w'=>e=.returned (.int .i64 (chk (!((uns z.ux).findIdx? (fun y:Un=>decide ((z.ls.len:Int)≤y.page))).isSome)))∧Bl W w'):=fun W hb=>ZkU W z (HH.o.keep hb);have HR:Hi (Zie z.b (.returned (.int .i64 (orN [chk (mayB z.t),chk (MayU (uns z.ux)),chk hl,chk (!((uns z.ux).findIdx? (fun y:Un=>decide ((z.ls.len:Int)≤y.page))).isSome)])))):=by
  (have ae:(lfs z.lb).length=z.ls.len:=by rw [lfs,List.length_map];exact h.ls.len);have hp:=Zm3 (uns z.ux) z.ls.len;rw [Zon];show (MayBs z.b∧_)∨(¬MayBs z.b∧_);have aa:(mayB z.t && MayU (uns z.ux) && hl && !((uns z.ux).findIdx? (fun y:Un=>decide ((z.ls.len:Int)≤y.page))).isSome)=true↔MayBs z.b:=by
   simp only [Bool.and_eq_true,Bool.not_eq_true',ac,hp];constructor
   · rintro ⟨⟨⟨h1,h2⟩,h3⟩,h4⟩;exact⟨fun i hi=>by show _<(((lfs z.lb).length:Nat):Int);rw [ae];exact h4 i hi,Zey.1 h1,h2,h3⟩
   · intro k;refine⟨⟨⟨Zey.2 k.t,k.u⟩,k.l⟩,fun i hi=>?_⟩;have h4:_<(((lfs z.lb).length:Nat):Int):=k.pg i hi;rw [ae] at h4;exact h4
  generalize (mayB z.t && MayU (uns z.ux) && hl && !((uns z.ux).findIdx? (fun y:Un=>decide ((z.ls.len:Int)≤y.page))).isSome)=m at *;cases m with
  | true=>exact .inl ⟨aa.1 rfl,rfl⟩
  | false=>exact .inr ⟨fun k=>Bool.noConfusion (aa.2 k),rfl⟩
 clear h hW ab hA;unfold Bz.val;go_enter func10,ntmps10;go_wp2_with fail;rw [ad.o];clear ad;refine Pl.q9 (ops:=Pl.fd 1 f10) ?_;refine Zq5 W0 w.heap.size z _ _ _ _ ah.o HT.o HU.o HL.o HP.o (by rfl) rfl (by rfl) ?_;intro u1 w1 af;simp only [Pl.pu,List.foldl,Act.put,List.setIfInBounds_toArray,List.set];have ag:=Zh (Zac HA.o af);clear af HT HU HL HP HH;go_wp2;go_ret;exact⟨HR.o,ag.o⟩
theorem Zkz {D:Nat→Prop}(w:World)(s:Sl)(t:List Int)(h:Gi D w s t)(x:Int) :
    Calls prog 144 #[s.val,.int .i64 x] w fun e w'=>∃k:Int,e=.returned (.int .i64 k)∧decide (0≤k)=t.contains x∧Bl w w':=by
  obtain⟨a,len,cap⟩:=s;have H:=Zh h;have HL:Hi (t.length=len):=h.len;have ad:len≤1000000:=h.big;have H0:=Zh (Below.refl w.heap.size w);obtain⟨r,hr⟩:∃r,r=t.contains x:=⟨_,rfl⟩;rw [← hr];have HR:=Zh hr;clear h hr;unfold Sl.val;simp only;go_enter func144,ntmps144;go_wp2_with fail;go_loopw [8] (fun iv wr=>wr=w∧∃i:Nat,i≤len∧iv=.int .i64 (i:Nat)∧Hi (∀j,j<i→t.getD j 0≠x)) (fun iv _=>len-(intOf iv).toNat)
  case atStart=>exact ⟨rfl,0,Nat.zero_le _,rfl,fun j hj=>absurd hj (Nat.not_lt_zero _)⟩
  case round =>
   obtain⟨rfl,i,hi,rfl,aa⟩:=hrel;rcases Nat.lt_or_ge i len with ab | ae
   · (have i1:(i:Int)<(len:Int):=by omega);obtain⟨bb,oo,ha,c0⟩:=H.o.cell i ab;replace ha:a=some ⟨bb,oo,none⟩:=ha;subst ha;obtain⟨y,hy⟩:∃y,y=t.getD i 0:=⟨_,rfl⟩;rw [← hy] at c0;by_cases ac:x=y
     · have HE:Hi (r=true):=HR.o.trans (ZdX (i:=i) (by rw [HL.o];exact ab) (by rw [← hy,ac]));clear hy aa;go_wp2;go_ret;exact⟨_,rfl,by rw [HE.o];simp,H0.o⟩
     · have HN:Hi (∀j,j<i+1→t.getD j 0≠x):=by
        intro j hj;by_cases e:j=i
        · rw [e,← hy];exact fun e2=>ac e2.symm
        · exact aa.o j (by omega)
       clear hy aa;go_wp2;go_roundw;exact ⟨trivial,i+1,by omega,by go_num,HN⟩;simp only [intOf];omega
   · (have i1:¬(i:Int)<(len:Int):=by omega);have HE:Hi (r=false):=HR.o.trans (ZeH (fun j hj=>aa.o j (by rw [HL.o] at hj;omega)));clear aa;go_wp2;go_ret;exact⟨_,rfl,by rw [HE.o];rfl,H0.o⟩
theorem Zgq {D:Nat→Prop}(w:World)(s:Sl)(t:List Int)(h:Gi D w s t)(x:Int) :
    Calls prog 111 #[s.val,.int .i64 x] w fun e w'=>e=.returned (.bool (t.contains x))∧Bl w w':=by
  have HI:=Zh (Zkz w s t h x);obtain⟨r,hr⟩:∃r,r=t.contains x:=⟨_,rfl⟩;rw [← hr] at HI ⊢;obtain⟨a,len,cap⟩:=s;clear h hr;unfold Sl.val at *;simp only at *;go_enter func111,ntmps111;go_wp2_with fail;refine HI.o.mono ?_;rintro e w1 ⟨k,rfl,hk,hb⟩;have HB:=Zh hb;have HK:=Zh hk;clear hb hk HI;go_wp2;go_ret;exact⟨by rw [← HK.o];rfl,HB.o⟩
def errV (ok:Bool):Int:=if ok then 0 else 1
theorem Zec (w:World)(n:Int) :
    Calls prog 65 #[.int .i64 n] w fun e w'=>e=.returned (.bool (decide (0≤n∧n≤2147483647)))∧w'=w:=by
  go_enter func65,ntmps65;by_cases h0:0≤n
  · by_cases h1:n≤2147483647
    · rw [decide_eq_true (show 0≤n∧n≤2147483647 from ⟨h0,h1⟩)];go_wp2;go_ret;exact⟨rfl,rfl⟩
    · rw [decide_eq_false (show ¬(0≤n∧n≤2147483647) from fun h=>h1 h.2)];go_wp2;go_ret;exact⟨rfl,rfl⟩
  · rw [decide_eq_false (show ¬(0≤n∧n≤2147483647) from fun h=>h0 h.1)];go_wp2;go_ret;exact⟨rfl,rfl⟩
def lastV (t:List Int) (i:Nat):Int:=if i=0 then 0 else t.getD (i-1) 0
theorem Zk6 (t:List Int)(i:Nat):lastV t (i+1)=t.getD i 0:=by simp [lastV]
theorem ZbL (w:World)(s:Sl)(v:Vw)(h:Gi (fun _=>True) w s v.act)(hs:s.len≤200) :
    Calls prog 30 #[vwV v s] w fun e w'=>e=.returned (.int .i64 (errV (decide (MayV v))))∧Bl w w':=by
  obtain⟨a,len,cap⟩:=s;obtain⟨vs,vn,t⟩:=v;have hA:=Zab w (.cells #[.int .i64 vs,.int .i64 vn,.slice a len cap] 31);have H:=Zh (h.below hA (Nat.le_refl _));have HL:Hi (t.length=len):=h.len;have al:len≤1000000:=h.big;have HA:=Zh hA;obtain⟨r,hr⟩:∃r,r=errV (decide (MayV ⟨vs,vn,t⟩)):=⟨_,rfl⟩;rw [← hr];have HR:=Zh hr;(have HN:Hi (¬MayV ⟨vs,vn,t⟩→r=1):=fun hm=>by rw [hr,decide_eq_false hm];rfl);(have HY:Hi (MayV ⟨vs,vn,t⟩→r=0):=fun hm=>by rw [hr,decide_eq_true hm];rfl);clear h hA hr hs;unfold vwV Sl.val;simp only at H ⊢;go_enter func30,ntmps30;have aa:=Zh (fun W=>Zec W vs);have ac:=Zh (fun W=>Zec W vn);by_cases hc:(0≤vs∧vs≤2147483647)∧(0≤vn∧vn≤2147483647)∧len≤64
  · obtain⟨p1,p3,p5⟩:=hc;(have q5:¬(64:Int)<(len:Int):=by omega);rw [decide_eq_true p1] at aa;rw [decide_eq_true p3] at ac;go_wp2_with fail;refine(aa.o _).mono ?_;rintro e w1 ⟨rfl,rfl⟩;go_wp2_with fail;refine(ac.o _).mono ?_;rintro e w1 ⟨rfl,rfl⟩;go_wp2_with fail;clear aa ac;go_loopw [3,25] (fun lv iv wr=>wr=w.alloc (.cells #[.int .i64 vs,.int .i64 vn,.slice a len cap] 31)∧∃i:Nat,i≤len∧iv=.int .i64 (i:Nat)∧lv=.int .i64 (lastV t i)∧Hi (0≤lastV t i)∧Hi (∀j,j<i→(1≤t.getD j 0∧t.getD j 0<vn∧t.getD j 0≠vs)∧(0<j→t.getD (j-1) 0<t.getD j 0))) (fun _ iv _=>len-(intOf iv).toNat)
    case atStart=>exact ⟨rfl,0,Nat.zero_le _,rfl,rfl,Int.le_refl _,fun j hj=>absurd hj (Nat.not_lt_zero _)⟩
    case round =>
     obtain⟨rfl,i,hi,rfl,rfl,ae,ab⟩:=hrel;rcases Nat.lt_or_ge i len with ag | am
     · (have i1:(i:Int)<(len:Int):=by omega);obtain⟨bb,oo,ha,c0⟩:=H.o.cell i ag;replace ha:a=some ⟨bb,oo,none⟩:=ha;subst ha;have af:=Zk6 t i;obtain⟨y,hy⟩:∃y,y=t.getD i 0:=⟨_,rfl⟩;rw [← hy] at c0 af;have ah:=Zh af;obtain⟨l,hl⟩:∃l,l=lastV t i:=⟨_,rfl⟩;rw [← hl] at ae ⊢;have ad:=Zh hy;have ai:=Zh hl;clear af hy hl;by_cases hg:l<y∧y<vn∧y≠vs
       · obtain⟨g1,g2,g3⟩:=hg;(have q6:¬y≤l:=by omega);(have q7:¬y ≥ vn:=by omega);have q8:(y == vs)=false:=beq_eq_false_iff_ne.2 g3;have ak:Hi (∀j,j<i+1→(1≤t.getD j 0∧t.getD j 0<vn∧t.getD j 0≠vs)∧(0<j→t.getD (j-1) 0<t.getD j 0)):=by
          intro j hj;by_cases e:j=i
          · subst e;have:=ae.o;refine⟨⟨by rw [← ad.o];omega,by rw [← ad.o];exact g2,by rw [← ad.o];exact g3⟩,fun h0=>?_⟩;have h9:=ai.o;unfold lastV at h9;rw [if_neg (by omega)] at h9;rw [← h9,← ad.o];exact g1
          · exact ab.o j (by omega)
         (have aj:Hi (0≤lastV t (i+1)):=by show 0≤_;rw [ah.o];have:=ae.o;omega);clear ab ae g3;go_wp2;go_roundw;exact ⟨trivial,i+1,by omega,by go_num,by rw [ah.o],aj,ak⟩;simp only [intOf];omega
       · have HQ:Hi (r=1):=HN.o (fun m=>by
          have m1:=m.2.2.2.1 i (by show i<t.length;rw [HL.o];exact ag);have m2:=m.2.2.2.2 i (by show i<t.length;rw [HL.o];exact ag);simp only [← ad.o] at m1 m2;refine hg ⟨?_,m1.2.1,m1.2.2⟩;have h9:=ai.o;unfold lastV at h9;split at h9
          · omega
          · have:=m2 (by omega);omega)
         by_cases e1:y≤l
         · clear hg ab;go_wp2;go_ret;exact⟨by rw [HQ.o];rfl,HA.o⟩
         · by_cases e2:y ≥ vn
           · clear hg ab;go_wp2;go_ret;exact⟨by rw [HQ.o];rfl,HA.o⟩
           · have e3:(y == vs)=true:=by
              (have:y=vs:=by omega);rw [this];exact beq_self_eq_true _
             clear hg ab;go_wp2;go_ret;exact⟨by rw [HQ.o];rfl,HA.o⟩
     · (have i1:¬(i:Int)<(len:Int):=by omega);have HQ:Hi (r=0):=HY.o (by
        show (0≤vs∧vs≤2147483647)∧(0≤vn∧vn≤2147483647)∧t.length≤64∧(∀i,i<t.length→1≤t.getD i 0∧t.getD i 0<vn∧t.getD i 0≠vs)∧∀i,i<t.length→0<i→t.getD (i-1) 0<t.getD i 0;have hl:=HL.o;exact⟨p1,p3,by omega,fun j hj=>(ab.o j (by omega)).1,fun j hj h0=>(ab.o j (by omega)).2 h0⟩)
       clear ab;go_wp2;go_ret;exact⟨by rw [HQ.o];rfl,HA.o⟩
  · have HQ:Hi (r=1):=HN.o (fun m=>hc ⟨m.1,m.2.1,by have:=HL.o;have:t.length≤64:=m.2.2.1;omega⟩);by_cases p1:0≤vs∧vs≤2147483647
    · rw [decide_eq_true p1] at aa;by_cases p3:0≤vn∧vn≤2147483647
      · (have q5:(64:Int)<(len:Int):=by omega);rw [decide_eq_true p3] at ac;clear hc;go_wp2_with fail;refine(aa.o _).mono ?_;rintro e w1 ⟨rfl,rfl⟩;go_wp2_with fail;refine(ac.o _).mono ?_;rintro e w1 ⟨rfl,rfl⟩;go_wp2;go_ret;exact⟨by rw [HQ.o];rfl,HA.o⟩
      · rw [decide_eq_false p3] at ac;clear hc;go_wp2_with fail;refine(aa.o _).mono ?_;rintro e w1 ⟨rfl,rfl⟩;go_wp2_with fail;refine(ac.o _).mono ?_;rintro e w1 ⟨rfl,rfl⟩;go_wp2;go_ret;exact⟨by rw [HQ.o];rfl,HA.o⟩
    · rw [decide_eq_false p1] at aa;clear hc;go_wp2_with fail;refine(aa.o _).mono ?_;rintro e w1 ⟨rfl,rfl⟩;go_wp2;go_ret;exact⟨by rw [HQ.o];rfl,HA.o⟩
theorem Znr (w:World)(s:Sl)(v:Vw)(h:Gi (fun _=>True) w s v.act)(hs:s.len≤200)(x:Int) :
    Calls prog 69 #[vwV v s,.int .i64 x] w fun e w'=>e=.returned (.bool (seesA v x))∧Bl w w':=by
  obtain⟨vs,vn,t⟩:=v;have hA:=Zab w (.cells #[.int .i64 vs,.int .i64 vn,s.val] 31);have HG:=Zh (h.below hA (Nat.le_refl _));have HC:=Zh (ZbL _ s ⟨vs,vn,t⟩ HG.o hs);have HK:=Zh (ZbJ w ⟨vs,vn,t⟩ s);have HA:=Zh hA;have HI:=Zh (fun (W:World) (hb:Below (w.alloc (.cells #[.int .i64 vs,.int .i64 vn,s.val] 31)).heap.size (w.alloc (.cells #[.int .i64 vs,.int .i64 vn,s.val] 31)) W)=>Zgq W s t (HG.o.below hb (Nat.le_refl _)) x);obtain⟨r,hr⟩:∃r,r=seesA ⟨vs,vn,t⟩ x:=⟨_,rfl⟩;rw [← hr];obtain⟨m,hm⟩:∃m,m=decide (MayV ⟨vs,vn,t⟩):=⟨_,rfl⟩;rw [← hm] at HC;obtain⟨c,hc⟩:∃c,c=t.contains x:=⟨_,rfl⟩;rw [← hc] at HI;(have HR:Hi (r=(m && ((x == 0) || ((decide (0<x) && (x == vs)) || (decide (0<x) && (decide (x<vn) && !c)))))):=by show _=_;rw [hr,hm,hc];rfl);obtain⟨a,len,cap⟩:=s;clear h hs hA hr hm hc HG;unfold vwV Sl.val at *;simp only at *;go_enter func69,ntmps69;go_wp2_with fail;generalize w.alloc (.cells #[.int .i64 vs,.int .i64 vn,.slice a len cap] 31)=W0 at *;refine HC.o.mono ?_;rintro e w1 ⟨rfl,hb⟩;have HB:=Zh (Zac HA.o hb);have ab:=Zh (HI.o w1 hb);have hk:=HK.o.keep hb;have c0:=hk.c0;have c1:=hk.c1;have c2:=hk.c2;unfold Sl.val at c2;simp only at c0 c1 c2;clear hb hk HC HI HK;cases m with
  | false =>
   (have HQ:Hi (r=false):=by show _=_;rw [HR.o];rfl);unfold errV;simp only [Bool.false_eq_true,if_false];go_wp2;go_ret;exact⟨by rw [HQ.o];rfl,HB.o⟩
  | true =>
   unfold errV;simp only [if_true];by_cases h0:x<0
   · have HQ:Hi (r=false):=by
      show _=_;rw [HR.o,decide_eq_false (by omega:¬0<x),beq_eq_false_iff_ne.2 (by omega:x≠0)];rfl
     go_wp2;go_ret;exact⟨by rw [HQ.o];rfl,HB.o⟩
   · by_cases h1:x=0
     · (have HQ:Hi (r=true):=by show _=_;rw [HR.o,h1];rfl);subst h1;go_wp2;go_ret;exact⟨by rw [HQ.o];rfl,HB.o⟩
     · have b1:(x == 0)=false:=beq_eq_false_iff_ne.2 h1;(have hp:0<x:=by omega);by_cases h2:x=vs
       · have HQ:Hi (r=true):=by
          show _=_;rw [HR.o,decide_eq_true hp,← h2];simp
         subst h2;clear HR;go_wp2;go_ret;exact⟨by rw [HQ.o];rfl,HB.o⟩
       · have b2:(x == vs)=false:=beq_eq_false_iff_ne.2 h2;by_cases h3:x<vn
         · have HQ:Hi (r = !c):=by
            show _=_;rw [HR.o,decide_eq_true hp,decide_eq_true h3,b1,b2];simp
           clear HR;go_wp2_with fail;refine ab.o.mono ?_;rintro e w2 ⟨rfl,ac⟩;have aa:=Zh (Zac HB.o ac);clear ac ab;cases c with
           | true =>
            go_wp2;go_ret;exact⟨by rw [HQ.o];rfl,aa.o⟩
           | false =>
            go_wp2;go_ret;exact⟨by rw [HQ.o];rfl,aa.o⟩
         · have HQ:Hi (r=false):=by
            show _=_;rw [HR.o,decide_eq_true hp,decide_eq_false h3,b1,b2];simp
           clear HR;go_wp2;go_ret;exact⟨by rw [HQ.o];rfl,HB.o⟩
def lkV (y:Rx) (b:Bool) (q:Sl) (e:Int):Value:=.agg #[.float .f64 y.r.key,.bool y.r.dead,.slice y.a y.n y.c,.int .i64 y.r.wr,.int .i64 y.r.cell,.int .i64 y.r.no,.bool b,.slice q.a q.len q.cap,.int .i64 e]
def LkBlk (w:World) (p:Nat) (y:Rx) (b:Bool) (q:Sl) (e:Int):Prop:=w.heap[p]? = some (Obj.cells #[.float .f64 y.r.key,.bool y.r.dead,.slice y.a y.n y.c,.int .i64 y.r.wr,.int .i64 y.r.cell,.int .i64 y.r.no,.bool b,.slice q.a q.len q.cap,.int .i64 e] 75 (0,0))
theorem LkBlk.lt (h:LkBlk w p y b q e):p<w.heap.size:=(Array.getElem?_eq_some_iff.1 h).1
theorem LkBlk.keep (h:LkBlk w p y b q e)(hb:Bl w w'):LkBlk w' p y b q e:=(hb.block p h.lt).trans h
theorem LkBlk.frm {F:Nat→Prop}(h:LkBlk w p y b q e)(hf:Frm F w w')(hn:¬F p):LkBlk w' p y b q e:=(hf.block p h.lt hn).trans h
theorem LkBlk.fz (h:LkBlk w p y b q e)(o:Nat):w.frozen? ⟨p,o,none⟩=false:=frozen_of_row w p _ _ 75 h
theorem Zh0 (w:World)(y:Rx)(b:Bool)(q:Sl)(e:Int):LkBlk (w.alloc (.cells #[.float .f64 y.r.key,.bool y.r.dead,.slice y.a y.n y.c,.int .i64 y.r.wr,.int .i64 y.r.cell,.int .i64 y.r.no,.bool b,.slice q.a q.len q.cap,.int .i64 e] 75)) w.heap.size y b q e:=heap_alloc_new w _
theorem LkBlk.c0 (h:LkBlk w p y b q e):w.cell? ⟨p,0,none⟩=some (.float .f64 y.r.key):=by unfold LkBlk at h;simp [World.cell?,h]
theorem LkBlk.c1 (h:LkBlk w p y b q e):w.cell? ⟨p,1,none⟩=some (.bool y.r.dead):=by unfold LkBlk at h;simp [World.cell?,h]
theorem LkBlk.c2 (h:LkBlk w p y b q e):w.cell? ⟨p,2,none⟩=some (.slice y.a y.n y.c):=by unfold LkBlk at h;simp [World.cell?,h]
theorem LkBlk.c3 (h:LkBlk w p y b q e):w.cell? ⟨p,3,none⟩=some (.int .i64 y.r.wr):=by unfold LkBlk at h;simp [World.cell?,h]
theorem LkBlk.c4 (h:LkBlk w p y b q e):w.cell? ⟨p,4,none⟩=some (.int .i64 y.r.cell):=by unfold LkBlk at h;simp [World.cell?,h]
theorem LkBlk.c5 (h:LkBlk w p y b q e):w.cell? ⟨p,5,none⟩=some (.int .i64 y.r.no):=by unfold LkBlk at h;simp [World.cell?,h]
theorem LkBlk.c6 (h:LkBlk w p y b q e):w.cell? ⟨p,6,none⟩=some (.bool b):=by unfold LkBlk at h;simp [World.cell?,h]
theorem LkBlk.c7 (h:LkBlk w p y b q e):w.cell? ⟨p,7,none⟩=some (.slice q.a q.len q.cap):=by unfold LkBlk at h;simp [World.cell?,h]
theorem LkBlk.c8 (h:LkBlk w p y b q e):w.cell? ⟨p,8,none⟩=some (.int .i64 e):=by unfold LkBlk at h;simp [World.cell?,h]
def setLk (w:World) (p:Nat) (y:Rx) (b:Bool) (q:Sl) (e:Int):World:=(((((((((w.setCell ⟨p,0,none⟩ (.float .f64 y.r.key)).setCell ⟨p,1,none⟩ (.bool y.r.dead)).setCell ⟨p,2,none⟩ (.slice y.a y.n y.c)).setCell ⟨p,3,none⟩ (.int .i64 y.r.wr)).setCell ⟨p,4,none⟩ (.int .i64 y.r.cell)).setCell ⟨p,5,none⟩ (.int .i64 y.r.no)).setCell ⟨p,6,none⟩ (.bool b)).setCell ⟨p,7,none⟩ (.slice q.a q.len q.cap)).setCell ⟨p,8,none⟩ (.int .i64 e))
theorem ZhP (w:World)(p:Nat)(y:Rx)(b:Bool)(q:Sl)(e:Int):Frm (fun k=>k=p) w (setLk w p y b q e):=((((((((((Frm.refl (fun k=>k=p) w).setCell (p:=⟨p,0,none⟩) rfl _).setCell (p:=⟨p,1,none⟩) rfl _).setCell (p:=⟨p,2,none⟩) rfl _).setCell (p:=⟨p,3,none⟩) rfl _).setCell (p:=⟨p,4,none⟩) rfl _).setCell (p:=⟨p,5,none⟩) rfl _).setCell (p:=⟨p,6,none⟩) rfl _).setCell (p:=⟨p,7,none⟩) rfl _).setCell (p:=⟨p,8,none⟩) rfl _)
theorem ZhO {y0:Rx}{b0:Bool}{q0:Sl}{e0:Int}(h:LkBlk w p y0 b0 q0 e0)(y:Rx)(b:Bool)(q:Sl)(e:Int):LkBlk (setLk w p y b q e) p y b q e:=by
 have h1:=heap_setCell_same w p 0 _ 75 (.float .f64 y.r.key) h;have h2:=heap_setCell_same _ p 1 _ 75 (.bool y.r.dead) h1;have h3:=heap_setCell_same _ p 2 _ 75 (.slice y.a y.n y.c) h2;have h4:=heap_setCell_same _ p 3 _ 75 (.int .i64 y.r.wr) h3;have h5:=heap_setCell_same _ p 4 _ 75 (.int .i64 y.r.cell) h4;have h6:=heap_setCell_same _ p 5 _ 75 (.int .i64 y.r.no) h5;have h7:=heap_setCell_same _ p 6 _ 75 (.bool b) h6;have h8:=heap_setCell_same _ p 7 _ 75 (.slice q.a q.len q.cap) h7;have h9:=heap_setCell_same _ p 8 _ 75 (.int .i64 e) h8;unfold LkBlk setLk;rw [h9];simp
theorem Zr4 (w:World)(p:Nat){y0:Rx}{b0:Bool}{q0:Sl}{e0:Int}(k:LkBlk w p y0 b0 q0 e0)(y:Rx)(b:Bool)(q:Sl)(e:Int):(Instr.storeAt 75 (.pointer (some ⟨p,0,none⟩)) (lkV y b q e)).run prog w=.ok () (setLk w p y b q e):=by
 have aa:∀(w:World) (a:Addr) (m:Mode) (x:Nat),(store a (.float .f64 x) m).run prog w=stored prog w a (.float .f64 x) m:=fun w a m x=>run_store prog w a _ m rfl;have c0:=k.c0;have c1:=k.c1;have c2:=k.c2;have c3:=k.c3;have c4:=k.c4;have c5:=k.c5;have c6:=k.c6;have c7:=k.c7;have c8:=k.c8;have f0:=k.fz;simp [go_sem,Instr.storeAt,stored,aa,c0,c1,c2,c3,c4,c5,c6,c7,c8,f0,lkV,setLk]
theorem ZoO (w:World)(y:Rx)(b:Bool)(q:Sl)(e:Int):∃W,(Instr.storeAt 75 (.pointer (some ⟨w.heap.size,0,none⟩)) (lkV y b q e)).run prog (w.alloc (.cells #[.float .f64 0,.bool false,.slice none 0 0,.int .i64 0,.int .i64 0,.int .i64 0,.bool false,.slice none 0 0,.int .i64 0] 75))=.ok () W∧LkBlk W w.heap.size y b q e∧Bl w W:=by
 have hz:LkBlk (w.alloc (.cells #[.float .f64 0,.bool false,.slice none 0 0,.int .i64 0,.int .i64 0,.int .i64 0,.bool false,.slice none 0 0,.int .i64 0] 75)) w.heap.size Rx.zero false Sl.nil 0:=Zh0 w Rx.zero false Sl.nil 0;have hA:=Zab w (.cells #[.float .f64 0,.bool false,.slice none 0 0,.int .i64 0,.int .i64 0,.int .i64 0,.bool false,.slice none 0 0,.int .i64 0] 75);exact⟨_,Zr4 _ _ hz y b q e,ZhO hz y b q e,hA.trans ((ZhP _ _ y b q e).below hA.size (fun k hk=>by rw [hk];exact Nat.le_refl _))⟩
theorem ZbF {fn:Func}{x:Nat}(hr:fn.results=#[.cell x 75])(h:LkBlk W g y b q e)(tmps:Array Value)(tx:tmps.getD x undef=.pointer (some ⟨g,0,none⟩)) :
    (results fn tmps).run prog W=.ok (lkV y b q e) W:=by
  have c0:=h.c0;have c1:=h.c1;have c2:=h.c2;have c3:=h.c3;have c4:=h.c4;have c5:=h.c5;have c6:=h.c6;have c7:=h.c7;have c8:=h.c8;(have tx2:tmps[x]?.getD undef=.pointer (some ⟨g,0,none⟩):=by simpa using tx);simp [results,hr,tx2,go_sem,c0,c1,c2,c3,c4,c5,c6,c7,c8,lkV]
def Zjg (w0 w:World) (o:Option Rw × List Int × Int) (e:Ending) (w':World):Prop:=Bl w w'∧∃(y:Rx) (q:Sl),e=.returned (lkV y o.1.isSome q o.2.2)∧y.r=o.1.getD zeroR∧ColR w0 w' y∧y.r.fits∧Gi (fun k=>w.heap.size≤k) w' q o.2.1
structure LkI (w0 w wr:World) (z:Bz) (v:Vw) (vs:Sl) (x0:Rw) (i:Nat) (q:Sl) (x:Rx) (pre:List Int):Prop where
  vw:ZaG wr w.heap.size v vs
  row:RwBlk wr (w.heap.size+1) x.r (.slice x.a x.n x.c)
  res:LkBlk wr (w.heap.size+1+1) Rx.zero false Sl.nil 0
  col:ColR w0 wr x
  fit:x.r.fits
  nq:Nq w wr q pre
  len:pre.length=i
  look:(vnB (uns z.ux) v).look 400 x0=(((vnB (uns z.ux) v).look (400-i) x.r).1,pre ++ ((vnB (uns z.ux) v).look (400-i) x.r).2.1,((vnB (uns z.ux) v).look (400-i) x.r).2.2)
theorem LkI.keep (h:LkI w0 w wr z v vs x0 i q x pre)(hb:Bl wr w'):LkI w0 w w' z v vs x0 i q x pre:=
 ⟨h.vw.keep hb,h.row.keep hb,h.res.keep hb,h.col.keep hb,h.fit,h.nq.keep hb,h.len,h.look⟩
structure LkJ (w0 w wr:World) (z:Bz) (v:Vw) (vs:Sl) (x0:Rw) (i:Nat) (q:Sl) (x:Rx) (pre:List Int):Prop where
  vw:ZaG wr w.heap.size v vs
  row:RwBlk wr (w.heap.size+1) x.r (.slice x.a x.n x.c)
  res:LkBlk wr (w.heap.size+1+1) Rx.zero false Sl.nil 0
  nq:Nq w wr q (pre ++ [x.r.wr])
  len:pre.length=i
  look:(vnB (uns z.ux) v).look 400 x0=(((vnB (uns z.ux) v).look (400-i) x.r).1,pre ++ ((vnB (uns z.ux) v).look (400-i) x.r).2.1,((vnB (uns z.ux) v).look (400-i) x.r).2.2)
theorem LkJ.keep (h:LkJ w0 w wr z v vs x0 i q x pre)(hb:Bl wr w'):LkJ w0 w w' z v vs x0 i q x pre:=
 ⟨h.vw.keep hb,h.row.keep hb,h.res.keep hb,h.nq.keep hb,h.len,h.look⟩
theorem LkI.app (h:LkI w0 w wr z v vs x0 i q x pre)(hi:i≤400)(hw:w0.heap.size≤w.heap.size) :
    ∃q' W,(∀ty,(Builtin.append_ #[29,29] ty #[q.val,.slice (some ⟨wr.heap.size,0,none⟩) 1 1]).run prog (wr.alloc (.cells #[.int .i64 x.r.wr] 3))=.ok q'.val W)∧LkJ w0 w W z v vs x0 i q' x pre∧Bl w W:=by
  have hb:=Zab wr (.cells #[.int .i64 x.r.wr] 3);have k:=h.keep hb;(have hl:q.len=i:=by rw [← OwnN.len h.nq.own];exact h.len);obtain⟨q',W,ab,ac,aa,ad⟩:=k.nq.app ((ZoT wr x.r.wr).src) (by show q.len+1≤_;omega);have hB:Bl w W:=ac.below;refine⟨q',W,ab,⟨k.vw.frm aa (k.nq.not k.vw (by decide)),?_,k.res.frm aa (k.nq.not k.res (by decide)),ac,h.len,h.look⟩,hB⟩;exact(aa.block _ (Array.getElem?_eq_some_iff.1 k.row).1 (k.nq.not k.row (by decide))).trans k.row
theorem LkJ.row_ (h:LkJ w0 w wr z v vs x0 i q x pre)(hw:w0.heap.size≤w.heap.size)(hi:i<400)(y:Rx)(hc:ColR w0 wr y)(hf:y.r.fits)(hs:seesV v x.r.wr=false)(hn:nxB (uns z.ux) x.r=some (some y.r)) :
    ∃W,(Instr.storeAt 39 (.pointer (some ⟨w.heap.size+1,0,none⟩)) (y.r.val (.slice y.a y.n y.c))).run prog wr=.ok () W∧LkI w0 w W z v vs x0 (i+1) q y (pre ++ [x.r.wr]):=by
  have aa:=ZaE wr (w.heap.size+1) y.r (.slice y.a y.n y.c);have hB:Bl w (setRw wr (w.heap.size+1) y.r (.slice y.a y.n y.c)):=h.nq.below.trans (aa.below h.nq.below.size (fun k hk=>by rw [hk];omega));refine⟨_,Zen wr (w.heap.size+1) _ _ h.row y.r y.a y.n y.c,⟨h.vw.frm aa (by omega),Za5 h.row _ _,h.res.frm aa (by omega),?_,hf,⟨Own.frmT h.nq.own h.row (by decide) aa,h.nq.home,hB⟩,by rw [List.length_append,h.len];rfl,?_⟩⟩
  · exact hc.frm aa (fun k hk=>by rw [hk];exact ⟨by omega,_,_,h.row,by decide⟩)
  · rw [h.look,show 400-i=(400-(i+1))+1 by omega,(vnB (uns z.ux) v).look_next (400-(i+1)) (r:=x.r) (q:=y.r) hs hn];show (_,pre ++ (x.r.wr :: _),_)=(_,(pre ++ [x.r.wr]) ++ _,_);rw [List.append_assoc];rfl
theorem Zcs (hq:Nq w wr q t)(aa:LkBlk wr (w.heap.size+1+1) Rx.zero false Sl.nil 0)(hw:w0.heap.size≤w.heap.size)(hl:q.len≤1000000)(y:Rx)(hc:ColR w0 wr y)(hf:y.r.fits){o:Option Rw × List Int × Int}(h1:y.r=o.1.getD zeroR)(h2:o.2.1=t)(b:Bool)(hb:o.1.isSome=b)(e:Int)(he:o.2.2=e) :
    ∃W,(Instr.storeAt 75 (.pointer (some ⟨w.heap.size+1+1,0,none⟩)) (lkV y b q e)).run prog wr=.ok () W∧LkBlk W (w.heap.size+1+1) y b q e∧Zjg w0 w o (.returned (lkV y b q e)) W:=by
  have ab:=ZhP wr (w.heap.size+1+1) y b q e;have hB:Bl w (setLk wr (w.heap.size+1+1) y b q e):=hq.below.trans (ab.below hq.below.size (fun k hk=>by rw [hk];omega));subst hb he;refine⟨_,Zr4 wr (w.heap.size+1+1) aa y _ q _,ZhO aa _ _ _ _,hB,y,q,rfl,h1,?_,hf,?_⟩
  · exact hc.frm ab (fun k hk=>by rw [hk];exact ⟨by omega,_,_,aa,by decide⟩)
  · rw [h2];exact OwnN.gi (Own.frmT hq.own aa (by decide) ab) hq.home hl
def lenV:Value→Nat
  | .slice _ n _=>n
  | _=>0
theorem Nq.nil0 (h:Bl w0 w):Nq w0 w Sl.nil []:=⟨Own.nil _ _ _,(fun k hk=>by cases hk),h⟩
theorem Zip {α:Type}{a:Option α}{c:Int}(h:t.length≤400):Vn.cut (a,t,c)=(a,t,c):=by
 show (a,t.take 400,c)=_;rw [List.take_of_length_le h]
theorem ZnA {α:Type}{a:Option α}{x c:Int}(h:t.length=400):Vn.cut (a,t ++ [x],c)=(a,t,c):=by
 show (a,(t ++ [x]).take 400,c)=_;rw [List.take_left' h]
theorem ZkD (w0 w:World)(hw:Bl w0 w)(z:Bz)(v:Vw)(s:Sl)(x:Rx)(hx:ColR w0 w x)(hf:x.r.fits) :
    ∃Wa Wb W0,w.alloc (.cells #[.int .i64 v.self,.int .i64 v.next,s.val] 31)=Wa∧Wa.alloc (.cells #[.float .f64 x.r.key,.bool x.r.dead,.slice x.a x.n x.c,.int .i64 x.r.wr,.int .i64 x.r.cell,.int .i64 x.r.no] 39)=Wb∧Wb.alloc (.cells #[.float .f64 0,.bool false,.slice none 0 0,.int .i64 0,.int .i64 0,.int .i64 0,.bool false,.slice none 0 0,.int .i64 0] 75)=W0∧Wa.heap.size=w.heap.size+1∧Wb.heap.size=w.heap.size+1+1∧LkI w0 w W0 z v s x.r 0 Sl.nil x []:=by
  have ac:=Zab w (.cells #[.int .i64 v.self,.int .i64 v.next,s.val] 31);have b1:=ZbJ w v s;obtain⟨Wa,ha⟩:∃W,w.alloc (.cells #[.int .i64 v.self,.int .i64 v.next,s.val] 31)=W:=⟨_,rfl⟩;(have sa:Wa.heap.size=w.heap.size+1:=by rw [← ha];exact Zae _ _);rw [ha] at ac b1;have ab:=Zab Wa (.cells #[.float .f64 x.r.key,.bool x.r.dead,.slice x.a x.n x.c,.int .i64 x.r.wr,.int .i64 x.r.cell,.int .i64 x.r.no] 39);have b2:=Zai Wa x.r (.slice x.a x.n x.c);obtain⟨Wb,hb⟩:∃W,Wa.alloc (.cells #[.float .f64 x.r.key,.bool x.r.dead,.slice x.a x.n x.c,.int .i64 x.r.wr,.int .i64 x.r.cell,.int .i64 x.r.no] 39)=W:=⟨_,rfl⟩;(have sb:Wb.heap.size=w.heap.size+1+1:=by rw [← hb,Zae,sa]);rw [hb] at ab b2;rw [sa] at b2;have aa:=Zab Wb (.cells #[.float .f64 0,.bool false,.slice none 0 0,.int .i64 0,.int .i64 0,.int .i64 0,.bool false,.slice none 0 0,.int .i64 0] 75);have b3:LkBlk (Wb.alloc (.cells #[.float .f64 0,.bool false,.slice none 0 0,.int .i64 0,.int .i64 0,.int .i64 0,.bool false,.slice none 0 0,.int .i64 0] 75)) Wb.heap.size Rx.zero false Sl.nil 0:=Zh0 Wb Rx.zero false Sl.nil 0;obtain⟨W0,hc⟩:∃W,Wb.alloc (.cells #[.float .f64 0,.bool false,.slice none 0 0,.int .i64 0,.int .i64 0,.int .i64 0,.bool false,.slice none 0 0,.int .i64 0] 75)=W:=⟨_,rfl⟩;rw [hc] at aa b3;rw [sb] at b3;have hA:=Zac ac (Zac ab aa);exact⟨Wa,Wb,W0,ha,hb,hc,sa,sb,b1.keep (Zac ab aa),b2.keep aa,b3,hx.keep hA,hf,Nq.nil0 hA,rfl,ZfI _ _⟩
theorem Zid (w0 w:World)(hw:Bl w0 w)(z:Bz)(h:Bin w0 z)(bm:MayU (uns z.ux)=true)(v:Vw)(s:Sl)(hv:Gi (fun _=>True) w s v.act)(bq:s.len≤200)(bn:MayV v)(x:Rx)(hx:ColR w0 w x)(hf:x.r.fits) :
    Calls prog 32 #[.slice z.cs.a z.cs.len z.cs.cap,vwV v s,x.val] w (Zjg w0 w (Vn.cut ((vnB (uns z.ux) v).look 400 x.r))):=by
  obtain⟨Wa,Wb,W0,ha,hb,hc,sa,sb,bj⟩:=ZkD w0 w hw z v s x hx hf;have ba:=Zh bj;have HH:=Zh h;have HV:=Zh hv;have HW:=Zh hw;have bu:=Zh bm;have bv:=Zh bn;have an:w0.heap.size≤w.heap.size:=hw.size;have HA:=Zh ha;have HB:=Zh hb;have HC:=Zh hc;obtain⟨x0,bt⟩:∃x0,x0=x.r:=⟨_,rfl⟩;rw [← bt] at ba ⊢;have bb:Hi (z.cs.len≤1000):=h.cb;obtain⟨o,ho⟩:∃o,o=Vn.cut ((vnB (uns z.ux) v).look 400 x0):=⟨_,rfl⟩;rw [← ho];have HO:=Zh ho;clear bj h hv hw hx hf bt ho ha hb hc bm bn;obtain⟨⟨xk,xd,xs,xw,xc,xn⟩,xa,xl,xcp⟩:=x;obtain⟨vs,vn,vt⟩:=v;obtain⟨sa',sn,sc⟩:=s;unfold vwV Rx.val Rw.val;simp only [Sl.val] at *;go_enter func32,ntmps32;go_wp2_with fail;simp only [sa,sb] at *;rw [HA.o,HB.o,HC.o];clear HA HB HC sa sb;go_loopw [7] (fun sv wr=>∃(i:Nat) (q:Sl) (x:Rx) (pre:List Int),i≤400∧sv=q.val∧q.len=i∧Hi (LkI w0 w wr z ⟨vs,vn,vt⟩ ⟨sa',sn,sc⟩ x0 i q x pre)) (fun sv _=>401-lenV sv)
  case atStart=>exact ⟨0,Sl.nil,_,_,Nat.zero_le _,rfl,rfl,ba⟩
  case round =>
   clear ba;obtain⟨i,⟨qa,qn,qc⟩,⟨⟨k0,k1,k2,k3,k4,k5⟩,ya,yl,yc⟩,pre,hi,rfl,bp,ah⟩:=hrel;simp only at bp;subst bp;simp only [Sl.val];have g0:=ah.o.vw.c0;have g1:=ah.o.vw.c1;have g2:=ah.o.vw.c2;have r0:=ah.o.row.c0;have r1:=ah.o.row.c1;have r2:=ah.o.row.c2;have r3:=ah.o.row.c3;have r4:=ah.o.row.c4;have r5:=ah.o.row.c5;simp only [Sl.val] at g0 g1 g2 r0 r1 r2 r3 r4 r5;have ap:=Zh (Znr wr ⟨sa',sn,sc⟩ ⟨vs,vn,vt⟩ (HV.o.below ah.o.nq.below (Nat.le_refl _)) (by show sn≤200;omega) k3);(have br:seesA ⟨vs,vn,vt⟩ k3=seesV ⟨vs,vn,vt⟩ k3:=by unfold seesA;rw [decide_eq_true bv.o,Bool.true_and]);rw [br] at ap;unfold vwV at ap;simp only [Sl.val] at ap;clear br;go_wp2_with fail;refine ap.o.mono ?_;rintro e w1 ⟨rfl,bk⟩;have H1:=Zh (ah.o.keep bk);clear bk ap ah g0 g1 g2 r0 r1 r2 r3 r4 r5;have r0:=H1.o.row.c0;have r1:=H1.o.row.c1;have r2:=H1.o.row.c2;have r3:=H1.o.row.c3;have r4:=H1.o.row.c4;have r5:=H1.o.row.c5;simp only [Sl.val] at r0 r1 r2 r3 r4 r5;(have bf:qn≤1000000:=by omega);have aw:Hi (pre.length=qn):=H1.o.len;obtain⟨m,hm⟩:∃m,m=seesV ⟨vs,vn,vt⟩ k3:=⟨_,rfl⟩;rw [← hm];have HM:=Zh hm;clear hm;cases m with
   | true =>
    have ac:Hi (o=((if k1=true then none else some ⟨k0,k1,k2,k3,k4,k5⟩),pre,0)):=by
     show o=_;rw [HO.o,H1.o.look,(vnB (uns z.ux) ⟨vs,vn,vt⟩).look_seen (400-qn) (r:=⟨k0,k1,k2,k3,k4,k5⟩) HM.o.symm,List.append_nil];exact Zip (by rw [aw.o];exact hi)
    cases k1 with
    | true =>
     clear HM;obtain⟨W,af,aa,ab⟩:=Zcs (o:=o) H1.o.nq H1.o.res an bf Rx.zero (ColR.zero _ _) ZaP (by rw [ac.o];rfl) (by rw [ac.o]) false (by rw [ac.o];rfl) 0 (by rw [ac.o]);have ae:=Zh af;have ai:=Zh aa;have ag:=Zh ab;clear af aa ab ac;simp only [lkV,Rx.zero,zeroR] at ae ag;go_wp2_with (first | refine Zad _ rfl rfl 75 (.tmp 6) (.tmp 46) rfl (.pointer (some ⟨w.heap.size+1+1,0,none⟩)) (.agg #[.float .f64 0,.bool false,.slice none 0 0,.int .i64 0,.int .i64 0,.int .i64 0,.bool false,.slice qa qn qc,.int .i64 0]) rfl rfl W ae.o ?_);refine bodyPost_ret (ZbF rfl ai.o _ rfl) rfl ?_;exact ag.o
    | false =>
     clear HM;obtain⟨W,af,aa,ab⟩:=Zcs (o:=o) H1.o.nq H1.o.res an bf ⟨⟨k0,false,k2,k3,k4,k5⟩,ya,yl,yc⟩ H1.o.col H1.o.fit (by rw [ac.o];rfl) (by rw [ac.o]) true (by rw [ac.o];rfl) 0 (by rw [ac.o]);have ae:=Zh af;have ai:=Zh aa;have ag:=Zh ab;clear af aa ab ac;simp only [lkV,Rx.zero,zeroR] at ae ag;go_wp2_with (first | refine Zad _ rfl rfl 75 (.tmp 6) (.tmp 49) rfl (.pointer (some ⟨w.heap.size+1+1,0,none⟩)) (.agg #[.float .f64 k0,.bool false,.slice ya yl yc,.int .i64 k3,.int .i64 k4,.int .i64 k5,.bool true,.slice qa qn qc,.int .i64 0]) rfl rfl W ae.o ?_);refine bodyPost_ret (ZbF rfl ai.o _ rfl) rfl ?_;exact ag.o
   | false =>
    have ak:Hi ((vnB (uns z.ux) ⟨vs,vn,vt⟩).see ⟨k0,k1,k2,k3,k4,k5⟩=false):=HM.o.symm;by_cases aj:qn=400
    · (have i4:((qn:Int) == 400)=true:=by rw [aj];rfl);have ac:Hi (o=(none,pre,13)):=by
       show o=_;rw [HO.o,H1.o.look,aj,show 400-400=0 from rfl,(vnB (uns z.ux) ⟨vs,vn,vt⟩).look_end ak.o];exact ZnA (by rw [aw.o,aj])
      clear HM ak aj;obtain⟨W,af,aa,ab⟩:=Zcs (o:=o) H1.o.nq H1.o.res an bf Rx.zero (ColR.zero _ _) ZaP (by rw [ac.o];rfl) (by rw [ac.o]) false (by rw [ac.o];rfl) 13 (by rw [ac.o]);have ae:=Zh af;have ai:=Zh aa;have ag:=Zh ab;clear af aa ab ac;simp only [lkV,Rx.zero,zeroR] at ae ag;go_wp2_with (first | refine Zad _ rfl rfl 75 (.tmp 6) (.tmp 19) rfl (.pointer (some ⟨w.heap.size+1+1,0,none⟩)) (.agg #[.float .f64 0,.bool false,.slice none 0 0,.int .i64 0,.int .i64 0,.int .i64 0,.bool false,.slice qa qn qc,.int .i64 13]) rfl rfl W ae.o ?_);refine bodyPost_ret (ZbF rfl ai.o _ rfl) rfl ?_;exact ag.o
    have i4:((qn:Int) == 400)=false:=beq_eq_false_iff_ne.2 (by omega);obtain⟨⟨q2a,q2n,q2c⟩,W2,au,ax,bi⟩:=H1.o.app hi an;have ar:q2n=qn+1:=by
     have h9:=OwnN.len ax.nq.own;have bz:=ax.len;rw [List.length_append] at h9;have ca:pre.length+1=q2n:=h9;omega
    have ao:=Zh ar;(have bo:q2n≤1000000:=by omega);clear ar;have al:=Zh au;have H2:=Zh ax;simp only [Sl.val] at al;clear au ax;have bh:=Zh bi;clear bi;have s4:=H2.o.row.c4;have s5:=H2.o.row.c5;simp only [Sl.val] at s4 s5;have az:=Zh (ZnO z.cs.a z.cs.len z.cs.cap z.ux W2 (HH.o.keep (Zac HW.o bh.o)).cs (by have:=bb.o;omega) k4 k5);rw [if_pos bu.o] at az;go_wp2_with (first | refine Zbu _ rfl 29 (.tmp 20) (.tmp 23) rfl (.slice qa qn qc) (.slice (some ⟨w1.heap.size,0,none⟩) 1 1) rfl rfl _ W2 al.o ?_);refine az.o.mono ?_;rintro e w3 ⟨xu,rfl,bg,aq,bl⟩;obtain⟨W4,av,ad,bd⟩:=ZdV w3 xu;have H4:=Zh ((H2.o.keep bl).keep bd);have ay:=Zh (((aq w0).keep bd).colR);have am:=Zh av;have bc:=Zh bg;have u3:=ad.c3;have u6:=ad.c6;have u7:=ad.c7;have u8:=ad.c8;have u9:=ad.c9;have u10:=ad.c10;have u11:=ad.c11;(have bx:Hi (xu.u.row.fits):=by show _;rw [bg];exact (Zhn HH.o.cs.fits k4 k5).row);clear bl bd aq av bg ad az al H2 bh s4 s5 r0 r1 r2 r3 r4 r5;obtain⟨g,hg⟩:∃g,g=(getU (uns z.ux) k4 k5).2:=⟨_,rfl⟩;rw [← hg];have HG:=Zh hg;clear hg H1;(have be:qn<400:=by omega);cases g with
    | false =>
     have ac:Hi (o=(none,pre ++ [k3],13)):=by
      show o=_;rw [HO.o,H4.o.look,(vnB (uns z.ux) ⟨vs,vn,vt⟩).look_old (400-qn) ak.o (show nxB (uns z.ux) ⟨k0,k1,k2,k3,k4,k5⟩=none from ZgB HG.o.symm)];exact Zip (by rw [List.length_append,aw.o];exact be)
     clear HM ak HG;obtain⟨W,af,aa,ab⟩:=Zcs (o:=o) H4.o.nq H4.o.res an bo Rx.zero (ColR.zero _ _) ZaP (by rw [ac.o];rfl) (by rw [ac.o]) false (by rw [ac.o];rfl) 13 (by rw [ac.o]);have ae:=Zh af;have ai:=Zh aa;have ag:=Zh ab;clear af aa ab ac;simp only [lkV,Rx.zero,zeroR] at ae ag;go_wp2_with (first | refine Zad _ rfl rfl 65 (.tmp 8) (.tmp 30) rfl (.pointer (some ⟨w3.heap.size,0,none⟩)) xu.val rfl rfl W4 am.o ?_ | refine Zad _ rfl rfl 75 (.tmp 6) (.tmp 35) rfl (.pointer (some ⟨w.heap.size+1+1,0,none⟩)) (.agg #[.float .f64 0,.bool false,.slice none 0 0,.int .i64 0,.int .i64 0,.int .i64 0,.bool false,.slice q2a q2n q2c,.int .i64 13]) rfl rfl W ae.o ?_);refine bodyPost_ret (ZbF rfl ai.o _ rfl) rfl ?_;exact ag.o
    | true =>
     by_cases hk:xu.u.kind=1
     · have ac:Hi (o=(none,pre ++ [k3],0)):=by
        show o=_;rw [HO.o,H4.o.look,show 400-qn=(400-(qn+1))+1 by omega,(vnB (uns z.ux) ⟨vs,vn,vt⟩).look_new (400-(qn+1)) ak.o (show nxB (uns z.ux) ⟨k0,k1,k2,k3,k4,k5⟩=some none from Zi7 HG.o.symm (by show (getU (uns z.ux) k4 k5).1.kind=1;rw [← bc.o,hk]))];exact Zip (by rw [List.length_append,aw.o];exact be)
       clear HM ak HG;rw [hk] at u3;obtain⟨W,af,aa,ab⟩:=Zcs (o:=o) H4.o.nq H4.o.res an bo Rx.zero (ColR.zero _ _) ZaP (by rw [ac.o];rfl) (by rw [ac.o]) false (by rw [ac.o];rfl) 0 (by rw [ac.o]);have ae:=Zh af;have ai:=Zh aa;have ag:=Zh ab;clear af aa ab ac;simp only [lkV,Rx.zero,zeroR] at ae ag;go_wp2_with (first | refine Zad _ rfl rfl 65 (.tmp 8) (.tmp 30) rfl (.pointer (some ⟨w3.heap.size,0,none⟩)) xu.val rfl rfl W4 am.o ?_ | refine Zad _ rfl rfl 75 (.tmp 6) (.tmp 40) rfl (.pointer (some ⟨w.heap.size+1+1,0,none⟩)) (.agg #[.float .f64 0,.bool false,.slice none 0 0,.int .i64 0,.int .i64 0,.int .i64 0,.bool false,.slice q2a q2n q2c,.int .i64 0]) rfl rfl W ae.o ?_);refine bodyPost_ret (ZbF rfl ai.o _ rfl) rfl ?_;exact ag.o
     · have cc:(xu.u.kind == 1)=false:=beq_eq_false_iff_ne.2 hk;obtain⟨W,af,bs⟩:=H4.o.row_ an be ⟨xu.u.row,xu.a,xu.n,xu.c⟩ ay.o bx.o HM.o.symm (by
        have:=ZjC (u:=uns z.ux) (r:=⟨k0,k1,k2,k3,k4,k5⟩) HG.o.symm (by show ¬(getU (uns z.ux) k4 k5).1.kind=1;rw [← bc.o];exact hk);rw [this];show some (some (getU (uns z.ux) k4 k5).1.row)=_;rw [← bc.o])
       have ae:=Zh af;have bw:=Zh bs;clear af bs HM ak HG hk;simp only [Rw.val] at ae;go_wp2_with (first | refine Zad _ rfl rfl 65 (.tmp 8) (.tmp 30) rfl (.pointer (some ⟨w3.heap.size,0,none⟩)) xu.val rfl rfl W4 am.o ?_ | refine Zad _ rfl rfl 39 (.tmp 5) (.tmp 42) rfl (.pointer (some ⟨w.heap.size+1,0,none⟩)) (.agg #[.float .f64 xu.u.row.key,.bool xu.u.row.dead,.slice xu.a xu.n xu.c,.int .i64 xu.u.row.wr,.int .i64 xu.u.row.cell,.int .i64 xu.u.row.no]) rfl rfl W ae.o ?_);go_roundw
       case rel=>exact ⟨qn+1,⟨q2a,q2n,q2c⟩,_,_,by omega,rfl,ao.o,bw⟩
       case measure=>simp only [lenV];have:=ao.o;omega
theorem Ze0 (c d:Bool):orN [chk c,errV d]=errV (c && d):=by cases c <;> cases d <;> rfl
theorem ZrK (p:Nat)(w:World):(Instr.fieldAt 75 (.pointer (some ⟨p,0,none⟩)) 0).run prog w=.ok (.pointer (some ⟨p,0,none⟩)) w:=by simp [go_sem,Instr.fieldAt]
theorem ZrL (p:Nat)(w:World):(Instr.fieldAt 75 (.pointer (some ⟨p,0,none⟩)) 1).run prog w=.ok (.pointer (some ⟨p,6,none⟩)) w:=by simp [go_sem,Instr.fieldAt]
theorem ZrM (p:Nat)(w:World):(Instr.fieldAt 75 (.pointer (some ⟨p,0,none⟩)) 2).run prog w=.ok (.pointer (some ⟨p,7,none⟩)) w:=by simp [go_sem,Instr.fieldAt]
theorem ZrN (p:Nat)(w:World):(Instr.fieldAt 75 (.pointer (some ⟨p,0,none⟩)) 3).run prog w=.ok (.pointer (some ⟨p,8,none⟩)) w:=by simp [go_sem,Instr.fieldAt]
theorem Zsa (h:LkBlk w p y b q e):(Instr.loadAt 39 (.pointer (some ⟨p,0,none⟩))).run prog w=.ok (y.r.val (.slice y.a y.n y.c)) w:=by
 have c0:=h.c0;have c1:=h.c1;have c2:=h.c2;have c3:=h.c3;have c4:=h.c4;have c5:=h.c5;simp [go_sem,c0,c1,c2,c3,c4,c5,Rw.val]
theorem ZrX (h:LkBlk w p y b q e):(Instr.loadAt 4 (.pointer (some ⟨p,6,none⟩))).run prog w=.ok (.bool b) w:=by
 have c6:=h.c6;simp [go_sem,c6]
theorem ZrZ (h:LkBlk w p y b q e):(Instr.loadAt 29 (.pointer (some ⟨p,7,none⟩))).run prog w=.ok (.slice q.a q.len q.cap) w:=by
 have c7:=h.c7;simp [go_sem,c7]
theorem ZrY (h:LkBlk w p y b q e):(Instr.loadAt 40 (.pointer (some ⟨p,8,none⟩))).run prog w=.ok (.int .i64 e) w:=by
 have c8:=h.c8;simp [go_sem,c8]
theorem ZoR:∀args w,(callFunc 10 args).run prog w=.ok (.enter 10 args) w:=Pl.qi func10
theorem ZoS:∀args w,(callFunc 30 args).run prog w=.ok (.enter 30 args) w:=Pl.qi func30
theorem Zrs (w:World)(g k:Nat)(z:Bz)(v:Vw)(s:Sl)(a b:Int)(hg:BsBlk w g z)(hk:ZaG w k v s)(hC:∀W,Bl w W→Calls prog 10 #[z.val] W fun e w'=>e=.returned (.int .i64 a)∧Bl W w')(hV:∀W,Bl w W→Calls prog 30 #[vwV v s] W fun e w'=>e=.returned (.int .i64 b)∧Bl W w')
    {Q:Exit→Act→World→Prop}(aj:A.tmps.size=49)(ai:A.defers=[])(s3:A.tmps.getD 3 undef=.pointer (some ⟨g,0,none⟩))(s4:A.tmps.getD 4 undef=.pointer (some ⟨k,0,none⟩))
    (hend:∀(u:Nat→Value) w',Bl w w'→Q .normal ((Pl.pu A u [15,17,16,18,19,20]).put (some 10) (.int .i64 (orN [a,b]))) w') :
    Pl.rg prog 1 f9 Q A w:=by
  have aa:Bl w w.drew:=Zaa w;have hA:=Pl.At.same (v:=.pointer (some ⟨k,0,none⟩)) (d:=4) (Pl.At.same (v:=.pointer (some ⟨g,0,none⟩)) (d:=3) (Pl.At.here aj ai) s3) s4;refine Pl.qb (S:=fun w'=>Bl w w') hA aa ?_;rw [show (Pl.fd 1 f9).size=7 by kernel_rfl];refine Pl.q0 0 15 (z.val) (Pl.q1) (Pl.q4 28 (.tmp 3) (fun w' hS=>Zg4 (hg.keep hS))) aa ?_;refine Pl.q0 2 17 (vwV v s) (Pl.q1) (Pl.q4 31 (.tmp 4) (fun w' hS=>ZpD (hk.keep hS))) aa ?_;refine Pl.qe 1 16 10 [(.tmp 15)] #[28] (Pl.q1) ZoR (Calls.mono (hC _ aa) ?_);rintro e w1 ⟨rfl,af⟩;have ab:Bl w w1:=Zac aa af;refine⟨.int .i64 a,rfl,ab,?_⟩;refine Pl.qe 3 18 30 [(.tmp 17)] #[31] (Pl.q1) ZoS (Calls.mono (hV _ ab) ?_);rintro e w3 ⟨rfl,ag⟩;have ac:Bl w w3:=Zac ab ag;refine⟨.int .i64 b,rfl,ac,?_⟩;have ae:Bl w (w3.alloc (.cells #[.int .i64 a,.int .i64 b] 40)):=Zac ac (Zab w3 _);refine Pl.qf 4 19 (.slice (some ⟨w3.heap.size,0,none⟩) 2 2) (w3.alloc (.cells #[.int .i64 a,.int .i64 b] 40)) (Pl.q1) (Pl.bsV 4 112 2 [(0,.tmp 16),(1,.tmp 18)] _ _ (by kernel_rfl) (by decide) (ZqU w3 a b)) ae ?_;refine Pl.qe 5 20 29 [(.tmp 19)] #[112] (Pl.q1) ZlK (Calls.mono (ZgD w3 a b) ?_);rintro e w5 ⟨rfl,ah⟩;have ad:Bl w w5:=Zac ac ah;refine⟨.int .i64 (orN [a,b]),rfl,ad,?_⟩;refine Pl.q0 6 10 (.int .i64 (orN [a,b])) (Pl.q1) (Pl.qd (.tmp 20)) ad ?_;refine Pl.q8 (fun A' hA'=>?_);exact Pl.en hA' hA [15,17,16,18,19,20,10] (hend hA'.fn _ ad)
theorem Zsl (w:World)(g p:Nat)(y:Rx)(b:Bool)(q:Sl)(e:Int)(r0:Rw)(c0:Value)(hg:LkBlk w g y b q e)(hp:RwBlk w p r0 c0)(ad:¬g=p)
    {Q:Exit→Act→World→Prop}(ag:A.tmps.size=49)(af:A.defers=[])(s6:A.tmps.getD 6 undef=.pointer (some ⟨p,0,none⟩))(s14:A.tmps.getD 14 undef=.pointer (some ⟨g,0,none⟩))
    (hend:∀(u:Nat→Value) w',RwBlk w' p y.r (.slice y.a y.n y.c)→Frm (fun k=>k=p) w w'→Q .normal ((((Pl.pu A u [41,42,43,44,45,46,47,48]).put (some 7) (.bool b)).put (some 8) (.slice q.a q.len q.cap)).put (some 9) (.int .i64 e)) w') :
    Pl.rg prog 8 f9 Q A w:=by
  have aa:Frm (fun k=>k=p) w w.drew:=(Frm.refl _ w).drew;have hA:=Pl.At.same (v:=.pointer (some ⟨g,0,none⟩)) (d:=14) (Pl.At.same (v:=.pointer (some ⟨p,0,none⟩)) (d:=6) (Pl.At.here ag af) s6) s14;refine Pl.qb (S:=fun w'=>Frm (fun k=>k=p) w w') hA aa ?_;rw [show (Pl.fd 8 f9).size=12 by kernel_rfl];refine Pl.q0 0 41 (.pointer (some ⟨g,0,none⟩)) (Pl.q1) (Pl.q6 75 (.tmp 14) 0 (ZrK g)) aa ?_;refine Pl.q0 1 42 (y.r.val (.slice y.a y.n y.c)) (Pl.q1) (Pl.q4 39 (.tmp 41) (fun w' hS=>Zsa (hg.frm hS ad))) aa ?_;refine Pl.q0 2 43 (.pointer (some ⟨g,6,none⟩)) (Pl.q1) (Pl.q6 75 (.tmp 14) 1 (ZrL g)) aa ?_;refine Pl.q0 3 44 (.bool b) (Pl.q1) (Pl.q4 4 (.tmp 43) (fun w' hS=>ZrX (hg.frm hS ad))) aa ?_;refine Pl.q0 4 45 (.pointer (some ⟨g,7,none⟩)) (Pl.q1) (Pl.q6 75 (.tmp 14) 2 (ZrM g)) aa ?_;refine Pl.q0 5 46 (.slice q.a q.len q.cap) (Pl.q1) (Pl.q4 29 (.tmp 45) (fun w' hS=>ZrZ (hg.frm hS ad))) aa ?_;refine Pl.q0 6 47 (.pointer (some ⟨g,8,none⟩)) (Pl.q1) (Pl.q6 75 (.tmp 14) 3 (ZrN g)) aa ?_;refine Pl.q0 7 48 (.int .i64 e) (Pl.q1) (Pl.q4 40 (.tmp 47) (fun w' hS=>ZrY (hg.frm hS ad))) aa ?_;have ab:Frm (fun k=>k=p) w (setRw w.drew p y.r (.slice y.a y.n y.c)):=((Frm.refl (fun k=>k=p) w).drew).trans (ZaE w.drew p y.r (.slice y.a y.n y.c)) (fun _ _ h=>h);have ac:RwBlk w.drew p r0 c0:=hp;have ae:RwBlk (setRw w.drew p y.r (.slice y.a y.n y.c)) p y.r (.slice y.a y.n y.c):=Za5 ac y.r (.slice y.a y.n y.c);refine Pl.ql 8 (setRw w.drew p y.r (.slice y.a y.n y.c)) (Pl.q1) (Pl.qm 39 (.tmp 6) (.tmp 42) (Zen w.drew p _ _ ac y.r y.a y.n y.c)) ab ?_;refine Pl.q0 9 7 (.bool b) (Pl.q1) (Pl.qd (.tmp 44)) ab ?_;refine Pl.q0 10 8 (.slice q.a q.len q.cap) (Pl.q1) (Pl.qd (.tmp 46)) ab ?_;refine Pl.q0 11 9 (.int .i64 e) (Pl.q1) (Pl.qd (.tmp 48)) ab ?_;refine Pl.q8 (fun A' hA'=>?_);exact Pl.en hA' hA [41,42,43,44,45,46,47,48,7,8,9] (hend hA'.fn _ ae ab)
theorem Zjg.told {w1 w2:World}{o:Option Rw × List Int × Int}(aa:Frm (fun k=>k=p) w2 W)(ab:RwBlk w2 p zeroR (.slice none 0 0))(hB:Bl w w2)(hp:w.heap.size≤p)(ac:p<w1.heap.size)(hw:w0.heap.size≤w.heap.size)(hc:ColR w0 w2 y)(hr:y.r=o.1.getD zeroR)(hq:Gi (fun k=>w1.heap.size≤k) w2 q o.2.1):Zer w0 w o (.returned (.tuple #[y.val,.bool o.1.isSome,q.val,.int .i64 o.2.2])) W:=
 ⟨hB.trans (aa.below hB.size (fun k hk=>by rw [hk];exact hp)),y,q,rfl,hr,hc.frm aa (fun k hk=>by rw [hk];exact ⟨by omega,_,_,ab,by decide⟩),(hq.keep (Kept.frm aa (fun k h1 e=>by omega))).wide (fun _ _=>trivial)⟩
theorem Zno (w0 w:World)(hw:Bl w0 w)(z:Bz)(h:Bin w0 z)(v:Vw)(s:Sl)(hv:Gi (fun _=>True) w s v.act)(ae:s.len≤200)(key:Nat)(ad:key<18446744073709551616)(hm:¬(MayBs z.b∧MayV v)) :
    Calls prog 9 #[z.val,vwV v s,.float .f64 key] w fun e w'=>(∃(a:Option Addr) (c:Nat),e=.returned (.tuple #[Zd1,.bool false,.slice a 0 c,.int .i64 1]))∧Bl w w':=by
  obtain⟨Wa,Wb,W0,ha,hb,hd,ax,bb,az,hA,ba⟩:=ZfN w z v s;have ar:=Zh ha;have au:=Zh hb;have aw:=Zh hd;have ah:=Zh ax;have ak:=Zh bb;have aq:=Zh az;have HA:=Zh hA;have be:=Zh ba;have HW:=Zh hw;have HH:=Zh h;have HV:=Zh hv;have bd:=Zh ad;have bh:w0.heap.size≤w.heap.size:=hw.size;obtain⟨cb,af⟩:∃c:Bool,c=true↔MayBs z.b:=by
   by_cases hm:MayBs z.b
   · exact⟨true,fun _=>hm,fun _=>rfl⟩
   · exact⟨false,fun e=>(by cases e),fun e=>absurd e hm⟩
  have ai:Hi (∀W,Bl W0 W→Calls prog 10 #[z.val] W fun e w'=>e=.returned (.int .i64 (chk cb))∧Bl W w'):=fun W hW=>(Zb0 W z (h.keep (hw.trans ((Zac hA hW).mono bh)))).mono fun e w' k=>by
   refine⟨?_,k.2⟩;rcases k.1 with ⟨k1,k2⟩ | ⟨k1,k2⟩
   · rw [k2,af.2 k1];rfl
   · cases cb with
     | false=>exact k2
     | true=>exact absurd (af.1 rfl) k1
  have aj:Hi (∀W,Bl W0 W→Calls prog 30 #[vwV v s] W fun e w'=>e=.returned (.int .i64 (errV (decide (MayV v))))∧Bl W w'):=fun W hW=>ZbL W s v (hv.below (Zac hA hW) (Nat.le_refl _)) ae;obtain⟨av,al⟩:∃a,a=chk cb:=⟨_,rfl⟩;obtain⟨bv,am⟩:∃b,b=errV (decide (MayV v)):=⟨_,rfl⟩;(have ag:orN [av,bv]=errV (cb && decide (MayV v)):=by rw [al,am,Ze0]);rw [← al] at ai;rw [← am] at aj;clear al am;have hz:(cb && decide (MayV v))=false:=by
   rw [Bool.eq_false_iff];intro e;rw [Bool.and_eq_true] at e;exact hm ⟨af.1 e.1,of_decide_eq_true e.2⟩
  (replace ag:orN [av,bv]=1:=by rw [ag,hz];rfl);clear hz hm;clear h hv hw ha hb hd ax bb az hA ba ad af;unfold vwV Bz.val;go_enter func9,ntmps9;go_wp2_with fail;rw [ar.o,au.o,aw.o];clear ar au aw;refine Pl.q9 (ops:=Pl.fd 1 f9) ?_;refine Zrs W0 w.heap.size (w.heap.size+1) z v s av bv ah.o ak.o ai.o aj.o (by rfl) rfl (by rfl) (by rfl) ?_;intro u1 w1 aa;simp only [Pl.pu,List.foldl,Act.put,List.setIfInBounds_toArray,List.set];rw [ag];have an:=Zh (Zac HA.o aa);have bc:=Zh (ah.o.keep aa);have bf:=Zh (ak.o.keep aa);have ab:=Zh (aq.o.keep aa);(have bg:w.heap.size+1+1+1≤w1.heap.size:=by have h1:=aa.size;have h2:=be.o;omega);clear aa ai aj ah ak aq ag;obtain⟨sa,sn,sc⟩:=s;obtain⟨vs,vn,vt⟩:=v;(try simp only [Sl.val] at *);have ay:=ZaE w1 (w.heap.size+1+1) zeroR (.slice none 0 0);have ac:=Zh (Zen w1 (w.heap.size+1+1) _ _ ab.o zeroR none 0 0);have ap:=Zh (Za5 ab.o zeroR (.slice none 0 0));have ao:Hi (Bl w (setRw w1 (w.heap.size+1+1) zeroR (.slice none 0 0))):=an.o.trans (ay.below an.o.size (fun k hk=>by rw [hk];omega));clear ay;simp only [zeroR,Rw.val] at ac ap ao;go_wp2_with (first | refine Zad _ rfl rfl 39 (.tmp 6) (.tmp 23) rfl (.pointer (some ⟨w.heap.size+1+1,0,none⟩)) (.agg #[.float .f64 0,.bool false,.slice none 0 0,.int .i64 0,.int .i64 0,.int .i64 0]) rfl rfl _ ac.o ?_);refine bodyPost_ret (Zbb rfl ap.o _ _ _ _ rfl rfl rfl rfl) rfl ?_;exact⟨⟨none,0,rfl⟩,ao.o⟩
theorem Znn (w0 w:World)(hw:Bl w0 w)(z:Bz)(h:Bin w0 z)(v:Vw)(s:Sl)(hv:Gi (fun _=>True) w s v.act)(be:s.len≤200)(key:Nat)(bc:key<18446744073709551616)(ca:MayBs z.b)(cc:MayV v) :
    Calls prog 9 #[z.val,vwV v s,.float .f64 key] w (Zer w0 w (Vn.cut (readB (uns z.ux) (lfs z.lb) v key))):=by
  obtain⟨Wa,Wb,W0,ha,hb,hd,co,cs,cq,hA,cr⟩:=ZfN w z v s;have ck:=Zh ha;have cl:=Zh hb;have cm:=Zh hd;have bn:=Zh co;have bu:=Zh cs;have cj:=Zh cq;have HA:=Zh hA;have cz:=Zh cr;have HW:=Zh hw;have HH:=Zh h;have HV:=Zh hv;have bq:=Zh bc;have ct:w0.heap.size≤w.heap.size:=hw.size;obtain⟨cb,bk⟩:∃c:Bool,c=true↔MayBs z.b:=by
   by_cases hm:MayBs z.b
   · exact⟨true,fun _=>hm,fun _=>rfl⟩
   · exact⟨false,fun e=>(by cases e),fun e=>absurd e hm⟩
  have bo:Hi (∀W,Bl W0 W→Calls prog 10 #[z.val] W fun e w'=>e=.returned (.int .i64 (chk cb))∧Bl W w'):=fun W hW=>(Zb0 W z (h.keep (hw.trans ((Zac hA hW).mono ct)))).mono fun e w' k=>by
   refine⟨?_,k.2⟩;rcases k.1 with ⟨k1,k2⟩ | ⟨k1,k2⟩
   · rw [k2,bk.2 k1];rfl
   · cases cb with
     | false=>exact k2
     | true=>exact absurd (bk.1 rfl) k1
  have bt:Hi (∀W,Bl W0 W→Calls prog 30 #[vwV v s] W fun e w'=>e=.returned (.int .i64 (errV (decide (MayV v))))∧Bl W w'):=fun W hW=>ZbL W s v (hv.below (Zac hA hW) (Nat.le_refl _)) be;obtain⟨av,bx⟩:∃a,a=chk cb:=⟨_,rfl⟩;obtain⟨bv,bz⟩:∃b,b=errV (decide (MayV v)):=⟨_,rfl⟩;(have bl:orN [av,bv]=errV (cb && decide (MayV v)):=by rw [bx,bz,Ze0]);rw [← bx] at bo;rw [← bz] at bt;clear bx bz;obtain⟨o,ho⟩:∃o,o=Vn.cut (readB (uns z.ux) (lfs z.lb) v key):=⟨_,rfl⟩;rw [← ho];have HO:=Zh ho;(replace bl:orN [av,bv]=0:=by rw [bl,bk.2 ca,decide_eq_true cc];rfl);have ci:=Zh ca;have cy:=Zh cc;clear ho ca cc;clear h hv hw ha hb hd co cs cq hA cr bc bk;unfold vwV Bz.val;go_enter func9,ntmps9;go_wp2_with fail;rw [ck.o,cl.o,cm.o];clear ck cl cm;refine Pl.q9 (ops:=Pl.fd 1 f9) ?_;refine Zrs W0 w.heap.size (w.heap.size+1) z v s av bv bn.o bu.o bo.o bt.o (by rfl) rfl (by rfl) (by rfl) ?_;intro u1 w1 an;simp only [Pl.pu,List.foldl,Act.put,List.setIfInBounds_toArray,List.set];rw [bl];have cg:=Zh (Zac HA.o an);have aj:=Zh (bn.o.keep an);have ax:=Zh (bu.o.keep an);have ap:=Zh (cj.o.keep an);(have bg:w.heap.size+1+1+1≤w1.heap.size:=by have h1:=an.size;have h2:=cz.o;omega);clear an bo bt bn bu cj bl;obtain⟨sa,sn,sc⟩:=s;obtain⟨vs,vn,vt⟩:=v;(try simp only [Sl.val] at *);have z5:=aj.o.c5;have bp:=Zh (ZlV w1 z.ls z.lb key (((HH.o.keep HW.o).keep cg.o).ls) bq.o ci.o.l);unfold Sl.val at bp;(try simp only [Sl.val] at z5);go_wp2_with fail;refine bp.o.mono ?_;rintro e w3 ⟨ao,hn,hs⟩;have ch:=Zh (Zac cg.o ao);have ak:=aj.o.keep ao;have al:=ax.o.keep ao;have ag:=ap.o.keep ao;have cd:w.heap.size+1+1+1≤w3.heap.size:=Nat.le_trans bg ao.size;clear ao bp z5 aj ax ap bg;cases hfd:findH (lfs z.lb) key with
  | none =>
   obtain rfl:=hn hfd;have am:Hi (o=(none,[],0)):=HO.o.trans (by rw [ZkV hfd];rfl);obtain⟨Wx,W4,ac,ad,ai,cf,aa,_⟩:=Zj0 w3 Rx.zero (0,0);have ab:=ag.keep aa;have bw:=Zac ch.o aa;have bb:=ZaE W4 (w.heap.size+1+1) zeroR (.slice none 0 0);have au:=Zh (Zen W4 (w.heap.size+1+1) _ _ ab zeroR none 0 0);have bh:=Zh (Za5 ab zeroR (.slice none 0 0));have bi:Hi (Zer w0 w o (.returned (.tuple #[zeroR.val (.slice none 0 0),.bool false,.slice none 0 0,.int .i64 0])) (setRw W4 (w.heap.size+1+1) zeroR (.slice none 0 0))):=by
    refine⟨bw.trans (bb.below bw.size (fun k hk=>by rw [hk];omega)),Rx.zero,Sl.nil,by rw [am.o];rfl,by rw [am.o];rfl,ColR.zero _ _,?_⟩;rw [am.o];exact Gi.none _
   have ae:=Zh ac;have af:=Zh ad;clear hn hs ak al ag ac ad ai cf aa ab bw bb am hfd;unfold Zd1 btV;simp only [Rx.zero,zeroR,Rw.val] at ae af au bh bi;go_wp2_with (first | refine Zad _ rfl rfl 39 (.tmp 11) (.tmp 30) rfl (.pointer (some ⟨w3.heap.size,0,none⟩)) (.agg #[.float .f64 0,.bool false,.slice none 0 0,.int .i64 0,.int .i64 0,.int .i64 0]) rfl rfl Wx ae.o ?_ | refine Zad _ rfl rfl 67 (.tmp 12) (.tmp 31) rfl (.pointer (some ⟨w3.heap.size+1,0,none⟩)) (.agg #[.int .i64 0,.int .i64 0]) rfl rfl W4 af.o ?_ | refine Zad _ rfl rfl 39 (.tmp 6) (.tmp 35) rfl (.pointer (some ⟨w.heap.size+1+1,0,none⟩)) (.agg #[.float .f64 0,.bool false,.slice none 0 0,.int .i64 0,.int .i64 0,.int .i64 0]) rfl rfl _ au.o ?_);refine bodyPost_ret (Zbb rfl bh.o _ _ _ _ rfl rfl rfl rfl) rfl ?_;exact bi.o
  | some g =>
   obtain⟨ba,x,ce,rfl,cp⟩:=hs g hfd;have am:Hi (o=Vn.cut ((vnB (uns z.ux) ⟨vs,vn,vt⟩).look 400 x.r)):=HO.o.trans (by rw [ZfM hfd,ce]);obtain⟨Wx,W4,ac,ad,ai,cf,aa,_⟩:=Zj0 w3 x ((g.i:Int),(g.k:Int));have bs:=Zh (ag.keep aa);have bm:=Zh (Zac ch.o aa);have az:=ak.keep aa;have ah:=al.keep aa;have z4:=az.c4;have g0:=ah.c0;have g1:=ah.c1;have g2:=ah.c2;have r0:=ai.c0;have r1:=ai.c1;have r2:=ai.c2;have r3:=ai.c3;have r4:=ai.c4;have r5:=ai.c5;(try simp only [Sl.val] at g0 g1 g2);have de:w.heap.size+1+1+1≤W4.heap.size:=Nat.le_trans cd aa.size;have ar:=Zh (Zid w0 W4 (Zac HW.o bm.o) z HH.o ci.o.u ⟨vs,vn,vt⟩ ⟨sa,sn,sc⟩ (HV.o.below bm.o (Nat.le_refl _)) (by show sn≤200;omega) cy.o x ((cp.keep aa).colR w0) (by rw [ce];exact ba));unfold vwV Rx.val Rw.val at ar;(try simp only [Sl.val] at ar);rw [← am.o] at ar;have ae:=Zh ac;have af:=Zh ad;clear hn hs ak al ag ac ad ai cf aa az ah hfd cp ce ba;unfold Rx.val Rw.val btV;simp only;go_wp2_with (first | refine Zad _ rfl rfl 39 (.tmp 11) (.tmp 30) rfl (.pointer (some ⟨w3.heap.size,0,none⟩)) (.agg #[.float .f64 x.r.key,.bool x.r.dead,.slice x.a x.n x.c,.int .i64 x.r.wr,.int .i64 x.r.cell,.int .i64 x.r.no]) rfl rfl Wx ae.o ?_ | refine Zad _ rfl rfl 67 (.tmp 12) (.tmp 31) rfl (.pointer (some ⟨w3.heap.size+1,0,none⟩)) (.agg #[.int .i64 (g.i:Int),.int .i64 (g.k:Int)]) rfl rfl W4 af.o ?_);refine ar.o.mono ?_;rintro e w5 ⟨bj,y,⟨qa,qn,qc⟩,rfl,cw,cu,df,cv⟩;obtain⟨W6,bf,bd,ay⟩:=ZoO w5 y o.1.isSome ⟨qa,qn,qc⟩ o.2.2;have cx:=Zh (Zac bm.o (Zac bj ay));have aq:=Zh ((bs.o.keep bj).keep ay);have br:=Zh bd;have aw:=Zh bf;have da:=Zh (cu.keep ay);have db:=Zh (cv.below ay (Nat.le_refl _));have dc:=Zh cw;(have dd:¬w5.heap.size=w.heap.size+1+1:=by have:=bj.size;omega);clear bj ay cw cu df cv bf bd z4 g0 g1 g2 r0 r1 r2 r3 r4 r5 ar;simp only [lkV] at aw;unfold lkV;simp only;go_wp2_with (first | refine Zad _ rfl rfl 75 (.tmp 14) (.tmp 40) rfl (.pointer (some ⟨w5.heap.size,0,none⟩)) (.agg #[.float .f64 y.r.key,.bool y.r.dead,.slice y.a y.n y.c,.int .i64 y.r.wr,.int .i64 y.r.cell,.int .i64 y.r.no,.bool o.1.isSome,.slice qa qn qc,.int .i64 o.2.2]) rfl rfl W6 aw.o ?_);refine Pl.q9 (ops:=Pl.fd 8 f9) ?_;refine Zsl W6 w5.heap.size (w.heap.size+1+1) y o.1.isSome ⟨qa,qn,qc⟩ o.2.2 _ _ br.o aq.o dd (by rfl) rfl (by rfl) (by rfl) ?_;intro u8 w8 cn bb;simp only [Pl.pu,List.foldl,Act.put,List.setIfInBounds_toArray,List.set];have bh:=Zh cn;have bi:=Zh (Zjg.told (w1:=W4) bb aq.o cx.o (by omega) (by omega) ct da.o dc.o db.o);clear cn bb;go_wp2;refine bodyPost_ret (Zbb rfl bh.o _ _ _ _ rfl rfl rfl rfl) rfl ?_;exact bi.o
open Go.RowKit Go.Sort Go.Lib
def srtV (ks:List Int):List Int:=ks.mergeSort fun x y=>decide (x≤y)
theorem ZhX (ks:List Int):(srtV ks).Perm ks:=List.mergeSort_perm _ _
theorem ZjI (ks:List Int):(srtV ks).length=ks.length:=(ZhX ks).length_eq
theorem Zpg (ks:List Int):(srtV ks).Pairwise (· ≤ ·):=by
 have h:(srtV ks).Pairwise (fun a b=>decide (a≤b)=true):=List.pairwise_mergeSort (fun a b c h1 h2=>by simp only [decide_eq_true_eq] at *;exact Int.le_trans h1 h2) (fun a b=>by simp only [Bool.or_eq_true,decide_eq_true_eq];omega) ks;exact h.imp (fun e=>of_decide_eq_true e)
def cmpct (t:List Int):List Int:=compactUpTo t.toArray t.length
theorem Zg0 (d:List Int)(j:Nat)(hj:j<d.length):keeps d.toArray j=true↔j=0∨d.getD j 0≠d.getD (j-1) 0:=by
 unfold keeps;rw [decide_eq_true_eq,getElem!_pos d.toArray j (by simpa using hj),getElem!_pos d.toArray (j-1) (by simp;omega)];(have e:j-1<d.length:=by omega);simp [List.getD,hj,e]
theorem ZlB {x:Int}:x∈cmpct t↔∃j,j<t.length∧keeps t.toArray j=true∧t.getD j 0=x:=by
 unfold cmpct compactUpTo;simp only [List.mem_map,List.mem_filter,List.mem_range];constructor
 · rintro ⟨j,⟨h1,h2⟩,h3⟩;refine⟨j,h1,h2,?_⟩;rw [← h3,getElem!_pos t.toArray j (by simpa using h1)];simp [List.getD,h1]
 · rintro ⟨j,h1,h2,h3⟩;refine⟨j,⟨h1,h2⟩,?_⟩;rw [← h3,getElem!_pos t.toArray j (by simpa using h1)];simp [List.getD,h1]
theorem Zmm (h:t.Pairwise (· ≤ ·)){j:Nat}(aa:i≤j)(hj:j<t.length):t.getD i 0≤t.getD j 0:=by
 by_cases e:i=j
 · rw [e];exact Int.le_refl _
 · (have hi:i<t.length:=by omega);have:=List.pairwise_iff_getElem.1 h i j hi hj (by omega);simpa [List.getD,hi,hj] using this
theorem Zkf (h:t.Pairwise (· ≤ ·)){x:Int}:x∈cmpct t↔x∈t:=by
 rw [ZlB];constructor
 · rintro ⟨j,h1,_,h3⟩;rw [← h3];exact Zh8 h1
 · intro hx;obtain⟨j,hj,e⟩:=List.mem_iff_getElem.1 hx;(have e2:t.getD j 0=x:=by simpa [List.getD,hj] using e);clear e
   induction j with
   | zero=>exact ⟨0,hj,(Zg0 t 0 hj).2 (.inl rfl),e2⟩
   | succ j ih =>
    by_cases hk:t.getD (j+1) 0=t.getD j 0
    · exact ih (by omega) (hk ▸ e2)
    · exact⟨j+1,hj,(Zg0 t (j+1) hj).2 (.inr hk),e2⟩
theorem Zn8 (h:t.Pairwise (· ≤ ·)):Up (cmpct t):=by
 unfold cmpct compactUpTo Up;refine List.pairwise_map.2 ?_;have hr:((List.range t.length).filter (keeps t.toArray)).Pairwise (fun a b=>a<b∧(b<t.length∧keeps t.toArray b=true)):=by
  have h1:(List.range t.length).Pairwise (· < ·):=List.pairwise_lt_range;have h2:=h1.filter (keeps t.toArray);refine h2.imp_of_mem ?_;intro a b ha hb aa;have:=List.mem_filter.1 hb;exact⟨aa,List.mem_range.1 this.1,this.2⟩
 refine hr.imp ?_;rintro a b ⟨aa,hb,hk⟩;have ab:=(Zg0 t b hb).1 hk;(have ha:a<t.length:=by omega);rw [getElem!_pos t.toArray a (by simpa using ha),getElem!_pos t.toArray b (by simpa using hb)];(have e1:t.toArray[a]'(by simpa using ha)=t.getD a 0:=by simp [List.getD,ha]);(have e2:t.toArray[b]'(by simpa using hb)=t.getD b 0:=by simp [List.getD,hb]);rw [e1,e2];have l1:=Zmm h (i:=a) (j:=b-1) (by omega) (by omega);have l2:=Zmm h (i:=b-1) (j:=b) (by omega) hb;rcases ab with h0 | h0
 · omega
 · omega
theorem ZlA (t:List Int):(cmpct t).length≤t.length:=by
 unfold cmpct compactUpTo;rw [List.length_map];exact Nat.le_trans (List.length_filter_le _ _) (by simp)
structure Hd (w0 w:World) (s:Sl) (t:List Int):Prop where
  len:t.length=s.len
  le:s.len≤s.cap
  below:Bl w0 w
  at_:(s.a=none∧s.cap=0)∨∃g off,s.a=some ⟨g,off,none⟩∧w0.heap.size≤g∧g<w.heap.size∧Holds (Value.int .i64) w g off t.toArray
theorem ZnR (h:Holds (Value.int .i64) w g off t.toArray)(hi:i<t.length):w.cell? ⟨g,off+i,none⟩=some (.int .i64 (t.getD i 0)):=by
 have:=(h i (by simpa using hi)).1;rw [this,getElem!_pos t.toArray i (by simpa using hi)];simp [List.getD,hi]
theorem Nq.hd (h:Nq w0 w s t):Hd w0 w s t:=by
 refine⟨h.own.len,Own.lecap h.own,h.below,?_⟩;cases ha:s.a with
 | none=>exact .inl ⟨rfl,Own.nilcap h.own ha⟩
 | some q =>
  rcases h.own.2 with ⟨h0,_⟩ | ⟨g,off,cur,aa,_⟩
  · rw [h0] at ha;cases ha
  · rw [aa] at ha;cases ha;(have hb:s.blk=some g:=by rw [Sl.blk,aa];rfl);refine .inr ⟨g,off,rfl,h.home g hb,Own.lt h.own hb,fun j hj=>?_⟩;(have hj':j<t.length:=by simpa using hj);refine⟨?_,OwnN.frozen h.own aa _⟩;rw [OwnN.cellAt h.own aa (by rw [← h.own.len];exact hj'),getElem!_pos t.toArray j hj];simp [List.getD,hj']
theorem Hd.gi (h:Hd w0 w s t)(hl:s.len≤1000000):Gi (fun k=>w0.heap.size≤k) w s t:=by
 refine⟨h.len,fun e=>?_,h.le,hl,fun ad ha _=>?_,fun i hi=>?_⟩
 · rcases h.at_ with ⟨_,h2⟩ | ⟨g,off,ha,_⟩
   · exact h2
   · rw [ha] at e;cases e
 · rcases h.at_ with ⟨h1,_⟩ | ⟨g,off,aa,h2,_⟩
   · rw [h1] at ha;cases ha
   · rw [aa] at ha;cases ha;exact h2
 · rcases h.at_ with ⟨_,h2⟩ | ⟨g,off,ha,_,_,hh⟩
   · have:=h.le;omega
   · exact⟨g,off,ha,ZnR hh (by rw [h.len];exact hi)⟩
theorem ZhE {os:Array Obj}(d:Array Int)(hg:w0.heap.size≤g)(h:Bl w0 w):Bl w0 (grow (putRow (Value.int .i64) (Sort.ahead w n) g off d) os):=by
 refine h.trans ⟨rfl,rfl,rfl,by simp,fun k hk=>?_⟩;have hs:=h.size;rw [heap_grow_old _ _ (by simp;omega)];(have:g≠k:=by omega);simp [putRow,mapBlock,Sort.ahead,Array.getElem?_modify,this]
open Go.RowKit Go.Sort Go.Lib
theorem ZmA {os:Array Obj}(d:Array Int)(hs:s.blk=some g):Frm (fun k=>s.blk=some k) w (grow (putRow (Value.int .i64) (Sort.ahead w n) g off d) os):=by
 refine⟨rfl,rfl,rfl,by simp,fun k hk hn=>?_⟩;rw [heap_grow_old _ _ (by simp;omega)];have:g≠k:=fun e=>hn (by rw [hs,e]);simp [putRow,mapBlock,Sort.ahead,Array.getElem?_modify,this]
theorem Znd (w:World)(s:Sl)(t:List Int)(h:Hd w0 w s t)(hl:s.len≤1000000) :
    Calls prog 44 #[s.val] w fun e w'=>e=.returned (.tuple #[])∧Hd w0 w' s (srtV t)∧Frm (fun k=>s.blk=some k) w w':=by
  obtain⟨a,len,cap⟩:=s
  have hlen:t.length=len:=h.len
  rcases h.at_ with ⟨h1,h2⟩ | ⟨g,off,ha,hg,hgl,hh⟩
  · obtain rfl:a=none:=h1
    obtain rfl:cap=0:=h2
    have hle:len≤0:=h.le
    obtain rfl:len=0:=by omega
    obtain rfl:t=[]:=List.eq_nil_of_length_eq_zero hlen
    have hs:=Go.Proofs.AnyM.slices_Sort_int_none Zo2 none 0 w
    change Calls prog 44 _ _ _ at hs
    refine hs.mono ?_
    rintro e w' ⟨rfl,rfl⟩
    exact⟨rfl,⟨ZjI [],Nat.le_refl _,h.below,.inl ⟨rfl,rfl⟩⟩,Frm.refl _ _⟩
  · obtain rfl:a=some ⟨g,off,none⟩:=ha
    subst hlen
    have hs:=Go.Proofs.AnyM.slices_Sort_int Zo2 g off cap t w hh hgl (by have:t.length≤1000000:=hl;omega)
    change Calls prog 44 _ _ _ at hs
    refine hs.mono ?_
    rintro e w' ⟨rfl,n,os,rfl⟩
    have hb:=ZhE (n:=n) (os:=os) (off:=off) (srtV t).toArray hg h.below
    refine⟨rfl,⟨ZjI t,h.le,hb,.inr ⟨g,off,rfl,hg,?_,?_⟩⟩,ZmA _ rfl⟩
    · show g<(grow _ os).heap.size
      simp
      omega
    · exact holds_grow _ _ _ _ _ _ (by simpa using hgl) (holds_putRow _ _ _ _ t.toArray _ (holds_ahead _ _ _ _ _ _ hh) (by simp))
theorem ZgW (w:World)(s:Sl)(t:List Int)(h:Hd w0 w s t)(hl:s.len≤1000000) :
    Calls prog 45 #[s.val] w fun e w'=>∃s',e=.returned s'.val∧s'.len≤s.len∧Hd w0 w' s' (cmpct t)∧Frm (fun k=>s.blk=some k) w w':=by
  obtain⟨a,len,cap⟩:=s
  have hlen:t.length=len:=h.len
  rcases h.at_ with ⟨h1,h2⟩ | ⟨g,off,ha,hg,hgl,hh⟩
  · obtain rfl:a=none:=h1
    obtain rfl:cap=0:=h2
    have hle:len≤0:=h.le
    obtain rfl:len=0:=by omega
    obtain rfl:t=[]:=List.eq_nil_of_length_eq_zero hlen
    have HB:Hi (Hd w0 w Sl.nil (cmpct [])):=⟨rfl,Nat.le_refl _,h.below,.inl ⟨rfl,rfl⟩⟩
    clear h hlen hl hle
    unfold Sl.val
    simp only
    go_enter func45,ntmps45
    go_wp2_with fail
    go_ret
    exact⟨Sl.nil,rfl,Nat.le_refl _,HB.o,Frm.refl _ _⟩
  · obtain rfl:a=some ⟨g,off,none⟩:=ha
    subst hlen
    have hle:t.length≤cap:=h.le
    have hsz:t.toArray.size=t.length:=by simp
    have hc:=Go.Proofs.AnyE.slices_Compact Zjq (Value.int .i64) (fun _=>rfl) (EqlAt.intD _ _ .i64) (NeqAt.intD _ _ .i64) 0 zeroValue3 g off cap t.toArray w hh (by rw [hsz];have:t.length≤1000000:=hl;omega) (by rw [hsz];exact hle)
    change Calls prog 45 _ _ _ at hc
    rw [hsz] at hc
    refine hc.mono ?_
    rintro e w' ⟨rfl,q,rfl⟩
    have hcl:=ZlA t
    have hb:=ZhE (n:=q) (os:=#[]) (off:=off) (cmpct t ++ List.replicate (t.length-(cmpct t).length) 0).toArray hg h.below
    have hfm:=ZmA (s:=⟨some ⟨g,off,none⟩,t.length,cap⟩) (w:=w) (off:=off) (n:=q) (os:=#[]) (cmpct t ++ List.replicate (t.length-(cmpct t).length) 0).toArray rfl
    rw [grow_empty] at hb hfm
    refine⟨⟨some ⟨g,off,none⟩,(cmpct t).length,cap⟩,rfl,hcl,⟨rfl,by show (cmpct t).length≤cap;omega,hb,.inr ⟨g,off,rfl,hg,?_,fun j hj=>?_⟩⟩,hfm⟩
    · have:=hb.size
      simp [putRow,mapBlock,Sort.ahead]
      omega
    · have hj':j<(cmpct t).length:=by simpa using hj
      have hp:=holds_putRow (Value.int .i64) _ g off t.toArray (cmpct t ++ List.replicate (t.length-(cmpct t).length) 0).toArray (holds_ahead _ _ q _ _ _ hh) (by simp;omega)
      have:=hp j (by simp;omega)
      refine⟨this.1.trans ?_,this.2⟩
      rw [getElem!_pos _ j (by simp;omega),getElem!_pos (cmpct t).toArray j hj]
      simp [hj']
open Go.RowKit Go.Sort Go.Lib Go.Shelf
structure Ry where
  val:Rx
  fit:val.r.key<18446744073709551616
instance:Inhabited Ry:=⟨⟨Rx.zero,by decide⟩⟩
def Ry.enc (y:Ry):List Value:=y.1.cells
def Ry.cf (x y:Ry):Int:=cmp x.1.r.key y.1.r.key
theorem Ry.lt (x y:Ry):ltOf Ry.cf x y=decide (Fl.rk x.1.r.key<Fl.rk y.1.r.key):=by
 have h1:=Zg3 x.2 y.2;unfold ltOf Ry.cf cmp;by_cases c1:Fl.less x.1.r.key y.1.r.key=true
 · rw [if_pos c1,decide_eq_true (h1.1 c1)];rfl
 · rw [if_neg c1,decide_eq_false (fun h=>c1 (h1.2 h))];split <;> rfl
theorem Ry.swo:SWO (ltOf Ry.cf) where
 irrefl x:=by rw [Ry.lt];simp
 trans x y z h1 h2:=by rw [Ry.lt] at *;simp at *;omega
 ntrans x y z h1 h2:=by rw [Ry.lt] at *;simp at *;omega
theorem Zla (x y:Rx)(hx:x.r.key<18446744073709551616)(hy:y.r.key<18446744073709551616)(W:World) :
    Calls prog 89 #[x.val,y.val] W fun e w'=>e=.returned (.int .i64 (cmp x.r.key y.r.key))∧∃q os',w'=grow (W.drewN q) os':=by
  have HC:=Zh (fun w=>ZeG x.r.key y.r.key hx hy w);have ab:=Zab W (.cells #[.float .f64 x.r.key,.bool x.r.dead,.slice x.a x.n x.c,.int .i64 x.r.wr,.int .i64 x.r.cell,.int .i64 x.r.no] 39);have aa:=Zab (W.alloc (.cells #[.float .f64 x.r.key,.bool x.r.dead,.slice x.a x.n x.c,.int .i64 x.r.wr,.int .i64 x.r.cell,.int .i64 x.r.no] 39)) (.cells #[.float .f64 y.r.key,.bool y.r.dead,.slice y.a y.n y.c,.int .i64 y.r.wr,.int .i64 y.r.cell,.int .i64 y.r.no] 39);have c0:=((Zai W x.r (.slice x.a x.n x.c)).keep aa).c0;have hY:=Zai (W.alloc (.cells #[.float .f64 x.r.key,.bool x.r.dead,.slice x.a x.n x.c,.int .i64 x.r.wr,.int .i64 x.r.cell,.int .i64 x.r.no] 39)) y.r (.slice y.a y.n y.c);rw [Zae] at hY;have d0:=hY.c0;clear ab aa hY;generalize cmp x.r.key y.r.key=z at *;unfold Rx.val Rw.val;go_enter func89,ntmps89;go_wp2_with fail;refine(HC.o _).mono ?_;rintro e w1 ⟨rfl,hw⟩;obtain rfl:=hw.symm;go_wp2;go_ret;exact⟨rfl,0,_,by rw [alloc_eq_grow,alloc_eq_grow,grow_grow];rfl⟩
theorem ZkZ (blk off size:Nat)(w:World):CmpLays prog 89 #[] Ry.enc 6 Ry.cf blk off size w:=
 fun _ _ _ _ x y=>Zla x.1 y.1 x.2 y.2 _
theorem Zrv (w:World):(isAgg (Zbc.t 24)).run prog w=.ok true w:=by
 show (isAgg 39).run prog w=.ok true w;simp [go_sem]
theorem Zqg (w:World):(Go.sizeOf (Zbc.t 24)).run prog w=.ok 6 w:=by
 show (Go.sizeOf 39).run prog w=.ok 6 w;simp [go_sem]
theorem Zfv (d:Array Ry)(os:Array Obj):Frm (fun k=>k=g) w (sortWorldK Ry.enc 6 w g off n d os):=by
 refine⟨rfl,rfl,rfl,size_sortWorldK_c _ _ _ _ _ _ _ _,fun k hk aa=>?_⟩;simp only [sortWorldK,grow,putRowK,putRow,mapBlock,Sort.ahead];rw [Array.getElem?_append_left (by simpa using hk),Array.getElem?_modify];rw [if_neg (fun e=>aa e.symm)]
structure Znt (w w':World) (s:Sl) (R R':List Rx):Prop where
  perm:R'.Perm R
  up:R'.Pairwise fun x y=>Fl.rk x.r.key≤Fl.rk y.r.key
  at':∀j,j<R'.length→∃b off,s.a=some ⟨b,off,none⟩∧RwAt w' b (off+j*6) (R'.getD j Rx.zero)
  frm:Frm (fun k=>s.blk=some k) w w'
theorem ZhW (w:World)(s:Sl)(R:List Rx)(h:Own 39 6 w s (Zav R))(hk:∀x∈R,x.r.key<18446744073709551616)(hl:R.length<1000000) :
    Calls prog 88 #[s.val,.func (.func 89) #[] #[]] w fun e w'=>e=.returned (.tuple #[])∧∃R',Znt w w' s R R':=by
  (have ae:R.length=s.len:=by have:=h.1;rw [Zbs] at this;omega);rcases h.2 with ⟨rfl,h0⟩ | ⟨g,off,cur,ha,hg,ar,aq,an,ht⟩
  · have hR:R=[]:=by
     have:=congrArg List.length h0;rw [Zbs] at this;exact List.eq_nil_of_length_eq_zero (by simp at this;omega)
    subst hR;have hc:=Go.Proofs.AnyF.slices_SortFunc_none (P:=prog) (ρ:=Zbc) { Zln with } none 0 (.func (.func 89) #[] #[]) w;refine Calls.mono hc ?_;rintro e w' ⟨rfl,hw⟩;subst hw;exact⟨rfl,[],.refl _,List.Pairwise.nil,(fun j hj=>absurd hj (Nat.not_lt_zero _)),Frm.refl _ _⟩
  · obtain⟨sa,sn,sc⟩:=s;simp only at ha ae ar aq an ht;subst ha;obtain⟨D,hD⟩:∃D:List Ry,D.map Ry.val=R:=⟨R.attach.map (fun x=>(⟨x.1,hk x.1 x.2⟩:Ry)),by rw [List.map_map];exact List.attach_map_subtype_val R⟩;(have ah:D.length=sn:=by rw [← ae,← hD,List.length_map]);have ak:g<w.heap.size:=(Array.getElem?_eq_some_iff.1 hg).1;have ac:∀(E:List Ry) (i:Nat),i<E.length→(E.map Ry.val).getD i Rx.zero=(E.toArray[i]!).1:=by
     intro E i hi;rw [getElem!_pos E.toArray i (by simpa using hi)];simp [List.getD,hi]
    have hH:HoldsK Ry.enc 6 w g off D.toArray:=by
     intro t ag;rw [size_flatK] at ag;(have aw:t<D.length*6:=by simpa using ag);rw [get_flatK _ _ _ _ ag];refine⟨?_,frozen_of_row w g _ _ _ hg⟩;(have hj:t / 6<R.length:=by rw [ae,← ah];omega);have hm:t % 6<6:=Nat.mod_lt _ (by decide);have aa:=Zcx R (t / 6) (t % 6) hj hm;(have e:t / 6*6+t % 6=t:=by omega);rw [e] at aa;have ad:=ac D (t / 6) (by omega);rw [hD] at ad;rw [ad] at aa;have am:((D.toArray[t / 6]!).1.cells)[t % 6]? = some (((D.toArray[t / 6]!).1.cells)[t % 6]!):=by
      have al:t % 6<((D.toArray[t / 6]!).1.cells).length:=hm;rw [getElem!_pos ((D.toArray[t / 6]!).1.cells) (t % 6) al];exact List.getElem?_eq_getElem al
     rw [am] at aa;have ab:=h.cell rfl t _ aa;rw [Addr.add_lit] at ab;exact ab
    have eg:∀args w,(callFunc 89 args).run prog w=.ok (.enter 89 args) w:=Pl.qi func89;have hc:=Go.Proofs.AnyQ.slices_SortFunc (P:=prog) (ρ:=Zbc) Zln 6 Zrv Zqg Ry.enc (fun _=>rfl) (fun x v hv=>Zbt [x.1] v (by unfold Ry.enc at hv;simpa [Zav] using hv)) Ry.cf Ry.swo 89 #[] g off sc D.toArray w eg (ZkZ g off _ w) hH ak (by simp;omega);(have af:D.toArray.size=sn:=by simpa using ah);rw [af] at hc;refine Calls.mono hc ?_;rintro e w' ⟨rfl,d',n,os,hp,hs,hw⟩;(have ao:d'.size=sn:=by rw [hp.1,af]);have au:d'.toList.Perm D:=by
     have:=hp.2.2;rw [Array.extract_eq_self_of_le (by omega),Array.extract_eq_self_of_le (by omega)] at this;simpa using this
    refine⟨rfl,d'.toList.map Ry.val,?_,?_,?_,?_⟩
    · rw [← hD];exact au.map _
    · rw [List.pairwise_map];refine List.pairwise_iff_getElem.2 fun i j hi hj ap=>?_;(have hj':j<d'.size:=by simpa using hj);have:=hs i j (Nat.zero_le _) ap (by omega);rw [getElem!_pos d' j hj',getElem!_pos d' i (by omega),Ry.lt,decide_eq_false_iff_not] at this;simp only [Array.getElem_toList];omega
    · intro j hj;(have aj:j<d'.toList.length:=by simpa using hj);(have av:j<d'.size:=by simpa using aj);have ai:=holdsK_sortWorldK_c Ry.enc 6 w g off D.toArray d' n os hH ak (by rw [ao,af]);rw [← hw] at ai;have ad:=ac d'.toList j aj;rw [Array.toArray_toList] at ad;refine⟨g,off,rfl,?_⟩;rw [ad];have hc:∀t,t<6→w'.cell? ⟨g,off+(j*6+t),none⟩=some ((d'[j]!).1.cells[t]!):=by
       intro t ht;have h1:=(ai (j*6+t) (by rw [size_flatK];omega)).1;rw [get_flatK _ _ _ _ (by omega),show (j*6+t) / 6=j by omega,show (j*6+t) % 6=t by omega] at h1;exact h1
      exact⟨hc 0 (by omega),hc 1 (by omega),hc 2 (by omega),hc 3 (by omega),hc 4 (by omega),hc 5 (by omega)⟩
    · rw [hw];exact(Zfv d' os).mono (fun k _ e=>by rw [e];rfl)
def inP (lo hi:Nat) (y:Sx):Bool:=!Fl.less y.x.r.key lo && Fl.less y.x.r.key hi
theorem Zld {lo hi:Nat}{l:List Hr}(e:S.map Sx.hr=l)(hg:∀g∈l,Zfu g.r)(ho:ZbG l){R':List Rx}(hp:R'.Perm ((S.filter (inP lo hi)).map Sx.x))(hu:R'.Pairwise fun x y=>Fl.rk x.r.key≤Fl.rk y.r.key):rws R'=Zax lo hi l:=by
 obtain⟨p1,p2,p3⟩:=ZmB (lo:=lo) (hi:=hi) hg ho;refine Znl ?_ p1 (fun z=>?_)
 · have hS:S.Pairwise fun a b=>Fl.rk a.x.r.key≠Fl.rk b.x.r.key:=by
    have:=(ZhI e hg).2 ho;unfold rkS List.Nodup at this;rw [List.pairwise_map] at this;exact this.imp (fun h h2=>h (by rw [h2]))
   have ab:R'.Pairwise fun a b=>Fl.rk a.r.key≠Fl.rk b.r.key:=by
    refine(hp.pairwise_iff (fun h=>h.symm)).2 ?_;rw [List.pairwise_map];exact hS.filter _
   unfold rws;rw [List.pairwise_map];refine(hu.and ab).imp (fun h=>?_);show Fl.rk _<Fl.rk _;omega
 · rw [p3];unfold rws;constructor
   · intro hz;obtain⟨x,hx,rfl⟩:=List.mem_map.1 hz;obtain⟨y,hy,rfl⟩:=List.mem_map.1 (hp.mem_iff.1 hx);obtain⟨ac,aa⟩:=List.mem_filter.1 hy;unfold inP at aa;simp only [Bool.and_eq_true,Bool.not_eq_true'] at aa;exact⟨y.hr,by rw [← e];exact List.mem_map_of_mem ac,rfl,aa⟩
   · rintro ⟨h,hh,rfl,h1,h2⟩;rw [← e] at hh;obtain⟨y,hy,rfl⟩:=List.mem_map.1 hh;refine List.mem_map.2 ⟨y.x,hp.mem_iff.2 (List.mem_map.2 ⟨y,List.mem_filter.2 ⟨hy,?_⟩,rfl⟩),rfl⟩;unfold inP;simp only [Sx.hr] at h1 h2;rw [h1,h2];rfl
theorem Std.frm {F:Nat→Prop}(h:Std w0 w s S)(f:Frm F w w')(hk:∀k,F k→∃cur,w.heap[k]? = some (.cells cur 39 (0,0)))(hn:∀k,F k→w0.heap.size≤k):Std w0 w' s S:=by
 refine⟨Own.frame h.own (fun k hh=>?_),h.new,h.below.trans (f.below h.below.size hn),fun y hy=>(h.flt y hy).frm f (fun k hh C fr hc=>?_),h.fits⟩
 · obtain⟨cur,ab⟩:=Own.kind h.own hh;refine f.block k (Array.getElem?_eq_some_iff.1 ab).1 (fun e=>?_);obtain⟨c2,aa⟩:=hk k e;rw [ab] at aa;simp only [Option.some.injEq,Obj.cells.injEq] at aa;exact absurd aa.2.1 (by decide)
 · obtain⟨c2,aa⟩:=hk k hh;rw [hc] at aa;simp only [Option.some.injEq,Obj.cells.injEq] at aa;exact absurd aa.2.1 (by decide)
structure RwI (w0 w:World) (s sR:Sl) (S:List Sx) (R:List Rx):Prop where
  st:Std w0 w s S
  rq:Rq w0 w sR R
  flt:∀x∈R,ColF w x
theorem RwI.keep {sR:Sl}{R:List Rx}(h:RwI w0 w s sR S R)(hb:Bl w w'):RwI w0 w' s sR S R:=⟨h.st.keep hb,h.rq.keep hb,fun x hx=>(h.flt x hx).keep hb⟩
theorem RwI.one {sR:Sl}{R:List Rx}(h:RwI w0 w s sR S R)(x:Rx)(hx:ColF w x)(hf:x.r.fits)(hl:R.length+1≤1000000) :
    ∃s' W,(∀ty,(Builtin.append_ #[49,49] ty #[sR.val,.slice (some ⟨w.heap.size,0,none⟩) 1 1]).run prog (w.alloc (.cells #[.float .f64 x.r.key,.bool x.r.dead,.slice x.a x.n x.c,.int .i64 x.r.wr,.int .i64 x.r.cell,.int .i64 x.r.no] 39))=.ok s'.val W)∧RwI w0 W s s' S (R ++ [x]):=by
  obtain⟨s',W,ac,hq,ab⟩:=h.rq.one x (hx.colR w0) hf hl;have hK:∀k,sR.blk=some k→∃cur,w.heap[k]? = some (.cells cur 39 (0,0)):=fun k hk=>h.rq.own.kind hk;have hF:∀k,sR.blk=some k→∀C fr,w.heap[k]? ≠ some (Obj.cells C 32 fr):=by
   intro k hk C fr hc;obtain⟨cur,aa⟩:=hK k hk;rw [hc] at aa;simp only [Option.some.injEq,Obj.cells.injEq] at aa;exact absurd aa.2.1 (by decide)
  refine⟨s',W,ac,h.st.frm ab hK h.rq.new,hq,fun y hy=>?_⟩;rcases List.mem_append.1 hy with hy | hy
  · exact(h.flt y hy).frm ab hF
  · rw [List.mem_singleton.1 hy];exact hx.frm ab hF
def Zlt (w:World) (l:List Lf) (lo hi:Nat) (e:Ending) (w':World):Prop:=
  (MayH l∧Zep w (Zax lo hi (allH l)) e w')∨(¬MayH l∧Zep w [] e w')
theorem ZlY (w:World)(s:Sl)(L:List Lb)(h:Gl (fun _=>True) w s L)(lo hi:Nat)(bl:lo<18446744073709551616)(bj:hi<18446744073709551616) :
    Calls prog 43 #[s.val,.float .f64 lo,.float .f64 hi] w (Zlt w (lfs L) lo hi):=by
  have bo:∀(w:World) (a:Addr) (m:Mode) (x:Nat),(store a (.float .f64 x) m).run prog w=stored prog w a (.float .f64 x) m:=fun w a m x=>run_store prog w a _ m rfl;have HO:=Zh (ZgC w s L h);have bh:=Zh h.good;obtain⟨a,len,cap⟩:=s;clear h;unfold Sl.val at *;simp only at *;go_enter func43,ntmps43;go_wp2_with fail;refine HO.o.mono ?_;intro e w1 ho;obtain⟨⟨sa,sn,sc⟩,S,k,rfl,hs,hk⟩:=ho.one;have HK:Hi ((MayH (lfs L)∧S.map Sx.hr=allH (lfs L))∨(¬MayH (lfs L)∧S=[])):=by
   rcases hk with ⟨h1,_,h2⟩ | ⟨h1,_,h2⟩
   · exact .inl ⟨h1,h2⟩
   · exact .inr ⟨h1,h2⟩
  have az:Hi (S.length≤62*64):=by
   rcases HK.o with ⟨h1,h2⟩ | ⟨h1,h2⟩
   · exact h1.len h2
   · rw [h2];exact Nat.zero_le _
  have ar:Hi (S.length=sn):=hs.len;(have bp:sn≤62*64:=by rw [← ar.o];exact az.o);have ax:Hi (RwI w w1 ⟨sa,sn,sc⟩ ⟨none,0,0⟩ S (((S.take 0).filter (inP lo hi)).map Sx.x)):=
   ⟨hs,⟨⟨rfl,.inl ⟨rfl,rfl⟩⟩,(fun k hk=>by cases hk),hs.below,(fun x hx=>by cases hx),fun x hx=>by cases hx⟩,fun x hx=>by cases hx⟩
  clear ho hs hk HO;unfold Sl.val;simp only;go_wp2_with fail;go_loopw [9,19] (fun v9 iv wr=>∃(i:Nat) (sR:Sl),i≤sn∧iv=.int .i64 (i:Nat)∧v9=.slice sR.a sR.len sR.cap∧Hi (RwI w wr ⟨sa,sn,sc⟩ sR S (((S.take i).filter (inP lo hi)).map Sx.x))) (fun _ iv _=>sn-(intOf iv).toNat)
  case atStart=>exact ⟨0,⟨none,0,0⟩,Nat.zero_le _,rfl,rfl,ax⟩
  case round =>
   clear ax;obtain⟨i,sR,bk,rfl,rfl,hI⟩:=hrel;rcases Nat.lt_or_ge i sn with bf | an
   · (have j1:(i:Int)<(sn:Int):=by omega);(have ao:i<S.length:=by rw [ar.o];exact bf);obtain⟨b,o,ha,c0⟩:=hI.o.st.cell ao;replace ha:sa=some ⟨b,o,none⟩:=ha;subst ha;(have an:S.getD i Sx.zero=S[i]:=by simp [List.getD,ao]);rw [an] at c0;have ay:=Zh (Zi0 c0);have bm:=Zh (Zgx b o sn sc i bf);have ae:S[i]∈S:=List.getElem_mem ao;have ad:=hI.o.st.fits _ ae;have ai:=hI.o.st.flt _ ae;have bg:S.take (i+1)=S.take i ++ [S[i]]:=List.take_succ_eq_append_getElem ao;have am:=Zh bg;generalize S[i]=y at *;have au:=Zab wr (.cells y.cells.toArray 118);have av:=hI.o.keep au;have bd:=ai.keep au;have aw:=SxBlk.new wr y;have ag:=Zh (ZjJ y wr);generalize bc:wr.alloc (.cells y.cells.toArray 118)=W4 at *;have bn:=Zh bc;have x2:=aw.c2;have ab:=Zh (Zbl wr.heap.size 2 y.x W4 aw.rw);have ah:(((S.take i).filter (inP lo hi)).map Sx.x).length+1≤1000000:=by
      rw [List.length_map];have h1:=List.length_filter_le (inP lo hi) (S.take i);rw [List.length_take] at h1;omega
     obtain⟨s',W5,aa,ba⟩:=av.one y.x bd ad ah;have aq:=Zh aa;have af:=Zh (fun w=>Zik y.x.r.key lo hi ad.key bl bj w);have HP:Hi ((!Fl.less y.x.r.key lo && Fl.less y.x.r.key hi)=inP lo hi y):=rfl;rw [HP.o] at af;have bi:=Zh av;have ap:=Zh ba;clear c0 an ae ad ai bg au av bd aw bc ah aa ba HP;unfold Sl.val at aq;cases hp:inP lo hi y with
     | false =>
      rw [hp] at af;have HN:Hi (RwI w W4 ⟨some ⟨b,o,none⟩,sn,sc⟩ sR S (((S.take (i+1)).filter (inP lo hi)).map Sx.x)):=by
       show RwI _ _ _ _ _ _;rw [am.o,List.filter_append,List.filter_cons,hp];simpa using bi.o
      clear hp am ap aq ab;go_wp2_with (first | refine Zah _ rfl 118 (.tmp 21) rfl (.pointer (some ⟨b,o+i*8,none⟩)) _ rfl ay.o ?_ | refine Zad _ rfl rfl 118 (.tmp 11) (.tmp 22) rfl (.pointer (some ⟨wr.heap.size,0,none⟩)) _ rfl rfl W4 ag.o ?_);refine(af.o _).mono ?_;rintro e w3 ⟨rfl,hw⟩;obtain rfl:=hw.symm;go_wp2;go_roundw;exact ⟨i+1,sR,by omega,by go_num,rfl,HN⟩;simp only [intOf];omega
     | true =>
      rw [hp] at af;have HN:Hi (RwI w W5 ⟨some ⟨b,o,none⟩,sn,sc⟩ s' S (((S.take (i+1)).filter (inP lo hi)).map Sx.x)):=by
       show RwI _ _ _ _ _ _;rw [am.o,List.filter_append,List.filter_cons,hp,List.map_append];exact ap.o
      clear hp am ap;unfold Rx.val Rw.val at ab;go_wp2_with (first | refine Zah _ rfl 118 (.tmp 21) rfl (.pointer (some ⟨b,o+i*8,none⟩)) _ rfl ay.o ?_ | refine Zad _ rfl rfl 118 (.tmp 11) (.tmp 22) rfl (.pointer (some ⟨wr.heap.size,0,none⟩)) _ rfl rfl W4 ag.o ?_);refine(af.o _).mono ?_;rintro e w3 ⟨rfl,hw⟩;obtain rfl:=hw.symm;go_wp2_with (first | refine Zah _ rfl 39 (.tmp 30) rfl (.pointer (some ⟨wr.heap.size,2,none⟩)) _ rfl ab.o ?_ | (at_builtin;refine Zaq _ rfl 49 (.tmp 29) (.tmp 32) rfl (.slice sR.a sR.len sR.cap) (.slice (some ⟨W4.heap.size,0,none⟩) 1 1) (.slice s'.a s'.len s'.cap) rfl rfl W5 aq.o ?_));go_roundw;exact ⟨i+1,s',by omega,by go_num,rfl,HN⟩;simp only [intOf];omega
   · (have j1:¬(i:Int)<(sn:Int):=by omega);have HT:Hi (RwI w wr ⟨sa,sn,sc⟩ sR S ((S.filter (inP lo hi)).map Sx.x)):=by
      have:=hI.o;rw [List.take_of_length_le (by rw [ar.o];exact an)] at this;exact this
     clear hI;obtain⟨ra,rn,rc⟩:=sR;have ah:((S.filter (inP lo hi)).map Sx.x).length<1000000:=by
      rw [List.length_map];have h1:=List.length_filter_le (inP lo hi) S;have:=az.o;omega
     have al:=Zh (ZhW wr ⟨ra,rn,rc⟩ _ HT.o.rq.own (fun x hx=>(HT.o.rq.fits x hx).key) ah);clear ah;unfold Sl.val at al;simp only at al;go_wp2_with fail;refine al.o.mono ?_;rintro e w3 ⟨rfl,R',hR⟩;have HR':=Zh hR;clear hR al;go_wp2;go_ret;have be:=HR'.o.frm;have hB:Bl w w3:=HT.o.rq.below.trans (be.below HT.o.rq.below.size HT.o.rq.new);have hF:∀k,(Sl.mk ra rn rc).blk=some k→∀C fr,wr.heap[k]? ≠ some (Obj.cells C 32 fr):=by
      intro k hk C fr hc;obtain⟨cur,ac⟩:=HT.o.rq.own.kind hk;rw [hc] at ac;simp only [Option.some.injEq,Obj.cells.injEq] at ac;exact absurd ac.2.1 (by decide)
     have aj:∀x∈R',ColF w3 x:=fun x hx=>(HT.o.flt x (HR'.o.perm.mem_iff.1 hx)).frm be hF;(have ak:R'.length=rn:=by rw [HR'.o.perm.length_eq];exact HT.o.rq.len);have bb:Za9 w3 ⟨ra,rn,rc⟩ R':=⟨⟨ak,fun j hj=>HR'.o.at' j (by rw [ak];exact hj),fun x hx=>(aj x hx).fs,fun x hx=>HT.o.rq.fits x (HR'.o.perm.mem_iff.1 hx)⟩,HT.o.rq.own.lecap,fun e=>HT.o.rq.own.nilcap e,aj⟩;rcases HK.o with ⟨hm,he⟩ | ⟨hm,he⟩
     · exact .inl ⟨hm,hB,⟨ra,rn,rc⟩,R',rfl,bb,Zld he bh.o hm.keys HR'.o.perm HR'.o.up⟩
     · refine .inr ⟨hm,hB,⟨ra,rn,rc⟩,R',rfl,bb,?_⟩;have:=HR'.o.perm;rw [he] at this;rw [List.Perm.eq_nil this];rfl
end Go.Proofs.YtiecfcjlhldhdaaGreat
