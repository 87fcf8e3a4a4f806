/-
  Lemmas.
-/
import Derived.Test.YtpnlebpnhmibfaaGreatBg
import Derived.Test.YtpnlebpnhmibfaaGreatDd
import Derived.Test.YtpnlebpnhmibfaaGreatDe
import Derived.Test.YtpnlebpnhmibfaaGreatBl
namespace Go.Proofs.YtpnlebpnhmibfaaGreat
open Go.RowKit
set_option linter.unusedVariables false
set_option maxRecDepth 100000
set_option maxHeartbeats 4000000
variable {w W W' w':World}{s v t:Sl}{r x:Nat}{d:Dv}{Ld:DvL}{h sy:Int}{fn:Func}
def Zah (d:Dv) (Ld:DvL) (v:Sl) (h:Int) (s:Sl) (sy:Int):Array Value:=#[Ld.kp.val,.int .i64 d.kept.base,Ld.ks.val,Ld.np.val,.int .i64 d.now.base,Ld.ns.val,Ld.ds.val,.bool d.gone,.int .i64 d.armed,v.val,.int .i64 h,s.val,.int .i64 sy]
def rV (d:Dv) (Ld:DvL) (v:Sl) (h:Int) (s:Sl) (sy:Int):Value:=.agg (Zah d Ld v h s sy)
def RBlk (w:World) (g:Nat) (d:Dv) (Ld:DvL) (v:Sl) (h:Int) (s:Sl) (sy:Int):Prop:=w.heap[g]? = some (.cells (Zah d Ld v h s sy) 43 (0,0))
section
variable {w w' : World} {g : Nat} {d : Dv} {Ld : DvL} {v : Sl} {h : Int} {s : Sl} {sy : Int}
theorem RBlk.c0 (k:RBlk w g d Ld v h s sy):w.cell? ⟨g,0,none⟩=some (Ld.kp.val):=(Addr.cell0 k).trans rfl
theorem RBlk.c1 (k:RBlk w g d Ld v h s sy):w.cell? ⟨g,1,none⟩=some (.int .i64 d.kept.base):=(Addr.cell0 k).trans rfl
theorem RBlk.c2 (k:RBlk w g d Ld v h s sy):w.cell? ⟨g,2,none⟩=some (Ld.ks.val):=(Addr.cell0 k).trans rfl
theorem RBlk.c3 (k:RBlk w g d Ld v h s sy):w.cell? ⟨g,3,none⟩=some (Ld.np.val):=(Addr.cell0 k).trans rfl
theorem RBlk.c4 (k:RBlk w g d Ld v h s sy):w.cell? ⟨g,4,none⟩=some (.int .i64 d.now.base):=(Addr.cell0 k).trans rfl
theorem RBlk.c5 (k:RBlk w g d Ld v h s sy):w.cell? ⟨g,5,none⟩=some (Ld.ns.val):=(Addr.cell0 k).trans rfl
theorem RBlk.c6 (k:RBlk w g d Ld v h s sy):w.cell? ⟨g,6,none⟩=some (Ld.ds.val):=(Addr.cell0 k).trans rfl
theorem RBlk.c7 (k:RBlk w g d Ld v h s sy):w.cell? ⟨g,7,none⟩=some (.bool d.gone):=(Addr.cell0 k).trans rfl
theorem RBlk.c8 (k:RBlk w g d Ld v h s sy):w.cell? ⟨g,8,none⟩=some (.int .i64 d.armed):=(Addr.cell0 k).trans rfl
theorem RBlk.c9 (k:RBlk w g d Ld v h s sy):w.cell? ⟨g,9,none⟩=some (v.val):=(Addr.cell0 k).trans rfl
theorem RBlk.c10 (k:RBlk w g d Ld v h s sy):w.cell? ⟨g,10,none⟩=some (.int .i64 h):=(Addr.cell0 k).trans rfl
theorem RBlk.c11 (k:RBlk w g d Ld v h s sy):w.cell? ⟨g,11,none⟩=some (s.val):=(Addr.cell0 k).trans rfl
theorem RBlk.c12 (k:RBlk w g d Ld v h s sy):w.cell? ⟨g,12,none⟩=some (.int .i64 sy):=(Addr.cell0 k).trans rfl
theorem RBlk.fz (k:RBlk w g d Ld v h s sy)(o:Nat):w.frozen? ⟨g,o,none⟩=false:=frozen_of_row w g _ _ 43 k
theorem RBlk.lt (k:RBlk w g d Ld v h s sy):g<w.heap.size:=(Array.getElem?_eq_some_iff.1 k).1
theorem RBlk.keep (k:RBlk w g d Ld v h s sy)(e:w'.heap[g]? = w.heap[g]?):RBlk w' g d Ld v h s sy:=e.trans k
theorem RBlk.below (k:RBlk w g d Ld v h s sy)(hb:Below w.heap.size w w'):RBlk w' g d Ld v h s sy:=k.keep (hb.block g k.lt)
theorem ZaZ (w:World)(d:Dv)(Ld:DvL)(v:Sl)(h:Int)(s:Sl)(sy:Int):RBlk (w.alloc (.cells (Zah d Ld v h s sy) 43)) w.heap.size d Ld v h s sy:=heap_alloc_new w _
theorem ldR (k:RBlk w g d Ld v h s sy):(Instr.loadAt 43 (.pointer (some ⟨g,0,none⟩))).run Tryz.prog w=.ok (rV d Ld v h s sy) w:=by
 have c0:=k.c0;have c1:=k.c1;have c2:=k.c2;have c3:=k.c3;have c4:=k.c4;have c5:=k.c5;have c6:=k.c6;have c7:=k.c7;have c8:=k.c8;have c9:=k.c9;have c10:=k.c10;have c11:=k.c11;have c12:=k.c12;unfold rV Zah;simp [go_sem,Instr.loadAt,c0,c1,c2,c3,c4,c5,c6,c7,c8,c9,c10,c11,c12]
theorem ldRD (k:RBlk w g d Ld v h s sy):(Instr.loadAt 37 (.pointer (some ⟨g,0,none⟩))).run Tryz.prog w=.ok (d.val Ld) w:=by
 have c0:=k.c0;have c1:=k.c1;have c2:=k.c2;have c3:=k.c3;have c4:=k.c4;have c5:=k.c5;have c6:=k.c6;have c7:=k.c7;have c8:=k.c8;unfold Dv.val;simp [go_sem,Instr.loadAt,c0,c1,c2,c3,c4,c5,c6,c7,c8]
theorem ldRI (k:RBlk w g d Ld v h s sy):(Instr.loadAt 41 (.pointer (some ⟨g,11,none⟩))).run Tryz.prog w=.ok s.val w:=by
 have c11:=k.c11;unfold Sl.val at *;simp [go_sem,Instr.loadAt,c11]
theorem stR (k:RBlk w g d Ld v h s sy)(d2:Dv)(Ld2:DvL)(v2:Sl)(h2:Int)(s2:Sl)(sy2:Int):∃W,(Instr.storeAt 43 (.pointer (some ⟨g,0,none⟩)) (rV d2 Ld2 v2 h2 s2 sy2)).run Tryz.prog w=.ok () W∧RBlk W g d2 Ld2 v2 h2 s2 sy2∧Frm (fun i=>i=g) w W∧W.heap.size=w.heap.size:=by
 have c0:=k.c0;have c1:=k.c1;have c2:=k.c2;have c3:=k.c3;have c4:=k.c4;have c5:=k.c5;have c6:=k.c6;have c7:=k.c7;have c8:=k.c8;have c9:=k.c9;have c10:=k.c10;have c11:=k.c11;have c12:=k.c12;have ff:=k.fz;refine⟨(((((((((((((w.setCell ⟨g,0,none⟩ (Ld2.kp.val)).setCell ⟨g,1,none⟩ (.int .i64 d2.kept.base)).setCell ⟨g,2,none⟩ (Ld2.ks.val)).setCell ⟨g,3,none⟩ (Ld2.np.val)).setCell ⟨g,4,none⟩ (.int .i64 d2.now.base)).setCell ⟨g,5,none⟩ (Ld2.ns.val)).setCell ⟨g,6,none⟩ (Ld2.ds.val)).setCell ⟨g,7,none⟩ (.bool d2.gone)).setCell ⟨g,8,none⟩ (.int .i64 d2.armed)).setCell ⟨g,9,none⟩ (v2.val)).setCell ⟨g,10,none⟩ (.int .i64 h2)).setCell ⟨g,11,none⟩ (s2.val)).setCell ⟨g,12,none⟩ (.int .i64 sy2)),?_,?_,(((((((((((((Frm.refl (fun i=>i=g) w).setCell (p:=⟨g,0,none⟩) rfl _).setCell (p:=⟨g,1,none⟩) rfl _).setCell (p:=⟨g,2,none⟩) rfl _).setCell (p:=⟨g,3,none⟩) rfl _).setCell (p:=⟨g,4,none⟩) rfl _).setCell (p:=⟨g,5,none⟩) rfl _).setCell (p:=⟨g,6,none⟩) rfl _).setCell (p:=⟨g,7,none⟩) rfl _).setCell (p:=⟨g,8,none⟩) rfl _).setCell (p:=⟨g,9,none⟩) rfl _).setCell (p:=⟨g,10,none⟩) rfl _).setCell (p:=⟨g,11,none⟩) rfl _).setCell (p:=⟨g,12,none⟩) rfl _,by simp only [Zag]⟩
 · unfold rV Zah Sl.val;simp [go_sem,Instr.storeAt,stored,c0,c1,c2,c3,c4,c5,c6,c7,c8,c9,c10,c11,c12,ff]
 · unfold RBlk at k;have q0:=heap_setCell_same w g 0 _ 43 (Ld2.kp.val) k;have q1:=heap_setCell_same _ g 1 _ 43 (.int .i64 d2.kept.base) q0;have q2:=heap_setCell_same _ g 2 _ 43 (Ld2.ks.val) q1;have q3:=heap_setCell_same _ g 3 _ 43 (Ld2.np.val) q2;have q4:=heap_setCell_same _ g 4 _ 43 (.int .i64 d2.now.base) q3;have q5:=heap_setCell_same _ g 5 _ 43 (Ld2.ns.val) q4;have q6:=heap_setCell_same _ g 6 _ 43 (Ld2.ds.val) q5;have q7:=heap_setCell_same _ g 7 _ 43 (.bool d2.gone) q6;have q8:=heap_setCell_same _ g 8 _ 43 (.int .i64 d2.armed) q7;have q9:=heap_setCell_same _ g 9 _ 43 (v2.val) q8;have q10:=heap_setCell_same _ g 10 _ 43 (.int .i64 h2) q9;have q11:=heap_setCell_same _ g 11 _ 43 (s2.val) q10;have q12:=heap_setCell_same _ g 12 _ 43 (.int .i64 sy2) q11;unfold RBlk;rw [q12];simp [Zah]
theorem stRD (k:RBlk w g d Ld v h s sy)(d2:Dv)(Ld2:DvL):∃W,(Instr.storeAt 37 (.pointer (some ⟨g,0,none⟩)) (d2.val Ld2)).run Tryz.prog w=.ok () W∧RBlk W g d2 Ld2 v h s sy∧Frm (fun i=>i=g) w W∧W.heap.size=w.heap.size:=by
 have c0:=k.c0;have c1:=k.c1;have c2:=k.c2;have c3:=k.c3;have c4:=k.c4;have c5:=k.c5;have c6:=k.c6;have c7:=k.c7;have c8:=k.c8;have ff:=k.fz;refine⟨(((((((((w.setCell ⟨g,0,none⟩ (Ld2.kp.val)).setCell ⟨g,1,none⟩ (.int .i64 d2.kept.base)).setCell ⟨g,2,none⟩ (Ld2.ks.val)).setCell ⟨g,3,none⟩ (Ld2.np.val)).setCell ⟨g,4,none⟩ (.int .i64 d2.now.base)).setCell ⟨g,5,none⟩ (Ld2.ns.val)).setCell ⟨g,6,none⟩ (Ld2.ds.val)).setCell ⟨g,7,none⟩ (.bool d2.gone)).setCell ⟨g,8,none⟩ (.int .i64 d2.armed)),?_,?_,(((((((((Frm.refl (fun i=>i=g) w).setCell (p:=⟨g,0,none⟩) rfl _).setCell (p:=⟨g,1,none⟩) rfl _).setCell (p:=⟨g,2,none⟩) rfl _).setCell (p:=⟨g,3,none⟩) rfl _).setCell (p:=⟨g,4,none⟩) rfl _).setCell (p:=⟨g,5,none⟩) rfl _).setCell (p:=⟨g,6,none⟩) rfl _).setCell (p:=⟨g,7,none⟩) rfl _).setCell (p:=⟨g,8,none⟩) rfl _,by simp only [Zag]⟩
 · unfold Dv.val Sl.val;simp [go_sem,Instr.storeAt,stored,c0,c1,c2,c3,c4,c5,c6,c7,c8,ff]
 · unfold RBlk at k;have q0:=heap_setCell_same w g 0 _ 43 (Ld2.kp.val) k;have q1:=heap_setCell_same _ g 1 _ 43 (.int .i64 d2.kept.base) q0;have q2:=heap_setCell_same _ g 2 _ 43 (Ld2.ks.val) q1;have q3:=heap_setCell_same _ g 3 _ 43 (Ld2.np.val) q2;have q4:=heap_setCell_same _ g 4 _ 43 (.int .i64 d2.now.base) q3;have q5:=heap_setCell_same _ g 5 _ 43 (Ld2.ns.val) q4;have q6:=heap_setCell_same _ g 6 _ 43 (Ld2.ds.val) q5;have q7:=heap_setCell_same _ g 7 _ 43 (.bool d2.gone) q6;have q8:=heap_setCell_same _ g 8 _ 43 (.int .i64 d2.armed) q7;unfold RBlk;rw [q8];simp [Zah]
theorem stRC (k:RBlk w g d Ld v h s sy)(v2:Sl)(h2:Int):∃W,(Instr.storeAt 40 (.pointer (some ⟨g,9,none⟩)) (ckV v2 h2)).run Tryz.prog w=.ok () W∧RBlk W g d Ld v2 h2 s sy∧Frm (fun i=>i=g) w W∧W.heap.size=w.heap.size:=by
 have c9:=k.c9;have c10:=k.c10;have ff:=k.fz;refine⟨((w.setCell ⟨g,9,none⟩ (v2.val)).setCell ⟨g,10,none⟩ (.int .i64 h2)),?_,?_,((Frm.refl (fun i=>i=g) w).setCell (p:=⟨g,9,none⟩) rfl _).setCell (p:=⟨g,10,none⟩) rfl _,by simp only [Zag]⟩
 · unfold ckV Sl.val;simp [go_sem,Instr.storeAt,stored,c9,c10,ff]
 · unfold RBlk at k;have q0:=heap_setCell_same w g 9 _ 43 (v2.val) k;have q1:=heap_setCell_same _ g 10 _ 43 (.int .i64 h2) q0;unfold RBlk;rw [q1];simp [Zah]
theorem stRI (k:RBlk w g d Ld v h s sy)(s2:Sl):∃W,(Instr.storeAt 41 (.pointer (some ⟨g,11,none⟩)) s2.val).run Tryz.prog w=.ok () W∧RBlk W g d Ld v h s2 sy∧Frm (fun i=>i=g) w W∧W.heap.size=w.heap.size:=by
 have c11:=k.c11;have ff:=k.fz;refine⟨(w.setCell ⟨g,11,none⟩ (s2.val)),?_,?_,(Frm.refl (fun i=>i=g) w).setCell (p:=⟨g,11,none⟩) rfl _,by simp only [Zag]⟩
 · unfold Sl.val;simp [go_sem,Instr.storeAt,stored,c11,ff]
 · unfold RBlk at k;have q0:=heap_setCell_same w g 11 _ 43 (s2.val) k;unfold RBlk;rw [q0];simp [Zah]
theorem stRS (k:RBlk w g d Ld v h s sy)(z:Int):∃W,(Instr.storeAt 3 (.pointer (some ⟨g,12,none⟩)) (.int .i64 z)).run Tryz.prog w=.ok () W∧RBlk W g d Ld v h s z∧Frm (fun i=>i=g) w W∧W.heap.size=w.heap.size:=by
 have c12:=k.c12;have ff:=k.fz;refine⟨(w.setCell ⟨g,12,none⟩ (.int .i64 z)),?_,?_,(Frm.refl (fun i=>i=g) w).setCell (p:=⟨g,12,none⟩) rfl _,by simp only [Zag]⟩
 · simp [go_sem,Instr.storeAt,stored,c12,ff]
 · unfold RBlk at k;have q0:=heap_setCell_same w g 12 _ 43 (.int .i64 z) k;unfold RBlk;rw [q0];simp [Zah]
theorem Zaw (hr:fn.results=#[.cell x 43])(k:RBlk w g d Ld v h s sy)(tmps:Array Value)(ht:tmps.getD x undef=.pointer (some ⟨g,0,none⟩)):(results fn tmps).run Tryz.prog w=.ok (rV d Ld v h s sy) w:=by
 have c0:=k.c0;have c1:=k.c1;have c2:=k.c2;have c3:=k.c3;have c4:=k.c4;have c5:=k.c5;have c6:=k.c6;have c7:=k.c7;have c8:=k.c8;have c9:=k.c9;have c10:=k.c10;have c11:=k.c11;have c12:=k.c12;unfold rV Zah;(have aa:tmps[x]?.getD undef=.pointer (some ⟨g,0,none⟩):=by simpa using ht);simp [results,hr,aa,go_sem,c0,c1,c2,c3,c4,c5,c6,c7,c8,c9,c10,c11,c12]
theorem ZaP {y:Nat}(hr:fn.results=#[.cell x 43,.tmp y])(k:RBlk w g d Ld v h s sy)(tmps:Array Value)(ht:tmps.getD x undef=.pointer (some ⟨g,0,none⟩)){u:Value}(hy:tmps.getD y undef=u):(results fn tmps).run Tryz.prog w=.ok (.tuple #[rV d Ld v h s sy,u]) w:=by
 have c0:=k.c0;have c1:=k.c1;have c2:=k.c2;have c3:=k.c3;have c4:=k.c4;have c5:=k.c5;have c6:=k.c6;have c7:=k.c7;have c8:=k.c8;have c9:=k.c9;have c10:=k.c10;have c11:=k.c11;have c12:=k.c12;unfold rV Zah;(have aa:tmps[x]?.getD undef=.pointer (some ⟨g,0,none⟩):=by simpa using ht);(have ab:tmps[y]?.getD undef=u:=by simpa using hy);simp [results,hr,aa,ab,go_sem,c0,c1,c2,c3,c4,c5,c6,c7,c8,c9,c10,c11,c12]
theorem ZcT {y z:Nat}(hr:fn.results=#[.cell x 43,.tmp y,.tmp z])(k:RBlk w g d Ld v h s sy)(tmps:Array Value)(ht:tmps.getD x undef=.pointer (some ⟨g,0,none⟩)){u u2:Value}(hy:tmps.getD y undef=u)(hz:tmps.getD z undef=u2):(results fn tmps).run Tryz.prog w=.ok (.tuple #[rV d Ld v h s sy,u,u2]) w:=by
 have c0:=k.c0;have c1:=k.c1;have c2:=k.c2;have c3:=k.c3;have c4:=k.c4;have c5:=k.c5;have c6:=k.c6;have c7:=k.c7;have c8:=k.c8;have c9:=k.c9;have c10:=k.c10;have c11:=k.c11;have c12:=k.c12;unfold rV Zah;(have aa:tmps[x]?.getD undef=.pointer (some ⟨g,0,none⟩):=by simpa using ht);(have ab:tmps[y]?.getD undef=u:=by simpa using hy);(have ac:tmps[z]?.getD undef=u2:=by simpa using hz);simp [results,hr,aa,ab,ac,go_sem,c0,c1,c2,c3,c4,c5,c6,c7,c8,c9,c10,c11,c12]
end
def dv0:Dv:=⟨⟨[],0,[]⟩,⟨[],0,[]⟩,[],false,0⟩
def dvl0:DvL:=⟨Sl.nil,Sl.nil,Sl.nil,Sl.nil,Sl.nil⟩
structure Rx (w W:World) (r:Nat) (d:Dv) (Ld:DvL) (v:Sl) (h:Int) (s:Sl) (sy:Int):Prop where
  b:RBlk W w.heap.size d Ld v h s sy
  ans:∃d' Ld' v' h' s' sy',RBlk W r d' Ld' v' h' s' sy'
  lt:w.heap.size<r
  e:Below w.heap.size w W
theorem ZbA (w:World)(d:Dv)(Ld:DvL)(v:Sl)(h:Int)(s:Sl)(sy:Int):Rx w ((w.alloc (.cells (Zah d Ld v h s sy) 43)).alloc (.cells (Zah dv0 dvl0 Sl.nil 0 Sl.nil 0) 43)) (w.heap.size+1) d Ld v h s sy:=by
 refine⟨(ZaZ w d Ld v h s sy).below (Zaa _ _),⟨dv0,dvl0,Sl.nil,0,Sl.nil,0,?_⟩,by omega,Za6 w _ _⟩;have:=ZaZ (w.alloc (.cells (Zah d Ld v h s sy) 43)) dv0 dvl0 Sl.nil 0 Sl.nil 0;rw [show (w.alloc (.cells (Zah d Ld v h s sy) 43)).heap.size=w.heap.size+1 by simp] at this;exact this
theorem Zn1 (w:World)(o:Obj)(d:Dv)(Ld:DvL)(v:Sl)(h:Int)(s:Sl)(sy:Int):Rx w (((w.alloc (.cells (Zah d Ld v h s sy) 43)).alloc o).alloc (.cells (Zah dv0 dvl0 Sl.nil 0 Sl.nil 0) 43)) (w.heap.size+2) d Ld v h s sy:=by
 have b1:=Zaa (w.alloc (.cells (Zah d Ld v h s sy) 43)) o;have b2:=Zaa ((w.alloc (.cells (Zah d Ld v h s sy) 43)).alloc o) (.cells (Zah dv0 dvl0 Sl.nil 0 Sl.nil 0) 43);refine⟨((ZaZ w d Ld v h s sy).below b1).below b2,⟨dv0,dvl0,Sl.nil,0,Sl.nil,0,?_⟩,by omega,Zaf (Za6 w _ _) b2⟩;have:=ZaZ ((w.alloc (.cells (Zah d Ld v h s sy) 43)).alloc o) dv0 dvl0 Sl.nil 0 Sl.nil 0;rw [show ((w.alloc (.cells (Zah d Ld v h s sy) 43)).alloc o).heap.size=w.heap.size+2 by simp] at this;exact this
theorem Rx.keep (x:Rx w W r d Ld v h s sy)(hb:Below W.heap.size W W'):Rx w W' r d Ld v h s sy:=by
 obtain⟨d',Ld',v',h',s',sy',k⟩:=x.ans;exact⟨x.b.below hb,⟨d',Ld',v',h',s',sy',k.below hb⟩,x.lt,x.e.trans (hb.mono x.e.size)⟩
theorem Rx.other {F:Nat→Prop}(x:Rx w W r d Ld v h s sy)(hf:Frm F W W')(hF:∀k,F k→r<k):Rx w W' r d Ld v h s sy:=by
 obtain⟨d',Ld',v',h',s',sy',k⟩:=x.ans;have aa:=x.lt;exact⟨x.b.keep (hf.block _ x.b.lt (fun e=>by have:=hF _ e;omega)),⟨d',Ld',v',h',s',sy',k.keep (hf.block _ k.lt (fun e=>by have:=hF _ e;omega))⟩,x.lt,x.e.trans (hf.below x.e.size (fun k e=>by have:=hF k e;omega))⟩
theorem Rx.turn {d2:Dv}{Ld2:DvL}{v2:Sl}{h2:Int}{s2:Sl}{sy2:Int}(x:Rx w W r d Ld v h s sy)(k:RBlk W' w.heap.size d2 Ld2 v2 h2 s2 sy2)(hf:Frm (fun i=>i=w.heap.size) W W'):Rx w W' r d2 Ld2 v2 h2 s2 sy2:=by
 obtain⟨d',Ld',v',h',s',sy',q⟩:=x.ans;have aa:=x.lt;exact⟨k,⟨d',Ld',v',h',s',sy',q.keep (hf.block _ q.lt (by omega))⟩,x.lt,x.e.trans (hf.below x.e.size (fun k e=>by omega))⟩
theorem Rx.tell (x:Rx w W r d Ld v h s sy)(d2:Dv)(Ld2:DvL)(v2:Sl)(h2:Int)(s2:Sl)(sy2:Int):∃W',(Instr.storeAt 43 (.pointer (some ⟨r,0,none⟩)) (rV d2 Ld2 v2 h2 s2 sy2)).run Tryz.prog W=.ok () W'∧RBlk W' r d2 Ld2 v2 h2 s2 sy2∧Below w.heap.size w W'∧Frm (fun i=>i=r) W W':=by
 obtain⟨d',Ld',v',h',s',sy',q⟩:=x.ans;have ab:=x.lt;obtain⟨W',aa,k,hf,_⟩:=stR q d2 Ld2 v2 h2 s2 sy2;exact⟨W',aa,k,x.e.trans (hf.below x.e.size (fun k e=>by omega)),hf⟩
abbrev SS:=(Nat × Sh) × Sl
def SS.cells (z:SS):List Value:=[.int .i64 ((z.1.1:Nat):Int),z.2.val,.bool z.1.2.dirty,.int .i64 z.1.2.place]
def SS.val (z:SS):Value:=.agg (SS.cells z).toArray
def Zb1 (l:List SS):List Value:=l.flatMap SS.cells
theorem ZcL:∀l,(Zb1 l).length=l.length*4
 | []=>rfl
 | i :: r=>by
  have:=ZcL r
  simp only [Zb1,List.flatMap_cons,List.length_append,List.length_cons] at *
  rw [this]
  simp [SS.cells]
  omega
theorem ZeM (l m:List SS):Zb1 (l ++ m)=Zb1 l ++ Zb1 m:=by simp [Zb1]
theorem Ze6 (l:List SS):∀u∈Zb1 l,u.oneCell'=true:=by
 intro u hu;obtain⟨i,_,hi⟩:=List.mem_flatMap.1 hu;simp only [SS.cells,List.mem_cons,List.mem_nil_iff,or_false] at hi;rcases hi with rfl | rfl | rfl | rfl <;> rfl
theorem Ze5:∀(l:List SS)(j t:Nat)(z:SS),l[j]? = some z→t<4→(Zb1 l)[j*4+t]? = (SS.cells z)[t]?
 | [],j,t,z,h,_=>by simp at h
 | i :: r,0,t,z,h,ht=>by
  simp only [List.getElem?_cons_zero,Option.some.injEq] at h
  subst h
  simp only [Zb1,List.flatMap_cons]
  rw [List.getElem?_append_left (by simp [SS.cells];omega)]
  simp
 | i :: r,j+1,t,z,h,ht=>by
  have:=Ze5 r j t z (by simpa using h) ht
  simp only [Zb1,List.flatMap_cons] at *
  rw [List.getElem?_append_right (by simp [SS.cells];omega)]
  have e:(j+1)*4+t-(SS.cells i).length=j*4+t:=by simp [SS.cells];omega
  rw [e,this]
def RowT (w:World) (b:Nat):Prop:=∃C fz,w.heap[b]? = some (.cells C 115 fz)
structure ShC (w:World) (s:Sl) (l:List SS):Prop where
  len:l.length=s.len
  nil:s.a=none→s.cap=0
  le:s.len≤s.cap
  big:s.len≤1000000
  at_:∀j z,l[j]? = some z→∃b off,s.a=some ⟨b,off,none⟩∧w.cell? ⟨b,off+j*4,none⟩=some (.int .i64 ((z.1.1:Nat):Int))∧w.cell? ⟨b,off+j*4+1,none⟩=some z.2.val∧w.cell? ⟨b,off+j*4+2,none⟩=some (.bool z.1.2.dirty)∧w.cell? ⟨b,off+j*4+3,none⟩=some (.int .i64 z.1.2.place)∧RowT w b
theorem ShC.frm {l:List SS}(h:ShC w s l)(hk:∀b,RowT w b→w'.heap[b]? = w.heap[b]?):ShC w' s l:=by
 refine⟨h.len,h.nil,h.le,h.big,fun j z hz=>?_⟩;obtain⟨b,off,ha,c0,c1,c2,c3,hr⟩:=h.at_ j z hz;have e:=hk b hr;(have hc:∀o,w'.cell? ⟨b,o,none⟩=w.cell? ⟨b,o,none⟩:=fun o=>by simp only [World.cell?,e]);obtain⟨C,fz,hb⟩:=hr;exact⟨b,off,ha,(hc _).trans c0,(hc _).trans c1,(hc _).trans c2,(hc _).trans c3,C,fz,e.trans hb⟩
theorem RowT.lt {b:Nat}(h:RowT w b):b<w.heap.size:=by
 obtain⟨C,fz,hb⟩:=h;exact(Array.getElem?_eq_some_iff.1 hb).1
theorem ShC.keep {l:List SS}(h:ShC w s l)(hb:Below w.heap.size w w'):ShC w' s l:=h.frm (fun b hr=>hb.block b hr.lt)
def OwnT (w:World) (s:Sl) (l:List SS):Prop:=Own 115 4 w s (Zb1 l)
theorem OwnT.len {l:List SS}(h:OwnT w s l):l.length=s.len:=by
 have:=h.1;rw [ZcL] at this;omega
theorem OwnT.sh {l:List SS}(h:OwnT w s l)(hm:s.len≤1000000):ShC w s l:=by
 refine⟨h.len,h.nilcap,h.lecap,hm,fun j z hz=>?_⟩;have hj:j<l.length:=(List.getElem?_eq_some_iff.1 hz).1;rcases h.2 with ⟨h0,he⟩ | ⟨g,off,cur,ha,hg,_⟩
 · (have h1:l.length=0:=by rw [h.len,h0];rfl);omega
 · have hc:∀t,t<4→w.cell? ⟨g,off+j*4+t,none⟩=(SS.cells z)[t]?:=fun t ht=>by
    have e:=Ze5 l j t z hz ht;cases hx:(SS.cells z)[t]? with
    | none =>
     have:=List.getElem?_eq_none_iff.1 hx;simp [SS.cells] at this;omega
    | some u =>
     have:=h.cell ha (j*4+t) u (e.trans hx);rw [Addr.add_lit] at this;rw [Nat.add_assoc];exact this
   exact⟨g,off,ha,hc 0 (by omega),hc 1 (by omega),hc 2 (by omega),hc 3 (by omega),_,_,hg⟩
theorem OwnT.new (w:World):OwnT (w.alloc (.cells #[] 115)) ⟨some ⟨w.heap.size,0,none⟩,0,0⟩ []:=
 ⟨rfl,.inr ⟨w.heap.size,0,_,rfl,heap_alloc_new w _,by simp,Nat.le_refl _,by simp,rfl⟩⟩
theorem Zod:(Tryz.prog.info? 115).map (fun i=>(i.zero,i.size,i.bytes))=some (some (.agg #[.int .i64 0,.slice none 0 0,.bool false,.int .i64 0]),4,48):=by kernel_rfl
theorem OwnT.app {l:List SS}(h:OwnT w t l)(z:SS)(hl:t.len+1≤1000000) :
    ∃t' W,(∀ty,(Builtin.append_ #[41,41] ty #[t.val,.slice (some ⟨w.heap.size,0,none⟩) 1 1]).run Tryz.prog (w.alloc (.cells (SS.cells z).toArray 115))=.ok t'.val W)∧OwnT W t' (l ++ [z])∧t'.len=t.len+1∧Frm (fun k=>t.blk=some k) w W∧(t'.blk=t.blk∨∃k,t'.blk=some k∧w.heap.size≤k):=by
  have hA:=Zaa w (.cells (SS.cells z).toArray 115);have ho:OwnT (w.alloc (.cells (SS.cells z).toArray 115)) t l:=Own.frame h (fun k hk=>hA.block k (Own.lt h hk));have h1:Own 115 4 (w.alloc (.cells (SS.cells z).toArray 115)) ⟨some ⟨w.heap.size,0,none⟩,1,1⟩ (SS.cells z):=⟨rfl,.inr ⟨w.heap.size,0,_,rfl,heap_alloc_new w _,by simp [SS.cells],Nat.le_refl _,(by unfold maxLen;show 1≤_;omega),by simp [SS.cells]⟩⟩;have hs:=Own.src (S:=41) h1 Tryz.underlying41 (by have:=Ze6 [z];simpa [Zb1] using this);obtain⟨t',W,ab,ho',aa,ad,ac⟩:=Zbp Tryz.underlying41 Zod rfl (by omega) _ t _ ho (Ze6 l) _ 1 _ hs hl 0;refine⟨t',W,fun ty=>?_,?_,aa,(Frm.ofBelow (F:=fun k=>t.blk=some k) hA).trans ad (fun _ _ e=>e),ac.imp id (fun e=>⟨_,e.1,hA.size⟩)⟩
  · exact ab
  · unfold OwnT;rw [ZeM];simpa [Zb1] using ho'
section
variable {ops : Array Oper} {rest : List Oper} {o : Oper} {a : Act} {Q : Exit → Act → World → Prop}
theorem Zbq (w:World)(ab:o.guard=none)(S:TypeId)(s x:Operand)(ho:o.op=.call { callee:=.builtin .append,args:=#[s,x],argTypes:=#[S,S] })(vs vx:Value)(hs:a.eval s=vs)(hx:a.eval x=vx)(v':Value)(w':World)(aa:∀ty,(Builtin.append_ #[S,S] ty #[vs,vx]).run Tryz.prog w=.ok v' w')(hK:wpList Tryz.prog ops Q rest (a.put o.dst v') w'):wpList Tryz.prog ops Q (o :: rest) a w:=by
 refine wpList_plain ab fun K' hK'=>?_;unfold Oper.wp;simp [execOp,ho,resolve,invoke,builtin,hs,hx,aa,Result.andThen];exact hK' _ _ hK
end
def ShRow (K:Home) (w:World) (s:Sl) (l:List (Nat × Sh)):Prop:=∃ls:List SS,ls.map Prod.fst=l∧ShC w s ls∧∀z∈ls,BsS K w z.2 z.1.2.b∧z.2.len=512
theorem ShRow.keep {K:Home}{l:List (Nat × Sh)}(h:ShRow K w s l)(hb:Below w.heap.size w w'):ShRow K w' s l:=by
 obtain⟨ls,e,hc,hz⟩:=h;exact⟨ls,e,hc.keep hb,fun z hm=>⟨(hz z hm).1.keep hb (Nat.le_refl _),(hz z hm).2⟩⟩
structure RpIn (K:Home) (w:World) (n tot m:Nat) (P:Po) (d:Dv) (Ld:DvL) (v s:Sl):Prop where
  dv:DvIn K w d Ld
  rel:Rel P.D d.abs
  good:Good n tot m d.abs
  ck:Gs K.G w v P.l
  sh:ShRow K w s (P.inl n)
  low:K.low≤w.heap.size
theorem RpIn.keep {K:Home}{n tot m:Nat}{P:Po}(h:RpIn K w n tot m P d Ld v s)(hb:Below w.heap.size w w'):RpIn K w' n tot m P d Ld v s:=
 ⟨h.dv.keep hb (Nat.le_refl _),h.rel,h.good,h.ck.below hb (Nat.le_refl _),h.sh.keep hb,Nat.le_trans h.low hb.size⟩
def Zay (K:Home) (n tot m:Nat) (Q:Po) (e:Value) (w':World):Prop:=∃d Ld v s,e=rV d Ld v Q.h s Q.sy∧RpIn K w' n tot m Q d Ld v s
variable {K : Home}
def AtL (l:List (Nat × Sh)) (k z:Int):Prop:=(z = -1∧∀x∈l,((x.1:Nat):Int)≠k)∨∃(i:Nat) (x:Nat × Sh),z=((i:Nat):Int)∧l[i]? = some x∧((x.1:Nat):Int)=k
theorem ZcR {l:List (Nat × Sh)}(hs:ShRow K w s l)(d:Dv)(Ld:DvL)(v:Sl)(h:Int)(sy:Int)(k:Int):Calls Tryz.prog 64 #[rV d Ld v h s sy,.int .i64 k] w fun e w'=>Below w.heap.size w w'∧∃z,e=.returned (.int .i64 z)∧AtL l k z:=by
 obtain⟨ls,rfl,hc,_⟩:=hs;obtain⟨W,hW⟩:∃W,W=w.alloc (.cells (Zah d Ld v h s sy) 43):=⟨_,rfl⟩;(have hB:Below w.heap.size w W:=by rw [hW];exact Zaa w _);(have hb:RBlk W w.heap.size d Ld v h s sy:=by rw [hW];exact ZaZ w d Ld v h s sy);have ac:=hc.keep hB;have c11:=hb.c11;have aa:=hc.len;have HC:=hide ac;have HB:=hide hB;have HW:=hide hW;have af:=hc.big;clear hc ac hb hB hW;obtain⟨sa,sl,sc⟩:=s;simp only [Sl.val] at *;have HL:Hid (ls.length=sl):=aa;clear aa;unfold rV;go_enter Tryz.func64,Tryz.ntmps64;go_wp2_with fail;rw [← HW.out];go_loopw [5] (fun i wr=>∃j:Nat,j≤sl∧i=.int .i64 j∧wr=W∧Hid (∀i z,i<j→ls[i]? = some z→(z.1.1:Int)≠k)) (fun i _=>sl-(intOf i).toNat)
 case atStart=>exact ⟨0,by omega,rfl,rfl,fun i z hi=>absurd hi (Nat.not_lt_zero _)⟩
 case round =>
  obtain⟨j,hj,rfl,ah,ad⟩:=hrel;subst ah;by_cases ag:j<sl
  · (have i1:(j:Int)<(sl:Int):=by omega);(have ab:j<ls.length:=by rw [HL.out];exact ag);obtain⟨b,off,ha,k0,_⟩:=HC.out.at_ j ls[j] (List.getElem?_eq_getElem ab);simp only at ha;subst ha;by_cases he:((ls[j].1.1:Nat):Int)=k
    · have HF:Hid (AtL (ls.map Prod.fst) k (j:Int)):=.inr ⟨j,ls[j].1,rfl,by rw [List.getElem?_map,List.getElem?_eq_getElem ab];rfl,he⟩;(have ae:(((ls[j].1.1:Nat):Int) == k)=true:=by simpa using he);generalize ((ls[j].1.1:Nat):Int)=pg at *;clear he;go_wp2_with fail;go_ret;exact⟨HB.out,_,rfl,HF.out⟩
    · have HN:Hid (∀i z,i<j+1→ls[i]? = some z→(z.1.1:Int)≠k):=fun i z hi hz=>by
       by_cases e:i=j
       · subst e;rw [List.getElem?_eq_getElem ab] at hz;obtain rfl:=Option.some.inj hz;exact he
       · exact ad.out i z (by omega) hz
      (have ae:(((ls[j].1.1:Nat):Int) == k)=false:=by simpa using he);generalize ((ls[j].1.1:Nat):Int)=pg at *;clear he;go_wp2_with fail;go_roundw
      case rel=>exact ⟨j+1,by omega,by go_num,(by first | trivial | rfl),HN⟩
      case measure=>simp only [intOf];omega
  · (have i1:¬(j:Int)<(sl:Int):=by omega);have HF:Hid (AtL (ls.map Prod.fst) k (-1)):=.inl ⟨rfl,fun x hx=>by
     obtain⟨z,hz,rfl⟩:=List.mem_map.1 hx;obtain⟨i,hi,e⟩:=List.mem_iff_getElem.1 hz;have:=HL.out;exact ad.out i z (by omega) (by rw [List.getElem?_eq_getElem hi,e])⟩
    go_wp2_with fail;go_ret;exact⟨HB.out,_,rfl,HF.out⟩
theorem ZbK (w:World)(d:Dv)(Ld:DvL)(v:Sl)(h:Int)(s:Sl)(sy:Int)(n:Nat)(hd:Ld.kp.len=512*n)(hn:n≤64):Calls Tryz.prog 52 #[rV d Ld v h s sy] w fun e w'=>Below w.heap.size w w'∧e=.returned (.int .i64 (n:Int)):=by
 have hb:=ZaZ w d Ld v h s sy;have c0:=hb.c0;have HB:=hide (Zaa w (.cells (Zah d Ld v h s sy) 43));obtain⟨⟨ka,kl,kc⟩,ks,np,ns,ds⟩:=Ld;simp only [Sl.val] at c0 hd;subst hd;have hq:((512*n:Nat):Int).tdiv 512=(n:Int):=by
  rw [show ((512*n:Nat):Int)=512*(n:Int) by omega,Int.mul_tdiv_cancel_left _ (by omega)]
 (have aa:IntKind.i64.wrap (n:Int)=(n:Int):=by rw [IntKind.wrap_i64];omega);clear hb;unfold rV;go_enter Tryz.func52,Tryz.ntmps52;go_wp2_with fail;go_ret;exact⟨HB.out,rfl⟩
theorem Zb9:Zah dv0 dvl0 Sl.nil 0 Sl.nil 0=#[.slice none 0 0,.int .i64 0,.slice none 0 0,.slice none 0 0,.int .i64 0,.slice none 0 0,.slice none 0 0,.bool false,.int .i64 0,.slice none 0 0,.int .i64 0,.slice none 0 0,.int .i64 0]:=rfl
structure Bd4 (w W:World) (r:Nat) (t:Sl) (l:List SS):Prop where
  own:OwnT W t l
  far:∀k,t.blk=some k→r<k
theorem Bd4.app {l:List SS}(h:Bd4 w W r t l)(hr:r<W.heap.size)(z:SS)(hl:l.length+1≤1000000) :
    ∃t' W',(∀ty,(Builtin.append_ #[41,41] ty #[t.val,.slice (some ⟨W.heap.size,0,none⟩) 1 1]).run Tryz.prog (W.alloc (.cells (SS.cells z).toArray 115))=.ok t'.val W')∧Bd4 w W' r t' (l ++ [z])∧Frm (fun k=>t.blk=some k) W W':=by
  obtain⟨t',W',aa,ho,ad,ac,ab⟩:=h.own.app z (by rw [← h.own.len];exact hl);refine⟨t',W',aa,⟨ho,fun k hk=>?_⟩,ac⟩;rcases ab with e | ⟨q,e,hq⟩
  · rw [e] at hk;exact h.far k hk
  · rw [e] at hk;obtain rfl:=Option.some.inj hk;omega
theorem Bd4.keep {l:List SS}(h:Bd4 w W r t l)(hk:∀k,t.blk=some k→W'.heap[k]? = W.heap[k]?):Bd4 w W' r t l:=⟨Own.frame h.own hk,h.far⟩
theorem Zmb {l:List SS}(h:OwnT W t l)(hl:l.length≤1000)(hb:Below w.heap.size w W)(hz:∀z∈l,BsS K w z.2 z.1.2.b∧z.2.len=512):ShRow K W t (l.map Prod.fst):=
 ⟨l,rfl,h.sh (by rw [← h.len];omega),fun z hm=>⟨(hz z hm).1.keep hb (Nat.le_refl _),(hz z hm).2⟩⟩
theorem ZlP (ls:List SS)(k:Nat)(j:Nat)(hj:j<ls.length):(ls.take (j+1)).filter (fun z=>decide (z.1.1≠k))=(ls.take j).filter (fun z=>decide (z.1.1≠k)) ++ (if ls[j].1.1≠k then [ls[j]] else []):=by
 rw [List.take_succ_eq_append_getElem hj,List.filter_append];congr 1;by_cases e:ls[j].1.1≠k
 · rw [if_pos e];simp [e]
 · rw [if_neg e];simp at e;simp [e]
theorem ZhT {l:List (Nat × Sh)}(hs:ShRow K w s l)(hl:l.length≤1000)(d:Dv)(Ld:DvL)(v:Sl)(h:Int)(sy:Int)(k:Nat):Calls Tryz.prog 65 #[rV d Ld v h s sy,.int .i64 (k:Int)] w fun e w'=>Below w.heap.size w w'∧∃s',e=.returned (rV d Ld v h s' sy)∧ShRow K w' s' (outL l k):=by
 obtain⟨ls,rfl,hc,hz⟩:=hs;obtain⟨W0,ai⟩:∃W,W=((w.alloc (.cells (Zah d Ld v h s sy) 43)).alloc (.cells (Zah dv0 dvl0 Sl.nil 0 Sl.nil 0) 43)):=⟨_,rfl⟩;(have hX:Rx w W0 (w.heap.size+1) d Ld v h s sy:=by rw [ai];exact ZbA w d Ld v h s sy);(have aq:W0.heap.size=w.heap.size+2:=by rw [ai];simp);obtain⟨W1,ae⟩:∃W,W=W0.alloc (.cells #[] 115):=⟨_,rfl⟩;(have au:Below W0.heap.size W0 W1:=by rw [ae];exact Zaa W0 _);have ax:=hX.keep au;have av:Bd4 w W1 (w.heap.size+1) ⟨some ⟨W0.heap.size,0,none⟩,0,0⟩ []:=⟨by rw [ae];exact OwnT.new W0,fun k hk=>by
  (have:W0.heap.size=k:=by simpa [Sl.blk] using hk);omega⟩
 have HX:=hide ax;have HO:=hide av;have HZ:=hide hz;have HC:=hide hc;have ab:=hc.len;rw [List.length_map] at hl;have ar:=hide hl;have bk:=hide aq;rw [ai,Zb9] at ae;have bh:=hide ae;clear hX au ax av hz hc ai ae;obtain⟨sa,sl,sc⟩:=s;simp only at ab;have HL:Hid (ls.length=sl):=ab;(have bn:sl≤1000:=by omega);clear ab hl;unfold rV;rw [show W0.heap.size=w.heap.size+2 from aq] at HO;clear aq;go_enter Tryz.func65,Tryz.ntmps65;go_wp2_with fail;rw [← bh.out];go_loopw [5,6] (fun t5 i wr=>∃(j:Nat) (t:Sl),j≤sl∧i=.int .i64 j∧t5=.slice t.a t.len t.cap∧Hid (Bd4 w wr (w.heap.size+1) t ((ls.take j).filter (fun z=>decide (z.1.1≠k))))∧Hid (Rx w wr (w.heap.size+1) d Ld v h ⟨sa,sl,sc⟩ sy)) (fun _ i _=>sl-(intOf i).toNat)
 case atStart=>exact ⟨0,⟨some ⟨w.heap.size+2,0,none⟩,0,0⟩,by omega,rfl,rfl,HO,HX⟩
 case round =>
  obtain⟨j,⟨ta,tl,tc⟩,hj,rfl,rfl,hO,aa⟩:=hrel;simp only at *;have c11:=aa.out.b.c11;simp only [Sl.val] at c11;have ap:=HC.out.keep aa.out.e;by_cases bj:j<sl
  · (have i1:(j:Int)<(sl:Int):=by omega);(have bd:j<ls.length:=by rw [HL.out];exact bj);obtain⟨b,off,ha,k0,k1,k2,k3,_⟩:=ap.at_ j ls[j] (List.getElem?_eq_getElem bd);simp only at ha;subst ha;have ac:=ZlP ls k j bd;by_cases he:ls[j].1.1=k
    · rw [if_neg (fun e=>e he),List.append_nil] at ac;(have ak:Hid (Bd4 w wr (w.heap.size+1) ⟨ta,tl,tc⟩ ((ls.take (j+1)).filter (fun z=>decide (z.1.1≠k)))):=by rw [ac];exact hO);rw [he] at k0;clear ac he k1 k2 k3 ap;go_wp2_with fail;go_roundw
      case rel=>exact ⟨j+1,⟨ta,tl,tc⟩,by omega,by go_num,rfl,ak,aa⟩
      case measure=>simp only [intOf];omega
    · rw [if_pos he] at ac;have hn:(((ls[j].1.1:Nat):Int) != (k:Int))=true:=by
       simp;omega
      (have bm:¬((ls[j].1.1:Nat):Int)=(k:Int):=by omega);obtain⟨t',W',af,hB',bb⟩:=hO.out.app (aa.out.ans.elim fun _ h1=>h1.elim fun _ h2=>h2.elim fun _ h3=>h3.elim fun _ h4=>h4.elim fun _ h5=>h5.elim fun _ h6=>h6.lt) ls[j] (by
       have:=List.length_filter_le (fun z:SS=>decide (z.1.1≠k)) (ls.take j);rw [List.length_take] at this;have:=ar.out;omega)
      (have ak:Hid (Bd4 w W' (w.heap.size+1) t' ((ls.take (j+1)).filter (fun z=>decide (z.1.1≠k)))):=by rw [ac];exact hB');have bi:=hide (aa.out.other bb (fun k hk=>hO.out.far k hk));generalize bl:ls[j]=z at *;obtain⟨⟨pg,sh⟩,⟨qa,ql,qc⟩⟩:=z;simp only [SS.cells,Sl.val] at *;have ad:=hide af;obtain⟨ta',tl',tc'⟩:=t';simp only at ad;clear af hB' bb ac he ap bl;go_wp2_with (refine Zbq _ rfl 41 (.tmp 23) (.tmp 29) rfl (.slice ta tl tc) (.slice (some ⟨wr.heap.size,0,none⟩) 1 1) rfl rfl (.slice ta' tl' tc') W' ad.out ?_);go_roundw
      case rel=>exact ⟨j+1,⟨ta',tl',tc'⟩,by omega,by go_num,rfl,ak,bi⟩
      case measure=>simp only [intOf];omega
  · (have i1:¬(j:Int)<(sl:Int):=by omega);have bc:(ls.take j)=ls:=List.take_of_length_le (by rw [HL.out];omega);rw [bc] at hO;obtain⟨W2,ag,ao,aj,_⟩:=stRI aa.out.b ⟨ta,tl,tc⟩;have ay:=aa.out.turn ao aj;obtain⟨W3,ah,az,an,ba⟩:=ay.tell d Ld v h ⟨ta,tl,tc⟩ sy;have bg:=hide (ldR ao);have al:=hide ag;have am:=hide ah;have be:=hide az;have aw:=(hO.out.keep (W':=W2) (fun q hq=>aj.block q (Own.lt hO.out.own hq) (by have:=hO.out.far q hq;omega))).keep (W':=W3) (fun q hq=>ba.block q (by have:=Own.lt hO.out.own hq;have:=aj.size;omega) (by have:=hO.out.far q hq;omega));have HF:Hid (ShRow K W3 ⟨ta,tl,tc⟩ (outL (ls.map Prod.fst) k)):=by
     have h1:=Zmb (K:=K) aw.own (by
      have:=List.length_filter_le (fun z:SS=>decide (z.1.1≠k)) ls;have:=ar.out;omega) an (fun z hm=>HZ.out z (List.mem_filter.1 hm).1)
     have e:outL (ls.map Prod.fst) k=(ls.filter (fun z=>decide (z.1.1≠k))).map Prod.fst:=by
      unfold outL;rw [List.filter_map];rfl
     rw [e];exact h1
    have bf:=hide an;clear ag ao aj ay ah az an ba aw bc;simp only [Sl.val,rV] at *;go_wp2_with (first | refine Zab _ rfl rfl 41 (.tmp 32) (.tmp 31) rfl (.pointer (some ⟨w.heap.size,11,none⟩)) (.slice ta tl tc) rfl rfl W2 al.out ?_ | refine Zac _ rfl 43 (.tmp 2) rfl (.pointer (some ⟨w.heap.size,0,none⟩)) _ rfl bg.out ?_ | refine Zab _ rfl rfl 43 (.tmp 4) (.tmp 33) rfl (.pointer (some ⟨w.heap.size+1,0,none⟩)) _ rfl rfl W3 am.out ?_);refine bodyPost_ret (Zaw rfl be.out _ rfl) rfl ?_;exact⟨bf.out,⟨ta,tl,tc⟩,rfl,HF.out⟩
end Go.Proofs.YtpnlebpnhmibfaaGreat
