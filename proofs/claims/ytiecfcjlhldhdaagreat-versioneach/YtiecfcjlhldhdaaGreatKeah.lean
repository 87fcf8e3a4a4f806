/-
  Lemmas.
-/
import Derived.Test.YtiecfcjlhldhdaaGreatKeag
namespace Go.Proofs.YtiecfcjlhldhdaaGreat
open Go.RowKit
set_option linter.unusedVariables false
set_option linter.unusedSimpArgs false
set_option maxRecDepth 100000
set_option maxHeartbeats 4000000
variable {w w':World}{p len cap q B base z:Nat}{a:Option Addr}{xs:List Nat}{v:Value}{l:List It}{A:Act}
structure Only (p:Nat) (w w':World):Prop where
  os:w'.os=w.os
  tape:w'.tape=w.tape
  output:w'.output=w.output
  size:w.heap.size≤w'.heap.size
  block:∀k,k<w.heap.size→k≠p→w'.heap[k]? = w.heap[k]?
theorem Only.refl (p:Nat)(w:World):Only p w w:=⟨rfl,rfl,rfl,Nat.le_refl _,fun _ _ _=>rfl⟩
theorem Only.trans {a b c:World}(h:Only p a b)(k:Only p b c):Only p a c:=
 ⟨k.os.trans h.os,k.tape.trans h.tape,k.output.trans h.output,Nat.le_trans h.size k.size,fun i hi hp=>(k.block i (Nat.lt_of_lt_of_le hi h.size) hp).trans (h.block i hi hp)⟩
theorem Only.of (h:Below w.heap.size w w'):Only p w w':=⟨h.os,h.tape,h.output,h.size,fun k hk _=>h.block k hk⟩
theorem Only.below (h:Only p w w')(hB:B≤w.heap.size)(hp:B≤p):Below B w w':=
 ⟨h.os,h.tape,h.output,h.size,fun k hk=>h.block k (by omega) (by omega)⟩
theorem Only.drew {a:World}(h:Only p a w):Only p a w.drew:=⟨h.os,h.tape,h.output,h.size,h.block⟩
theorem Only.set {a:World}(h:Only p a w)(o:Nat)(v:Value):Only p a (w.setCell ⟨p,o,none⟩ v):=by
 refine⟨h.os,h.tape,h.output,?_,fun k hk hp=>(Below.heap_setCell w ⟨p,o,none⟩ v k hp).trans (h.block k hk hp)⟩;have:=((Below.refl 0 w).setCell (p:=⟨p,o,none⟩) (Nat.zero_le _) v).size;exact Nat.le_trans h.size this
def Rd (w:World) (p:Nat) (a:Option Addr) (len cap q:Nat):Prop:=w.heap[p]? = some (Obj.cells #[.slice a len cap,.int .i64 (q:Nat)] 239 (0,0))
theorem Rd.c0 (h:Rd w p a len cap q):w.cell? ⟨p,0,none⟩=some (.slice a len cap):=by
 unfold Rd at h;simp [World.cell?,h]
theorem Rd.c1 (h:Rd w p a len cap q):w.cell? ⟨p,1,none⟩=some (.int .i64 (q:Nat)):=by
 unfold Rd at h;simp [World.cell?,h]
theorem Rd.fz (h:Rd w p a len cap q)(o:Nat):w.frozen? ⟨p,o,none⟩=false:=frozen_of_row w p _ _ 239 h
theorem Rd.lt (h:Rd w p a len cap q):p<w.heap.size:=(Array.getElem?_eq_some_iff.1 h).1
theorem Rd.keep (h:Rd w p a len cap q)(hb:Below B w w')(hB:w.heap.size≤B):Rd w' p a len cap q:=
 (hb.block p (Nat.lt_of_lt_of_le h.lt hB)).trans h
theorem Rd.set (h:Rd w p a len cap q)(q':Nat):Rd (w.setCell ⟨p,1,none⟩ (.int .i64 (q':Nat))) p a len cap q':=by
 have:=heap_setCell_same w p 1 _ 239 (.int .i64 (q':Nat)) h;unfold Rd;simpa using this
theorem Ze7 (p:Nat)(w:World):(Instr.fieldAt 239 (.pointer (some ⟨p,0,none⟩)) 0).run Tryz.prog w=.ok (.pointer (some ⟨p,0,none⟩)) w:=by simp [go_sem]
theorem Zcb (p:Nat)(w:World):(Instr.fieldAt 239 (.pointer (some ⟨p,0,none⟩)) 1).run Tryz.prog w=.ok (.pointer (some ⟨p,1,none⟩)) w:=by simp [go_sem]
theorem ZdA (b o:Nat)(a:Option Addr)(len cap:Nat)(w:World)(h:w.cell? ⟨b,o,none⟩=some (.slice a len cap)):(Instr.loadAt 107 (.pointer (some ⟨b,o,none⟩))).run Tryz.prog w=.ok (.slice a len cap) w:=by
 simp [go_sem,h]
theorem Zhh (a:Option Addr)(len cap:Nat)(ty:TypeId)(w:World):(Builtin.len_ #[107] ty #[.slice a len cap]).run Tryz.prog w=.ok (.int .i64 (len:Nat)) w:=by
 simp [go_sem]
theorem ZeX (a:Option Addr)(len cap k j:Nat)(hk:k≤j)(hj:j≤len)(hc:len≤cap)(w:World):(Instr.sliceAt 107 (.slice a len cap) (some (.int .i64 (k:Nat))) (some (.int .i64 (j:Nat))) none).run Tryz.prog w=.ok (.slice (fromA a cap k) (j-k) (cap-k)) w:=by
 (have aa:Tryz.prog.underlying 107=some (.slice (Tryz.prog.elem 107)):=by kernel_rfl);rw [run_sliceAt_slice w 107 _ _ _ _ aa,run_slice_lh w 107 a len cap aa .i64 .i64 (k:Nat) (j:Nat) (by omega) (by omega) (by omega),Zlw,sz5];simp [Result.andThen,sliced,fromA]
theorem Bs.mid {k j:Nat}(h:Bs w a len xs)(hk:k≤j)(hj:j≤len)(hc:len≤cap):Bs w (fromA a cap k) (j-k) ((xs.drop k).take (j-k)):=by
 refine⟨by simp [h.1];omega,fun x hx=>h.2.1 x (List.mem_of_mem_drop (List.mem_of_mem_take hx)),fun i hi=>?_⟩;obtain⟨b,off,rfl,aa⟩:=h.2.2 (k+i) (by omega);refine⟨b,off+k,?_,?_⟩
 · unfold fromA;rw [if_neg (by omega)];simp only [Option.map_some,Nat.mul_one,Addr.add_lit]
 · rw [Nat.add_assoc,aa];simp [List.getD,hi]
theorem ZiE (a b:Int)(x y:Operand)(h1:-9223372036854775808≤a-b)(h2:a-b≤9223372036854775807)(w:World):(do eqGuard .sub 3 x y (.int .i64 a) (.int .i64 b);binOp .sub 3 (.int .i64 a) (.int .i64 b):Sem Value).run Tryz.prog w=.ok (.int .i64 (a-b)) w:=by
 (have e:IntKind.i64.wrap (a-b)=a-b:=by rw [IntKind.wrap_i64];omega);simp [go_sem,eqGuard,e]
theorem ZpE (a b:Nat)(x y:Operand)(h:b≤a)(h2:a≤9223372036854775807)(w:World):(do eqGuard .sub 3 x y (.int .i64 (a:Nat)) (.int .i64 (b:Nat));binOp .sub 3 (.int .i64 (a:Nat)) (.int .i64 (b:Nat)):Sem Value).run Tryz.prog w=.ok (.int .i64 ((a-b:Nat):Int)) w:=by
 rw [ZiE a b x y (by omega) (by omega)];congr 3;omega
theorem Zq5 (w:World)(p:Nat)(a:Option Addr)(len cap q z:Nat)(hr:Rd w p a len cap q)(hq:q≤len)(hl:len≤9223372036854775807)(hz:len-q<z)
    {Q:Exit→Act→World→Prop}(ac:A.tmps.size=41)(ab:A.defers=[])(s0:A.tmps.getD 0 undef=.pointer (some ⟨p,0,none⟩))(s1:A.tmps.getD 1 undef=.int .i64 (z:Nat))
    (hend:∀(u:Nat→Value) w',w'=w.drew→Q .normal ((Pl.pu A u [5,6,7,8,9,10,11,12,13,14,15]).put (some 16) (.bool true)) w') :
    (Code.region 1 (Pl.find 1 ((Tryz.f208.body).getD .skip)) true).wp Tryz.prog Q A w:=by
  have aa:Rd w.drew p a len cap q:=hr;have hA:=Pl.At.same (v:=.int .i64 (z:Nat)) (d:=1) (Pl.At.same (v:=.pointer (some ⟨p,0,none⟩)) (d:=0) (Pl.At.here ac ab) s0) s1;refine Pl.qa (S:=fun w'=>Rd w' p a len cap q) hA aa ?_;rw [show (Pl.find 1 ((Tryz.f208.body).getD .skip)).size=12 by kernel_rfl];refine Pl.q0 0 5 (.int .i64 (z:Nat)) (Pl.q1) (Pl.q2 (.tmp 1)) aa ?_;refine Pl.q0 1 6 (.pointer (some ⟨p,0,none⟩)) (Pl.q1) (Pl.q2 (.tmp 0)) aa ?_;refine Pl.q0 2 7 (.pointer (some ⟨p,0,none⟩)) (Pl.q1) (Pl.q_36 (.tmp 6)) aa ?_;refine Pl.q0 3 8 (.pointer (some ⟨p,0,none⟩)) (Pl.q1) (Pl.q5 239 (.tmp 7) 0 (Ze7 p)) aa ?_;refine Pl.q0 4 9 (.slice a len cap) (Pl.q1) (Pl.q4 107 (.tmp 8) (fun w' hS=>ZdA p 0 _ _ _ w' (Rd.c0 hS))) aa ?_;refine Pl.q0 5 10 (.int .i64 (len:Nat)) (Pl.q1) (Pl.qr 107 (.tmp 9) (fun ty w=>Zhh a len cap ty w)) aa ?_;refine Pl.q0 6 11 (.pointer (some ⟨p,0,none⟩)) (Pl.q1) (Pl.q2 (.tmp 0)) aa ?_;refine Pl.q0 7 12 (.pointer (some ⟨p,0,none⟩)) (Pl.q1) (Pl.q_36 (.tmp 11)) aa ?_;refine Pl.q0 8 13 (.pointer (some ⟨p,1,none⟩)) (Pl.q1) (Pl.q5 239 (.tmp 12) 1 (Zcb p)) aa ?_;refine Pl.q0 9 14 (.int .i64 (q:Nat)) (Pl.q1) (Pl.q4 3 (.tmp 13) (fun w' hS=>Za5 p 1 _ w' (Rd.c1 hS))) aa ?_;refine Pl.q0 10 15 (.int .i64 ((len:Int)-(q:Int))) (Pl.q1) (Pl.qc .sub 3 3 (.tmp 10) (.tmp 14) (.int .i64 (len:Nat)) (.int .i64 (q:Nat)) (ZiE _ _ _ _ (by omega) (by omega))) aa ?_;refine Pl.q0 11 16 (.bool true) (Pl.q1) (Pl.qc .gtr 3 3 (.tmp 5) (.tmp 15) (.int .i64 (z:Nat)) (.int .i64 ((len:Int)-(q:Int))) (fun w=>by simp [go_sem,eqGuard] <;> omega)) aa ?_;refine Pl.q8 (fun A' hA'=>?_);rw [Pl.At.ext hA' ((((((((((((hA.put 5 _).put 6 _).put 7 _).put 8 _).put 9 _).put 10 _).put 11 _).put 12 _).put 13 _).put 14 _).put 15 _).put 16 _)];exact hend hA'.fn _ rfl
theorem Zq6 (w:World)(p:Nat)(a:Option Addr)(len cap q z:Nat)(hr:Rd w p a len cap q)(hq:q≤len)(hl:len≤9223372036854775807)(hz:z≤len-q)
    {Q:Exit→Act→World→Prop}(ac:A.tmps.size=41)(ab:A.defers=[])(s0:A.tmps.getD 0 undef=.pointer (some ⟨p,0,none⟩))(s1:A.tmps.getD 1 undef=.int .i64 (z:Nat))
    (hend:∀(u:Nat→Value) w',w'=w.drew→Q .normal ((Pl.pu A u [5,6,7,8,9,10,11,12,13,14,15]).put (some 16) (.bool false)) w') :
    (Code.region 1 (Pl.find 1 ((Tryz.f208.body).getD .skip)) true).wp Tryz.prog Q A w:=by
  have aa:Rd w.drew p a len cap q:=hr;have hA:=Pl.At.same (v:=.int .i64 (z:Nat)) (d:=1) (Pl.At.same (v:=.pointer (some ⟨p,0,none⟩)) (d:=0) (Pl.At.here ac ab) s0) s1;refine Pl.qa (S:=fun w'=>Rd w' p a len cap q) hA aa ?_;rw [show (Pl.find 1 ((Tryz.f208.body).getD .skip)).size=12 by kernel_rfl];refine Pl.q0 0 5 (.int .i64 (z:Nat)) (Pl.q1) (Pl.q2 (.tmp 1)) aa ?_;refine Pl.q0 1 6 (.pointer (some ⟨p,0,none⟩)) (Pl.q1) (Pl.q2 (.tmp 0)) aa ?_;refine Pl.q0 2 7 (.pointer (some ⟨p,0,none⟩)) (Pl.q1) (Pl.q_36 (.tmp 6)) aa ?_;refine Pl.q0 3 8 (.pointer (some ⟨p,0,none⟩)) (Pl.q1) (Pl.q5 239 (.tmp 7) 0 (Ze7 p)) aa ?_;refine Pl.q0 4 9 (.slice a len cap) (Pl.q1) (Pl.q4 107 (.tmp 8) (fun w' hS=>ZdA p 0 _ _ _ w' (Rd.c0 hS))) aa ?_;refine Pl.q0 5 10 (.int .i64 (len:Nat)) (Pl.q1) (Pl.qr 107 (.tmp 9) (fun ty w=>Zhh a len cap ty w)) aa ?_;refine Pl.q0 6 11 (.pointer (some ⟨p,0,none⟩)) (Pl.q1) (Pl.q2 (.tmp 0)) aa ?_;refine Pl.q0 7 12 (.pointer (some ⟨p,0,none⟩)) (Pl.q1) (Pl.q_36 (.tmp 11)) aa ?_;refine Pl.q0 8 13 (.pointer (some ⟨p,1,none⟩)) (Pl.q1) (Pl.q5 239 (.tmp 12) 1 (Zcb p)) aa ?_;refine Pl.q0 9 14 (.int .i64 (q:Nat)) (Pl.q1) (Pl.q4 3 (.tmp 13) (fun w' hS=>Za5 p 1 _ w' (Rd.c1 hS))) aa ?_;refine Pl.q0 10 15 (.int .i64 ((len:Int)-(q:Int))) (Pl.q1) (Pl.qc .sub 3 3 (.tmp 10) (.tmp 14) (.int .i64 (len:Nat)) (.int .i64 (q:Nat)) (ZiE _ _ _ _ (by omega) (by omega))) aa ?_;refine Pl.q0 11 16 (.bool false) (Pl.q1) (Pl.qc .gtr 3 3 (.tmp 5) (.tmp 15) (.int .i64 (z:Nat)) (.int .i64 ((len:Int)-(q:Int))) (fun w=>by simp [go_sem,eqGuard] <;> omega)) aa ?_;refine Pl.q8 (fun A' hA'=>?_);rw [Pl.At.ext hA' ((((((((((((hA.put 5 _).put 6 _).put 7 _).put 8 _).put 9 _).put 10 _).put 11 _).put 12 _).put 13 _).put 14 _).put 15 _).put 16 _)];exact hend hA'.fn _ rfl
theorem Zr6 (w:World)(p:Nat)(a:Option Addr)(len cap q z:Nat)(hr:Rd w p a len cap q)(hz:z≤q)(hq:q≤len)(hc:len≤cap)(hl:len≤9223372036854775807)
    {Q:Exit→Act→World→Prop}(ac:A.tmps.size=41)(ab:A.defers=[])(s0:A.tmps.getD 0 undef=.pointer (some ⟨p,0,none⟩))(s1:A.tmps.getD 1 undef=.int .i64 (z:Nat))
    (hend:∀(u:Nat→Value) w',w'=w.drew→Q .normal ((Pl.pu A u [26,27,28,29,30,31,32,33,34,35,36,37,38,39,40]).put (some 4) (.slice (fromA a cap (q-z)) (q-(q-z)) (cap-(q-z)))) w') :
    (Code.region 4 (Pl.find 4 ((Tryz.f208.body).getD .skip)) true).wp Tryz.prog Q A w:=by
  have aa:Rd w.drew p a len cap q:=hr;have hA:=Pl.At.same (v:=.int .i64 (z:Nat)) (d:=1) (Pl.At.same (v:=.pointer (some ⟨p,0,none⟩)) (d:=0) (Pl.At.here ac ab) s0) s1;refine Pl.qa (S:=fun w'=>Rd w' p a len cap q) hA aa ?_;rw [show (Pl.find 4 ((Tryz.f208.body).getD .skip)).size=16 by kernel_rfl];refine Pl.q0 0 26 (.pointer (some ⟨p,0,none⟩)) (Pl.q1) (Pl.q2 (.tmp 0)) aa ?_;refine Pl.q0 1 27 (.pointer (some ⟨p,0,none⟩)) (Pl.q1) (Pl.q_36 (.tmp 26)) aa ?_;refine Pl.q0 2 28 (.pointer (some ⟨p,0,none⟩)) (Pl.q1) (Pl.q5 239 (.tmp 27) 0 (Ze7 p)) aa ?_;refine Pl.q0 3 29 (.slice a len cap) (Pl.q1) (Pl.q4 107 (.tmp 28) (fun w' hS=>ZdA p 0 _ _ _ w' (Rd.c0 hS))) aa ?_;refine Pl.q0 4 30 (.pointer (some ⟨p,0,none⟩)) (Pl.q1) (Pl.q2 (.tmp 0)) aa ?_;refine Pl.q0 5 31 (.pointer (some ⟨p,0,none⟩)) (Pl.q1) (Pl.q_36 (.tmp 30)) aa ?_;refine Pl.q0 6 32 (.pointer (some ⟨p,1,none⟩)) (Pl.q1) (Pl.q5 239 (.tmp 31) 1 (Zcb p)) aa ?_;refine Pl.q0 7 33 (.int .i64 (q:Nat)) (Pl.q1) (Pl.q4 3 (.tmp 32) (fun w' hS=>Za5 p 1 _ w' (Rd.c1 hS))) aa ?_;refine Pl.q0 8 34 (.int .i64 (z:Nat)) (Pl.q1) (Pl.q2 (.tmp 1)) aa ?_;refine Pl.q0 9 35 (.int .i64 ((q-z:Nat):Int)) (Pl.q1) (Pl.qc .sub 3 3 (.tmp 33) (.tmp 34) (.int .i64 (q:Nat)) (.int .i64 (z:Nat)) (ZpE _ _ _ _ hz (by omega))) aa ?_;refine Pl.q0 10 36 (.pointer (some ⟨p,0,none⟩)) (Pl.q1) (Pl.q2 (.tmp 0)) aa ?_;refine Pl.q0 11 37 (.pointer (some ⟨p,0,none⟩)) (Pl.q1) (Pl.q_36 (.tmp 36)) aa ?_;refine Pl.q0 12 38 (.pointer (some ⟨p,1,none⟩)) (Pl.q1) (Pl.q5 239 (.tmp 37) 1 (Zcb p)) aa ?_;refine Pl.q0 13 39 (.int .i64 (q:Nat)) (Pl.q1) (Pl.q4 3 (.tmp 38) (fun w' hS=>Za5 p 1 _ w' (Rd.c1 hS))) aa ?_;refine Pl.q0 14 40 (.slice (fromA a cap (q-z)) (q-(q-z)) (cap-(q-z))) (Pl.q1) (Pl.qu 107 (.tmp 29) (some (.tmp 35)) (some (.tmp 39)) (ZeX a len cap (q-z) q (by omega) hq hc)) aa ?_;refine Pl.q0 15 4 (.slice (fromA a cap (q-z)) (q-(q-z)) (cap-(q-z))) (Pl.q1) (Pl.qe (.tmp 40)) aa ?_;refine Pl.q8 (fun A' hA'=>?_);rw [Pl.At.ext hA' ((((((((((((((((hA.put 26 _).put 27 _).put 28 _).put 29 _).put 30 _).put 31 _).put 32 _).put 33 _).put 34 _).put 35 _).put 36 _).put 37 _).put 38 _).put 39 _).put 40 _).put 4 _)];exact hend hA'.fn _ rfl
def thrown:List PanicEntry:=[{ v:=.iface 40 (.int .i64 4),recovered:=false }]
theorem Zht (p:Nat)(a:Option Addr)(len cap q z:Nat)(w:World)(hr:Rd w p a len cap q)(hq:q≤len)(hl:len≤9223372036854775807)(hz:len-q<z) :
    Calls Tryz.prog 208 #[.pointer (some ⟨p,0,none⟩),.int .i64 (z:Nat)] w fun e w'=>e=.panicked thrown∧Below w.heap.size w w':=by
  have HB:Hid (Below w.heap.size w w.drew):=(Below.refl _ _).drew;go_enter Tryz.func208,Tryz.ntmps208;go_wp2_with fail;refine Pl.q9 (ops:=Pl.find 1 ((Tryz.f208.body).getD .skip)) ?_;refine Zq5 w p a len cap q z hr hq hl hz (by rfl) (by rfl) (by rfl) (by rfl) ?_;intro u w' hw;subst hw;simp only [Pl.pu,List.foldl,Act.put,List.setIfInBounds_toArray,List.set_cons_zero,List.set_cons_succ];go_wp2_with fail;exact⟨rfl,rfl,HB.out⟩
theorem Zjt (p:Nat)(a:Option Addr)(len cap q z:Nat)(w:World)(hr:Rd w p a len cap q)(hc:len≤cap)(hq:q≤len)(hl:len≤9223372036854775807)(hz:z≤len-q) :
    Calls Tryz.prog 208 #[.pointer (some ⟨p,0,none⟩),.int .i64 (z:Nat)] w fun e w'=>e=.returned (.slice (fromA a cap q) z (cap-q))∧Only p w w'∧Rd w' p a len cap (q+z):=by
  have HR:Hid (Rd w.drew p a len cap q):=hr;have HN:Hid (Rd (w.drew.setCell ⟨p,1,none⟩ (.int .i64 ((q:Int)+(z:Int)))) p a len cap (q+z)):=HR.out.set (q+z);have HO:Hid (Only p w (w.drew.setCell ⟨p,1,none⟩ (.int .i64 ((q:Int)+(z:Int)))).drew):=((Only.refl p w).drew.set 1 _).drew;go_enter Tryz.func208,Tryz.ntmps208;go_wp2_with fail;refine Pl.q9 (ops:=Pl.find 1 ((Tryz.f208.body).getD .skip)) ?_;refine Zq6 w p a len cap q z hr hq hl hz (by rfl) (by rfl) (by rfl) (by rfl) ?_;intro u w' hw;subst hw;have c0:=HR.out.c0;have c1:=HR.out.c1;have fz:=HR.out.fz 1;simp only [Pl.pu,List.foldl,Act.put,List.setIfInBounds_toArray,List.set_cons_zero,List.set_cons_succ];clear hr;have HE:Hid (q+z-(q+z-z)=z∧q+z-z=q):=⟨by omega,by omega⟩;go_wp2_with fail;refine Pl.q9 (ops:=Pl.find 4 ((Tryz.f208.body).getD .skip)) ?_;refine Zr6 _ p a len cap (q+z) z HN.out (by omega) (by omega) hc hl (by rfl) (by rfl) (by rfl) (by rfl) ?_;intro u w' hw;subst hw;simp only [Pl.pu,List.foldl,Act.put,List.setIfInBounds_toArray,List.set_cons_zero,List.set_cons_succ];rw [HE.out.1,HE.out.2];go_wp2_with fail;go_ret;exact⟨rfl,HO.out,HN.out⟩
def pieceN (xs:List Nat) (q z:Nat):Nat:=numB ((xs.drop q).take z)
theorem Zpw (u b : Nat) (hb : b < 256) (hu : u * 256 + b < 18446744073709551616) : bits .or .u64 ((u : Int) * 256) (b : Int) = ((u * 256 + b : Nat) : Int) := by
 have e : bits .or .u64 ((u * 256 : Nat) : Int) (b : Int) = ((u * 256 ||| b : Nat) : Int) := u64_or_nat (u * 256) b (Nat.lt_of_le_of_lt (Nat.le_add_right _ _) hu) (Nat.lt_of_le_of_lt (Nat.le_add_left _ _) hu)
 have e2 := Nat.two_pow_add_eq_or_of_lt (i := 8) (b := b) hb u
 have e3 : u * 256 ||| b = u * 256 + b := by
  rw [Nat.mul_comm u 256]
  exact e2.symm
 have c : ((u : Int) * 256) = ((u * 256 : Nat) : Int) := by simp
 rw [c, e, e3]
theorem Zne (p:Nat)(a:Option Addr)(len cap q z:Nat)(xs:List Nat)(w:World)(hr:Rd w p a len cap q)(hx:Bs w a len xs)(hp:0<len→∀b o,a=some ⟨b,o,none⟩→b≠p)(hc:len≤cap)(hq:q≤len)(hl:len≤9223372036854775807)(hz:z≤len-q)(h8:z≤8) :
    Calls Tryz.prog 209 #[.pointer (some ⟨p,0,none⟩),.int .i64 (z:Nat)] w fun e w'=>e=.returned (.int .u64 (pieceN xs q z:Nat))∧Only p w w'∧Rd w' p a len cap (q+z):=by
  have HN:=hide (Zjt p a len cap q z w hr hc hq hl hz)
  clear hr
  go_enter Tryz.func209,Tryz.ntmps209
  go_wp2_with fail
  refine HN.out.mono ?_
  rintro e w' ⟨rfl,ho,hr'⟩
  have HB:Hid (Bs w' (fromA a cap q) z ((xs.drop q).take z)):=by
   have:=hx.mid (cap:=cap) (k:=q) (j:=q+z) (by omega) (by omega) hc
   rw [show q+z-q=z by omega] at this
   refine⟨this.1,this.2.1,fun i hi=>?_⟩
   obtain⟨b,off,ha,hcell⟩:=this.2.2 i hi
   refine⟨b,off,ha,?_⟩
   have hb:b<w.heap.size:=World.block_lt_of_cell? w _ hcell
   have hbp:b≠p:=by
    obtain⟨b',o',ha',_⟩:=hx.2.2 q (by omega)
    have:b=b':=by
     rw [ha'] at ha
     unfold fromA at ha
     rw [if_neg (by omega)] at ha
     simp only [Option.map_some,Addr.add_lit,Option.some.injEq,Addr.mk.injEq] at ha
     exact ha.1.symm
    rw [this]
    exact hp (by omega) b' o' ha'
   rw [World.cell?_of_block (w:=w) (ho.block b hb hbp)]
   exact hcell
  have HO:=hide ho
  have HR:=hide hr'
  have HXB:Hid (Bytes ((xs.drop q).take z)):=HB.out.2.1
  have HXL:Hid (((xs.drop q).take z).length=z):=HB.out.1
  clear ho hr' hx
  go_wp2_with fail
  go_loop [5,12] (fun v i=>∃j:Nat,j≤z∧i=.int .i64 j∧v=.int .u64 (numB (((xs.drop q).take z).take j):Nat)) (fun _ i=>z-(intOf i).toNat)
  case atStart=>exact ⟨0,by omega,rfl,by simp [numB]⟩
  case round =>
   obtain⟨j,hj,rfl,rfl⟩:=hrel
   rcases Nat.lt_or_ge j z with hlt | hge
   · obtain⟨b,off,ha,hcell⟩:=HB.out.2.2 j hlt
     obtain⟨U,hU⟩:∃U,U=numB (((xs.drop q).take z).take j):=⟨_,rfl⟩
     obtain⟨y,hy⟩:∃y,y=((xs.drop q).take z).getD j 0:=⟨_,rfl⟩
     have hUl:U<72057594037927936:=by
      have h1:Bytes (((xs.drop q).take z).take j):=fun x hx=>HXB.out x (List.mem_of_mem_take hx)
      have h2:=ZbS h1
      have h3:(((xs.drop q).take z).take j).length≤7:=by rw [List.length_take];omega
      have h4:256 ^ (((xs.drop q).take z).take j).length≤256 ^ 7:=Nat.pow_le_pow_right (by decide) h3
      rw [← hU] at h2
      have:(256:Nat) ^ 7=72057594037927936:=by decide
      omega
     have hyl:y<256:=by rw [hy];exact Zl4 HXB.out j
     have hor:=Zpw U y hyl (by omega)
     have HSN:Hid (numB (((xs.drop q).take z).take (j+1))=U*256+y):=by
      have hl':j<((xs.drop q).take z).length:=by rw [HXL.out];exact hlt
      rw [List.take_succ_eq_append_getElem hl',Zhv,← hU,hy]
      simp only [List.getD,List.getElem?_eq_getElem hl',Option.getD_some]
      trivial
     rw [← hy] at hcell
     rw [← hU,ha]
     have HUU:=hide hU
     have HYY:=hide hy
     clear hU hy
     go_wp2_with fail
     go_round
     case rel=>exact ⟨j+1,by omega,by go_num,by rw [HSN.out];simp⟩
     case measure=>simp only [intOf];omega
   · have hjz:j=z:=by omega
     subst hjz
     have HE:Hid (numB (((xs.drop q).take j).take j)=pieceN xs q j):=by
      unfold pieceN
      rw [List.take_of_length_le (by rw [HXL.out];exact Nat.le_refl _)]
      trivial
     rw [HE.out]
     go_wp2_with fail
     go_ret
     exact⟨rfl,HO.out,HR.out⟩
theorem Zlj (p:Nat)(a:Option Addr)(len cap q z:Nat)(w:World)(hr:Rd w p a len cap q)(hq:q≤len)(hl:len≤9223372036854775807)(hz:len-q<z) :
    Calls Tryz.prog 209 #[.pointer (some ⟨p,0,none⟩),.int .i64 (z:Nat)] w fun e w'=>e=.panicked thrown∧Only p w w':=by
  have HN:=hide (Zht p a len cap q z w hr hq hl hz);clear hr;go_enter Tryz.func209,Tryz.ntmps209;go_wp2_with fail;refine HN.out.mono ?_;rintro e w' ⟨rfl,hb⟩;exact⟨rfl,rfl,Only.of hb⟩
structure RdX (w:World) (p:Nat) (a:Option Addr) (len cap q:Nat) (xs:List Nat):Prop where
  rd:Rd w p a len cap q
  bs:Bs w a len xs
  ne:0<len→∀b o,a=some ⟨b,o,none⟩→b≠p
  cap:len≤cap
  le:q≤len
  big:len≤9223372036854775807
theorem RdX.go {q':Nat}(h:RdX w p a len cap q xs)(ho:Only p w w')(hr:Rd w' p a len cap q')(hq:q'≤len):RdX w' p a len cap q' xs:=by
 refine⟨hr,⟨h.bs.1,h.bs.2.1,fun i hi=>?_⟩,h.ne,h.cap,hq,h.big⟩;obtain⟨b,off,ha,hc⟩:=h.bs.2.2 i hi;refine⟨b,off,ha,?_⟩;rw [World.cell?_of_block (w:=w) (ho.block b (World.block_lt_of_cell? w _ hc) (h.ne (by omega) b off ha))];exact hc
theorem RdX.bits (h:RdX w p a len cap q xs)(hz:z≤len-q)(h8:z≤8) :
    Calls Tryz.prog 209 #[.pointer (some ⟨p,0,none⟩),.int .i64 (z:Nat)] w fun e w'=>e=.returned (.int .u64 (pieceN xs q z:Nat))∧Only p w w'∧RdX w' p a len cap (q+z) xs:=
  (Zne p a len cap q z xs w h.rd h.bs h.ne h.cap h.le h.big hz h8).mono (fun e w' hh=>⟨hh.1,hh.2.1,h.go hh.2.1 hh.2.2 (by have:=h.le;omega)⟩)
theorem RdX.dies (h:RdX w p a len cap q xs)(hz:len-q<z) :
    Calls Tryz.prog 209 #[.pointer (some ⟨p,0,none⟩),.int .i64 (z:Nat)] w fun e w'=>e=.panicked thrown∧Only p w w':=Zlj p a len cap q z w h.rd h.le h.big hz
theorem Zj0 (h:Bytes xs)(q z:Nat)(hz:z≤8):pieceN xs q z<18446744073709551616:=by
 have h1:Bytes ((xs.drop q).take z):=fun x hx=>h x (List.mem_of_mem_drop (List.mem_of_mem_take hx));have h2:=ZbS h1;(have h3:((xs.drop q).take z).length≤8:=by rw [List.length_take];omega);have h4:256 ^ ((xs.drop q).take z).length≤256 ^ 8:=Nat.pow_le_pow_right (by decide) h3;(have:(256:Nat) ^ 8=18446744073709551616:=by decide);unfold pieceN;omega
theorem Zls (p:Nat)(a:Option Addr)(len cap q:Nat)(xs:List Nat)(k:Int)(w:World)(h:RdX w p a len cap q xs) :
    Calls Tryz.prog 210 #[.pointer (some ⟨p,0,none⟩),.int .i64 k] w fun e w'=>Only p w w' ∧
     ((cntN k≤len-q∧(pieceN xs q (cntN k):Int)≤maxN k→e=.returned (.int .i64 (pieceN xs q (cntN k):Nat))∧RdX w' p a len cap (q+cntN k) xs)∧(¬(cntN k≤len-q∧(pieceN xs q (cntN k):Int)≤maxN k)→e=.panicked thrown)):=by
 have HC:Hid (∀w,Calls Tryz.prog 213 #[.int .i64 k] w fun e w'=>e=.returned (.int .i64 (cntN k:Nat))∧w'=w):=ZfZ k;have HM:Hid (∀w,Calls Tryz.prog 214 #[.int .i64 k] w fun e w'=>e=.returned (.int .i64 (maxN k))∧w'=w):=Zhn k;rcases Nat.lt_or_ge (len-q) (cntN k) with hs | hs
 · have HD:=hide (h.dies hs);(have HF:Hid (¬(cntN k≤len-q∧(pieceN xs q (cntN k):Int)≤maxN k)):=fun hh=>by omega);clear h hs;go_enter Tryz.func210,Tryz.ntmps210;go_wp2_with fail;refine(HC.out _).mono ?_;rintro e w' ⟨rfl,hw⟩;obtain rfl:=hw.symm;go_wp2_with fail;refine HD.out.mono ?_;rintro e w' ⟨rfl,ho⟩;exact⟨rfl,ho,(fun hh=>absurd hh HF.out),fun _=>rfl⟩
 · have HD:=hide (h.bits hs (ZhW k));have ac:=Zj0 h.bs.2.1 q (cntN k) (ZhW k);obtain⟨U,hU⟩:∃U,U=pieceN xs q (cntN k):=⟨_,rfl⟩;rw [← hU] at HD ac ⊢;have ad:maxN k=255∨maxN k=65535∨maxN k=2147483647:=by
    unfold maxN;split
    · exact .inl rfl
    · split
      · exact .inr (.inl rfl)
      · exact .inr (.inr rfl)
   obtain⟨M,hM,aa⟩:∃M:Nat,maxN k=(M:Int)∧M≤2147483647:=by
    rcases ad with e | e | e
    · exact⟨255,e,by omega⟩
    · exact⟨65535,e,by omega⟩
    · exact⟨2147483647,e,by omega⟩
   rw [hM] at HM ⊢;have ae:=Zno M (by omega);clear h hU ad hM;by_cases ab:U≤M
   · (have i1:¬(M:Int)<(U:Int):=by omega);have HT:Hid (cntN k≤len-q∧(U:Int)≤(M:Int)):=⟨hs,by omega⟩;have HU:Hid (U≤2147483647):=Nat.le_trans ab aa;clear ab hs ac aa;go_enter Tryz.func210,Tryz.ntmps210;go_wp2_with fail;refine(HC.out _).mono ?_;rintro e w' ⟨rfl,hw⟩;obtain rfl:=hw.symm;go_wp2_with fail;refine HD.out.mono ?_;rintro e w' ⟨rfl,ho,hx⟩;have HO:=hide ho;have HX:=hide hx;clear ho hx;go_wp2_with fail;refine(HM.out _).mono ?_;rintro e w2 ⟨rfl,hw⟩;obtain rfl:=hw.symm;have hU:=HU.out;go_wp2_with fail;go_ret;exact⟨HO.out,fun _=>⟨rfl,HX.out⟩,fun hh=>absurd HT.out hh⟩
   · (have i1:(M:Int)<(U:Int):=by omega);(have HF:Hid (¬(cntN k≤len-q∧(U:Int)≤(M:Int))):=fun hh=>by omega);clear ab hs ac aa;go_enter Tryz.func210,Tryz.ntmps210;go_wp2_with fail;refine(HC.out _).mono ?_;rintro e w' ⟨rfl,hw⟩;obtain rfl:=hw.symm;go_wp2_with fail;refine HD.out.mono ?_;rintro e w' ⟨rfl,ho,hx⟩;have HO:=hide ho;clear ho hx;go_wp2_with fail;refine(HM.out _).mono ?_;rintro e w2 ⟨rfl,hw⟩;obtain rfl:=hw.symm;go_wp2_with fail;exact⟨rfl,HO.out,(fun hh=>absurd hh HF.out),fun _=>rfl⟩
theorem Zk4 (p:Nat)(a:Option Addr)(len cap q:Nat)(xs:List Nat)(w:World)(h:RdX w p a len cap q xs) :
    Calls Tryz.prog 207 #[.pointer (some ⟨p,0,none⟩)] w fun e w'=>Only p w w' ∧
     ((8≤len-q∧Fl.val (pieceN xs q 8)=pieceN xs q 8→e=.returned (.float .f64 (pieceN xs q 8))∧RdX w' p a len cap (q+8) xs)∧(¬(8≤len-q∧Fl.val (pieceN xs q 8)=pieceN xs q 8)→e=.panicked thrown)):=by
 rcases Nat.lt_or_ge (len-q) 8 with hs | hs
 · have HD:Hid (Calls Tryz.prog 209 #[.pointer (some ⟨p,0,none⟩),.int .i64 8] w fun e w'=>e=.panicked thrown∧Only p w w'):=h.dies hs;(have HF:Hid (¬(8≤len-q∧Fl.val (pieceN xs q 8)=pieceN xs q 8)):=fun hh=>by omega);clear h hs;go_enter Tryz.func207,Tryz.ntmps207;go_wp2_with fail;refine HD.out.mono ?_;rintro e w' ⟨rfl,ho⟩;exact⟨rfl,ho,(fun hh=>absurd hh HF.out),fun _=>rfl⟩
 · have aa:=Zj0 h.bs.2.1 q 8 (Nat.le_refl _);have hd:=h.bits hs (Nat.le_refl 8);obtain⟨U,hU⟩:∃U,U=pieceN xs q 8:=⟨_,rfl⟩;rw [← hU] at hd aa ⊢;have HD:Hid (Calls Tryz.prog 209 #[.pointer (some ⟨p,0,none⟩),.int .i64 8] w fun e w'=>e=.returned (.int .u64 (U:Nat))∧Only p w w'∧RdX w' p a len cap (q+8) xs):=hd;have HV:Hid (∀w,Calls Tryz.prog 171 #[.float .f64 U] w fun e w'=>e=.returned (.float .f64 (Fl.val U))∧w'=w):=Zfe U aa;have HS:Hid (∀w,Calls Tryz.prog 173 #[.float .f64 U,.float .f64 (Fl.val U)] w fun e w'=>e=.returned (.bool (U == Fl.val U))∧w'=w):=Zdp U (Fl.val U);have ab:∀w,(callFunc 48 #[.int .u64 (U:Nat)]).run Tryz.prog w=.ok (.value (.float .f64 U)) w:=ZcW (U:Nat);clear h hU aa hd;by_cases hv:Fl.val U=U
   · have HT:Hid (8≤len-q∧Fl.val U=U):=⟨hs,hv⟩;(have e1:(U == Fl.val U)=true:=by rw [hv];simp);rw [e1] at HS;clear hs hv e1;go_enter Tryz.func207,Tryz.ntmps207;go_wp2_with fail;refine HD.out.mono ?_;rintro e w' ⟨rfl,ho,hx⟩;have HO:=hide ho;have HX:=hide hx;clear ho hx;go_wp2_with fail;refine(HV.out _).mono ?_;rintro e w2 ⟨rfl,hw⟩;obtain rfl:=hw.symm;go_wp2_with fail;refine(HS.out _).mono ?_;rintro e w2 ⟨rfl,hw⟩;obtain rfl:=hw.symm;go_wp2_with fail;go_ret;exact⟨HO.out,fun _=>⟨rfl,HX.out⟩,fun hh=>absurd HT.out hh⟩
   · have HF:Hid (¬(8≤len-q∧Fl.val U=U)):=fun hh=>hv hh.2;have e1:(U == Fl.val U)=false:=by
      apply beq_eq_false_iff_ne.2;exact fun e=>hv e.symm
     rw [e1] at HS;clear hs hv e1;go_enter Tryz.func207,Tryz.ntmps207;go_wp2_with fail;refine HD.out.mono ?_;rintro e w' ⟨rfl,ho,hx⟩;have HO:=hide ho;clear ho hx;go_wp2_with fail;refine(HV.out _).mono ?_;rintro e w2 ⟨rfl,hw⟩;obtain rfl:=hw.symm;go_wp2_with fail;refine(HS.out _).mono ?_;rintro e w2 ⟨rfl,hw⟩;obtain rfl:=hw.symm;go_wp2_with fail;exact⟨rfl,HO.out,(fun hh=>absurd hh HF.out),fun _=>rfl⟩
theorem ItBlk.fz {x:It}(h:ItBlk w p x)(o:Nat):w.frozen? ⟨p,o,none⟩=false:=frozen_of_row w p _ _ 182 h
theorem Zdy (hp:p<w.heap.size)(ho:Only p (w.alloc (.cells #[.int .i64 0,.int .i64 0,.float .f64 0,.string ⟨#[]⟩] 182)) w'):ItBlk w' w.heap.size ⟨0,0,0,⟨#[]⟩⟩:=by
 have h:=ZlP w ⟨0,0,0,⟨#[]⟩⟩;unfold ItBlk at h ⊢;rw [ho.block w.heap.size (Array.getElem?_eq_some_iff.1 h).1 (by omega)];exact h
def ZbW (w:World) (g:Nat) (y:It):World:=(((w.setCell ⟨g,0,none⟩ (.int .i64 y.kind)).setCell ⟨g,1,none⟩ (.int .i64 y.n)).setCell ⟨g,2,none⟩ (.float .f64 y.x)).setCell ⟨g,3,none⟩ (.string y.s)
theorem Zi1 {g:Nat}{x:It}(h:ItBlk w g x)(y:It):ItBlk (ZbW w g y) g y:=by
 have h1:=heap_setCell_same w g 0 _ 182 (.int .i64 y.kind) h;have h2:=heap_setCell_same _ g 1 _ 182 (.int .i64 y.n) h1;have h3:=heap_setCell_same _ g 2 _ 182 (.float .f64 y.x) h2;have h4:=heap_setCell_same _ g 3 _ 182 (.string y.s) h3;unfold ItBlk ZbW;rw [h4];simp
theorem Zds (w:World)(g:Nat)(y:It)(k:Nat)(hk:k≠g):(ZbW w g y).heap[k]? = w.heap[k]?:=by
 unfold ZbW;rw [Below.heap_setCell _ ⟨g,3,none⟩ _ k hk,Below.heap_setCell _ ⟨g,2,none⟩ _ k hk,Below.heap_setCell _ ⟨g,1,none⟩ _ k hk,Below.heap_setCell _ ⟨g,0,none⟩ _ k hk]
theorem Zh7 {a:World}(h:Only p a w)(g:Nat)(hg:a.heap.size≤g)(y:It):Only p a (ZbW w g y):=by
 have hb:Below g w (ZbW w g y):=((((Below.refl g w).setCell (p:=⟨g,0,none⟩) (Nat.le_refl _) _).setCell (p:=⟨g,1,none⟩) (Nat.le_refl _) _).setCell (p:=⟨g,2,none⟩) (Nat.le_refl _) _).setCell (p:=⟨g,3,none⟩) (Nat.le_refl _) _;exact⟨hb.os.trans h.os,hb.tape.trans h.tape,hb.output.trans h.output,Nat.le_trans h.size hb.size,fun k hk hp=>(Zds w g y k (by omega)).trans (h.block k hk hp)⟩
theorem Zgi {q':Nat}{z:It}(h:RdX w p a len cap q xs)(ho:Only p w w')(hr:Rd w' p a len cap q')(hq:q'≤len)(hg:ItBlk w' w.heap.size z)(y:It) :
    ItBlk (ZbW w' w.heap.size y) w.heap.size y∧Only p w (ZbW w' w.heap.size y)∧RdX (ZbW w' w.heap.size y) p a len cap q' xs:=by
  have h1:=Zh7 ho w.heap.size (Nat.le_refl _) y;refine⟨Zi1 hg y,h1,h.go h1 ?_ hq⟩;have:=h.rd.lt;exact(Zds w' w.heap.size y p (by omega)).trans hr
theorem Zcc {W:World}{g:Nat}{y:It}(h:ItBlk W g y)(tmps:Array Value)(ht:tmps.getD 4 undef=.pointer (some ⟨g,0,none⟩)):(results Tryz.f201 tmps).run Tryz.prog W=.ok y.val W:=by
 obtain⟨c0,c1,c2,c3⟩:=h.at;(have aa:tmps[4]?.getD undef=.pointer (some ⟨g,0,none⟩):=by simpa using ht);simp [results,Tryz.results201,aa,go_sem,c0,c1,c2,c3,It.val]
def Step (p:Nat) (a:Option Addr) (len cap q:Nat) (xs:List Nat) (k:Int) (w:World) (e:Ending) (w':World):Prop:=
  Only p w w'∧match tk (xs.drop q) k with
    | none=>e=.panicked thrown
    | some (i,n)=>e=.returned i.val∧RdX w' p a len cap (q+n) xs
theorem ZnE (p:Nat)(a:Option Addr)(len cap q:Nat)(xs:List Nat)(w:World)(h:RdX w p a len cap q xs) :
    Calls Tryz.prog 201 #[.pointer (some ⟨p,0,none⟩),.int .i64 4] w (Step p a len cap q xs 4 w):=by
  have ab:∀(w:World) (a:Addr) (m:Mode) (x:Nat),(store a (.float .f64 x) m).run Tryz.prog w=stored Tryz.prog w a (.float .f64 x) m:=fun w a m x=>run_store Tryz.prog w a _ m rfl;have aa:=h.bs.1;have HN:Hid (∀o,Calls Tryz.prog 207 #[.pointer (some ⟨p,0,none⟩)] (w.alloc o) fun e w'=>Only p (w.alloc o) w' ∧
      ((8≤len-q∧Fl.val (pieceN xs q 8)=pieceN xs q 8→e=.returned (.float .f64 (pieceN xs q 8))∧RdX w' p a len cap (q+8) xs)∧(¬(8≤len-q∧Fl.val (pieceN xs q 8)=pieceN xs q 8)→e=.panicked thrown))):=
    fun o=>Zk4 p a len cap q xs (w.alloc o) (h.go (Only.of (Zaa w o)) (h.rd.keep (Zaa w o) (Nat.le_refl _)) h.le)
  have HP:Hid (p<w.heap.size):=h.rd.lt;by_cases hc:8≤len-q∧Fl.val (pieceN xs q 8)=pieceN xs q 8
  · have HC:=hide hc;have HT:Hid (tk (xs.drop q) 4=some (⟨4,0,pieceN xs q 8,noS⟩,8)):=by
     (have h1:8≤(xs.drop q).length:=by rw [List.length_drop,aa];exact hc.1);have h2:Fl.val (numB ((xs.drop q).take 8))=numB ((xs.drop q).take 8):=hc.2;simp only [tk,if_true];rw [if_pos h1,if_pos h2];trivial
    have HH:=hide h;clear h hc aa;unfold Step;rw [HT.out];go_enter Tryz.func201,Tryz.ntmps201;go_wp2_with fail;refine(HN.out _).mono ?_;rintro e w' ⟨ho,hy,hn⟩;obtain⟨rfl,hx⟩:=hy HC.out;have HG:=hide (Zdy HP.out ho);have g0:=HG.out.at.p0;have g1:=HG.out.at.p1;have g2:=HG.out.at.p2;have g3:=HG.out.at.p3;have gz:=HG.out.fz;have HO:=hide ((Only.of (Zaa w _)).trans ho);have HX:=hide hx;clear ho hy hn hx;have HE:=hide (Zgi HH.out HO.out HX.out.rd HX.out.le HG.out ⟨4,0,pieceN xs q 8,noS⟩);go_wp2_with fail;refine bodyPost_ret (Zcc HE.out.1 _ (by rfl)) rfl ?_;exact⟨HE.out.2.1,rfl,HE.out.2.2⟩
  · have HC:=hide hc;have HT:Hid (tk (xs.drop q) 4=none):=by
     simp only [tk,if_true];by_cases h1:8≤(xs.drop q).length
     · rw [if_pos h1];have h2:¬Fl.val (numB ((xs.drop q).take 8))=numB ((xs.drop q).take 8):=fun h2=>hc ⟨by rw [List.length_drop,aa] at h1;exact h1,h2⟩;rw [if_neg h2];trivial
     · rw [if_neg h1];trivial
    clear h hc aa;unfold Step;rw [HT.out];go_enter Tryz.func201,Tryz.ntmps201;go_wp2_with fail;refine(HN.out _).mono ?_;rintro e w' ⟨ho,hy,hn⟩;obtain rfl:=hn HC.out;exact⟨rfl,(Only.of (Zaa w _)).trans ho,rfl⟩
theorem RdX.next (h:RdX w p a len cap q xs)(hz:z≤len-q) :
    Calls Tryz.prog 208 #[.pointer (some ⟨p,0,none⟩),.int .i64 (z:Nat)] w fun e w'=>e=.returned (.slice (fromA a cap q) z (cap-q))∧Only p w w'∧RdX w' p a len cap (q+z) xs∧(convert 107 9 (.slice (fromA a cap q) z (cap-q))).run Tryz.prog w'=.ok (.string (bstr ((xs.drop q).take z))) w':=by
  refine(Zjt p a len cap q z w h.rd h.cap h.le h.big hz).mono ?_;rintro e w' ⟨he,ho,hr⟩;have aa:=h.le;have h2:=h.go ho hr (by omega);refine⟨he,ho,h2,?_⟩;have hm:=h2.bs.mid (cap:=cap) (k:=q) (j:=q+z) (by omega) (by omega) h.cap;rw [show q+z-q=z by omega] at hm;exact Zam (cap-q) hm
theorem ZlQ (p:Nat)(a:Option Addr)(len cap q:Nat)(xs:List Nat)(w:World)(h:RdX w p a len cap q xs) :
    Calls Tryz.prog 201 #[.pointer (some ⟨p,0,none⟩),.int .i64 5] w (Step p a len cap q xs 5 w):=by
  have al:∀(w:World) (a:Addr) (m:Mode) (x:Nat),(store a (.float .f64 x) m).run Tryz.prog w=stored Tryz.prog w a (.float .f64 x) m:=fun w a m x=>run_store Tryz.prog w a _ m rfl;have aa:=h.bs.1;have HH:=hide h;have HP:Hid (p<w.heap.size):=h.rd.lt;have ac:∀o,RdX (w.alloc o) p a len cap q xs:=fun o=>h.go (Only.of (Zaa w o)) (h.rd.keep (Zaa w o) (Nat.le_refl _)) h.le;have ad:=h.le;rcases Nat.lt_or_ge (len-q) 1 with hs | hs
  · have HD:Hid (∀o,Calls Tryz.prog 209 #[.pointer (some ⟨p,0,none⟩),.int .i64 1] (w.alloc o) fun e w'=>e=.panicked thrown∧Only p (w.alloc o) w'):=fun o=>(ac o).dies hs;have HT:Hid (tk (xs.drop q) 5=none):=by
     (have h1:¬1≤(xs.drop q).length:=by rw [List.length_drop,aa];omega);simp only [tk,show ¬(5:Int)=4 by decide,if_false,if_true];rw [if_neg h1];trivial
    clear h hs aa ac ad;unfold Step;rw [HT.out];go_enter Tryz.func201,Tryz.ntmps201;go_wp2_with fail;refine(HD.out _).mono ?_;rintro e w' ⟨rfl,ho⟩;exact⟨rfl,(Only.of (Zaa w _)).trans ho,rfl⟩
  · have aj:pieceN xs q 1<256:=by
     have h1:Bytes ((xs.drop q).take 1):=fun x hx=>h.bs.2.1 x (List.mem_of_mem_drop (List.mem_of_mem_take hx));have h2:=ZbS h1;(have h3:((xs.drop q).take 1).length≤1:=by rw [List.length_take];omega);have h4:256 ^ ((xs.drop q).take 1).length≤256 ^ 1:=Nat.pow_le_pow_right (by decide) h3;unfold pieceN;omega
    have hb:∀o,Calls Tryz.prog 209 #[.pointer (some ⟨p,0,none⟩),.int .i64 1] (w.alloc o) fun e w'=>e=.returned (.int .u64 (pieceN xs q 1:Nat))∧Only p (w.alloc o) w'∧RdX w' p a len cap (q+1) xs:=fun o=>(ac o).bits (z:=1) hs (by decide);obtain⟨U,hU⟩:∃U,U=pieceN xs q 1:=⟨_,rfl⟩;rw [← hU] at aj;simp only [← hU] at hb;have HB:=hide hb;have hU':numB ((xs.drop q).take 1)=U:=hU.symm;rcases Nat.lt_or_ge (len-(q+1)) U with ht | ht
    · have HT:Hid (tk (xs.drop q) 5=none):=by
       (have h1:1≤(xs.drop q).length:=by rw [List.length_drop,aa];omega);(have h2:¬1+U≤(xs.drop q).length:=by rw [List.length_drop,aa];omega);simp only [tk,show ¬(5:Int)=4 by decide,if_false,if_true];rw [if_pos h1,hU',if_neg h2];trivial
      have HZ:=hide ht;clear h hs aa ac hb hU hU' ht ad;unfold Step;rw [HT.out];go_enter Tryz.func201,Tryz.ntmps201;go_wp2_with fail;refine(HB.out _).mono ?_;rintro e w' ⟨rfl,ho,hx⟩;have HD:=hide (Zht p a len cap (q+1) U w' hx.rd hx.le hx.big HZ.out);have HO:=hide ((Only.of (Zaa w _)).trans ho);clear ho hx;go_wp2_with fail;refine HD.out.mono ?_;rintro e w2 ⟨rfl,ai⟩;exact⟨rfl,HO.out.trans (Only.of ai),rfl⟩
    · have HT:Hid (tk (xs.drop q) 5=some (⟨5,0,0,bstr ((xs.drop (q+1)).take U)⟩,1+U)):=by
       (have h1:1≤(xs.drop q).length:=by rw [List.length_drop,aa];omega);(have h2:1+U≤(xs.drop q).length:=by rw [List.length_drop,aa];omega);simp only [tk,show ¬(5:Int)=4 by decide,if_false,if_true];rw [if_pos h1,hU',if_pos h2,List.drop_drop];trivial
      have HZ:=hide ht;clear h hs aa ac hb hU hU' ht ad;unfold Step;rw [HT.out];go_enter Tryz.func201,Tryz.ntmps201;go_wp2_with fail;refine(HB.out _).mono ?_;rintro e w' ⟨rfl,ho,hx⟩;have HN:=hide (hx.next HZ.out);have HG:=hide (Zdy HP.out ho);have HO:=hide ((Only.of (Zaa w _)).trans ho);clear ho hx;go_wp2_with fail;refine HN.out.mono ?_;rintro e w2 ⟨rfl,ae,ag,ak⟩;have ab:Hid (ItBlk w2 w.heap.size ⟨0,0,0,⟨#[]⟩⟩):=by
       have h0:=HG.out;have hp:=HP.out;unfold ItBlk at h0 ⊢;rw [ae.block w.heap.size (Array.getElem?_eq_some_iff.1 h0).1 (by omega)];exact h0
      have ah:=hide (HO.out.trans ae);have af:=hide ag;have HE:=hide (Zgi HH.out ah.out af.out.rd af.out.le ab.out ⟨5,0,0,bstr ((xs.drop (q+1)).take U)⟩);have g0:=ab.out.at.p0;have g1:=ab.out.at.p1;have g2:=ab.out.at.p2;have g3:=ab.out.at.p3;have gz:=ab.out.fz;clear ae ag;go_wp2_with fail;refine bodyPost_ret (Zcc HE.out.1 _ (by rfl)) rfl ?_;refine⟨HE.out.2.1,rfl,?_⟩;have:=HE.out.2.2;rw [Nat.add_assoc] at this;exact this
theorem Zj7 {k:Int}(hk:k=1∨k=2∨k=3)(xs:List Nat):tk xs k=if cntN k≤xs.length then (if (numB (xs.take (cntN k)):Int)≤maxN k then some (⟨k,numB (xs.take (cntN k)),0,noS⟩,cntN k) else none) else none:=by
 rcases hk with rfl | rfl | rfl <;> simp [tk]
theorem ZnD (p:Nat)(a:Option Addr)(len cap q:Nat)(xs:List Nat)(k:Int)(hk:k=1∨k=2∨k=3)(w:World)(h:RdX w p a len cap q xs) :
    Calls Tryz.prog 201 #[.pointer (some ⟨p,0,none⟩),.int .i64 k] w (Step p a len cap q xs k w):=by
  have ab:∀(w:World) (a:Addr) (m:Mode) (x:Nat),(store a (.float .f64 x) m).run Tryz.prog w=stored Tryz.prog w a (.float .f64 x) m:=fun w a m x=>run_store Tryz.prog w a _ m rfl;have aa:=h.bs.1;have HH:=hide h;have HP:Hid (p<w.heap.size):=h.rd.lt;have HN:Hid (∀o,Calls Tryz.prog 210 #[.pointer (some ⟨p,0,none⟩),.int .i64 k] (w.alloc o) fun e w'=>Only p (w.alloc o) w' ∧
      ((cntN k≤len-q∧(pieceN xs q (cntN k):Int)≤maxN k→e=.returned (.int .i64 (pieceN xs q (cntN k):Nat))∧RdX w' p a len cap (q+cntN k) xs)∧(¬(cntN k≤len-q∧(pieceN xs q (cntN k):Int)≤maxN k)→e=.panicked thrown))):=
    fun o=>Zls p a len cap q xs k (w.alloc o) (h.go (Only.of (Zaa w o)) (h.rd.keep (Zaa w o) (Nat.le_refl _)) h.le)
  (have e4:(k == 4)=false:=by rcases hk with rfl | rfl | rfl <;> decide);(have e5:(k == 5)=false:=by rcases hk with rfl | rfl | rfl <;> decide);by_cases hc:cntN k≤len-q∧(pieceN xs q (cntN k):Int)≤maxN k
  · have HC:=hide hc;have HT:Hid (tk (xs.drop q) k=some (⟨k,(pieceN xs q (cntN k):Nat),0,noS⟩,cntN k)):=by
     (have h1:cntN k≤(xs.drop q).length:=by rw [List.length_drop,aa];exact hc.1);have h2:(numB ((xs.drop q).take (cntN k)):Int)≤maxN k:=hc.2;rw [Zj7 hk,if_pos h1,if_pos h2];trivial
    clear h hc aa hk;unfold Step;rw [HT.out];go_enter Tryz.func201,Tryz.ntmps201;go_wp2_with fail;refine(HN.out _).mono ?_;rintro e w' ⟨ho,hy,hn⟩;obtain⟨rfl,hx⟩:=hy HC.out;have HG:=hide (Zdy HP.out ho);have g0:=HG.out.at.p0;have g1:=HG.out.at.p1;have g2:=HG.out.at.p2;have g3:=HG.out.at.p3;have gz:=HG.out.fz;have HO:=hide ((Only.of (Zaa w _)).trans ho);have HX:=hide hx;have HE:=hide (Zgi HH.out HO.out HX.out.rd HX.out.le HG.out ⟨k,(pieceN xs q (cntN k):Nat),0,noS⟩);clear ho hy hn hx;go_wp2_with fail;refine bodyPost_ret (Zcc HE.out.1 _ (by rfl)) rfl ?_;exact⟨HE.out.2.1,rfl,HE.out.2.2⟩
  · have HC:=hide hc;have HT:Hid (tk (xs.drop q) k=none):=by
     rw [Zj7 hk];by_cases h1:cntN k≤(xs.drop q).length
     · rw [if_pos h1];have h2:¬(numB ((xs.drop q).take (cntN k)):Int)≤maxN k:=fun h2=>hc ⟨by rw [List.length_drop,aa] at h1;exact h1,h2⟩;rw [if_neg h2];trivial
     · rw [if_neg h1];trivial
    clear h hc aa hk;unfold Step;rw [HT.out];go_enter Tryz.func201,Tryz.ntmps201;go_wp2_with fail;refine(HN.out _).mono ?_;rintro e w' ⟨ho,hy,hn⟩;obtain rfl:=hn HC.out;exact⟨rfl,(Only.of (Zaa w _)).trans ho,rfl⟩
theorem Zcx (p:Nat)(a:Option Addr)(len cap q:Nat)(xs:List Nat)(k:Int)(hk:1≤k∧k≤5)(w:World)(h:RdX w p a len cap q xs) :
    Calls Tryz.prog 201 #[.pointer (some ⟨p,0,none⟩),.int .i64 k] w (Step p a len cap q xs k w):=by
  by_cases h4:k=4
  · subst h4;exact ZnE p a len cap q xs w h
  by_cases h5:k=5
  · subst h5;exact ZlQ p a len cap q xs w h
  exact ZnD p a len cap q xs k (by omega) w h
theorem Zql:(Tryz.prog.info? 182).map (fun i=>(i.zero,i.size,i.bytes))=some (some (.agg #[.int .i64 0,.int .i64 0,.float .f64 0,.string ⟨#[]⟩]),4,40):=by kernel_rfl
def It.cells (i:It):List Value:=[.int .i64 i.kind,.int .i64 i.n,.float .f64 i.x,.string i.s]
def ZaL (l:List It):List Value:=l.flatMap It.cells
theorem Zbk:∀l,(ZaL l).length=l.length*4
 | []=>rfl
 | i :: r=>by
  have:=Zbk r
  simp only [ZaL,List.flatMap_cons,List.length_append,List.length_cons] at *
  rw [this]
  simp [It.cells]
  omega
theorem Zgh (l m:List It):ZaL (l ++ m)=ZaL l ++ ZaL m:=by simp [ZaL]
theorem Zkm (l:List It):∀u∈ZaL l,u.oneCell'=true:=by
 intro u hu;obtain⟨i,_,hi⟩:=List.mem_flatMap.1 hu;simp only [It.cells,List.mem_cons,List.mem_nil_iff,or_false] at hi;rcases hi with rfl | rfl | rfl | rfl <;> rfl
theorem Zd7:∀(l:List It)(j t:Nat),j<l.length→t<4→(ZaL l)[j*4+t]? = (l.getD j itD).cells[t]?
 | i :: r,0,t,_,ht=>by
  simp only [ZaL,List.flatMap_cons]
  rw [List.getElem?_append_left (by simp [It.cells];omega)]
  simp
 | i :: r,j+1,t,hj,ht=>by
  have:=Zd7 r j t (by simpa using hj) ht
  simp only [ZaL,List.flatMap_cons] at *
  rw [List.getElem?_append_right (by simp [It.cells];omega)]
  have e:(j+1)*4+t-i.cells.length=j*4+t:=by simp [It.cells];omega
  rw [e,this]
  simp [List.getD]
def OwnsI (w:World) (base:Nat) (v:Value) (l:List It):Prop:=w.ownsRow base 182 4 v l.length (ZaL l)
theorem OwnsI.nil (w:World)(base:Nat):OwnsI w base (.slice none 0 0) []:=⟨rfl,.inl ⟨rfl,rfl⟩⟩
theorem OwnsI.new (w:World):OwnsI (w.alloc (.cells #[] 182)) w.heap.size (.slice (some ⟨w.heap.size,0,none⟩) 0 0) []:=by
 have:=World.ownsRow_lit (base:=w.heap.size) (e:=182) (size:=4) w #[] 0 (Nat.le_refl _) (by unfold maxLen;omega) (by simp);simpa [OwnsI,ZaL] using this
theorem OwnsI.keep (h:OwnsI w base v l)(hb:Below B w w')(hB:w.heap.size≤B):OwnsI w' base v l:=by
 refine⟨h.1,?_⟩;rcases h.2 with hn | ⟨g,cap,cur,hv,aa,hg,rest⟩
 · exact .inl hn
 · refine .inr ⟨g,cap,cur,hv,aa,?_,rest⟩;rw [hb.block g (Nat.lt_of_lt_of_le (Array.getElem?_eq_some_iff.1 hg).1 hB)];exact hg
theorem OwnsI.only (h:OwnsI w base v l)(ho:Only p w w'){C:Array Value}{t:TypeId}{fr:Nat × Nat}(hp:w.heap[p]? = some (Obj.cells C t fr))(ht:t≠182):OwnsI w' base v l:=by
 refine⟨h.1,?_⟩;rcases h.2 with hn | ⟨g,cap,cur,hv,aa,hg,rest⟩
 · exact .inl hn
 · refine .inr ⟨g,cap,cur,hv,aa,?_,rest⟩;rw [ho.block g (Array.getElem?_eq_some_iff.1 hg).1 ?_]
   · exact hg
   · intro e;subst e;rw [hg] at hp;simp only [Option.some.injEq,Obj.cells.injEq] at hp;exact ht hp.2.1.symm
theorem OwnsI.is (h:OwnsI w base v l)(hf:∀i∈l,i.fits):∃a cap,v=.slice a l.length cap∧Is w a l.length l∧(a=none→cap=0)∧l.length≤cap:=by
 rcases h.2 with ⟨hv,h0⟩ | ⟨g,cap,cur,hv,ab,hg,aa,hr⟩
 · refine⟨none,0,by rw [h0];exact hv,⟨rfl,hf,fun j hj=>by omega⟩,fun _=>rfl,by omega⟩
 · refine⟨some ⟨g,0,none⟩,cap,hv,⟨rfl,hf,fun j hj=>⟨g,0,rfl,?_⟩⟩,(fun e=>by cases e),aa⟩;rw [hv] at h;have hc:∀t,t<4→w.cell? ⟨g,0+j*4+t,none⟩=(l.getD j itD).cells[t]?:=by
    intro t ht;have:=World.ownsRow.cellAt h (j*4+t) (by omega);rw [Nat.zero_add,this,Zd7 l j t hj ht]
   exact⟨hc 0 (by omega),hc 1 (by omega),hc 2 (by omega),hc 3 (by omega)⟩
def Ze0 (w w':World):Prop:=∀(p:Nat) (C:Array Value) (t:TypeId) (fr:Nat × Nat),w.heap[p]? = some (Obj.cells C t fr)→t≠182→w'.heap[p]? = w.heap[p]?
theorem Ze0.below (h:Below w.heap.size w w'):Ze0 w w':=fun p _ _ _ hp _=>h.block p (Array.getElem?_eq_some_iff.1 hp).1
theorem OwnsI.ne (h:OwnsI w base v l){C:Array Value}{t:TypeId}{fr:Nat × Nat}(hp:w.heap[p]? = some (Obj.cells C t fr))(ht:t≠182):v.ownBlock≠some p:=by
 intro e;rcases h.2 with ⟨hv,_⟩ | ⟨g,cap,cur,hv,_,hg,_⟩
 · rw [hv] at e;cases e
 · rw [hv] at e;simp [Value.ownBlock] at e;subst e;rw [hg] at hp;simp only [Option.some.injEq,Obj.cells.injEq] at hp;exact ht hp.2.1.symm
theorem Za7 (w:World)(ty:TypeId)(base:Nat)(v:Value)(l:List It)(aa:OwnsI w base v l)(ao:Option Addr)(len cap:Nat)(m:List It)(hb:Is w ao len m)(hn:ao=none→cap=0)
    (ah:l.length+len≤1000000)(ab:base≤w.heap.size) :
    ∃v' w',(Builtin.append_ #[183,183] ty #[v,.slice ao len cap]).run Tryz.prog w=.ok v' w'∧OwnsI w' base v' (l ++ m)∧Below base w w'∧Ze0 w w':=by
  obtain⟨i0,hi,aj,ak,al⟩:=info_parts Zql;have af:∀k,v.ownBlock=some k→base≤k:=fun k hk=>(World.ownsRow.lt aa k hk).1;have ag:=hb.1;cases ao with
  | none =>
   obtain rfl:=hn rfl;have h0:len=0:=by
    rcases Nat.eq_zero_or_pos len with h | h
    · exact h
    · obtain⟨_,_,e,_⟩:=hb.2.2 0 h;cases e
   subst h0;have hy:m=[]:=List.eq_nil_of_length_eq_zero ag;subst hy;have ae:=run_append_owned_none (P:=Tryz.prog) (w:=w) base 183 ty 182 i0 4 Tryz.underlying183 hi v l.length (ZaL l) aa;exact⟨v,w,ae,by simpa using aa,Below.refl _ _,fun _ _ _ _ _ _=>rfl⟩
  | some ad =>
   have ac:∀j u,(ZaL m)[j]? = some u→w.cell? (ad.add j)=some u:=by
    intro j u hj;have am:j<m.length*4:=by
     have:=(List.getElem?_eq_some_iff.1 hj).1;rw [Zbk] at this;exact this
    obtain⟨b,off,e,c0,c1,c2,c3⟩:=hb.2.2 (j / 4) (by omega);obtain rfl:=Option.some.inj e;have hg:=Zd7 m (j / 4) (j % 4) (by omega) (by omega);rw [show j / 4*4+j % 4=j by omega,hj] at hg;rw [Addr.add_lit];(have ai:j % 4=0∨j % 4=1∨j % 4=2∨j % 4=3:=by omega);rcases ai with e4 | e4 | e4 | e4 <;> rw [e4] at hg
    · rw [show off+j=off+j / 4*4 by omega,c0,hg];rfl
    · rw [show off+j=off+j / 4*4+1 by omega,c1,hg];rfl
    · rw [show off+j=off+j / 4*4+2 by omega,c2,hg];rfl
    · rw [show off+j=off+j / 4*4+3 by omega,c3,hg];rfl
   obtain⟨v',w',ae,ho,hg,_⟩:=run_append_own (P:=Tryz.prog) w base 183 ty 182 i0 (.agg #[.int .i64 0,.int .i64 0,.float .f64 0,.string ⟨#[]⟩]) 4 40 Tryz.underlying183 hi aj ak al rfl (by decide) v l.length (ZaL l) aa ad len cap (ZaL m) (by rw [Zbk,ag]) ac (Zkm m)
    (by unfold maxLen;omega) (by omega) ab
   refine⟨v',w',ae,?_,(Below.refl base w).grown hg ab af,fun p C t fr hp ht=>hg.block p (Array.getElem?_eq_some_iff.1 hp).1 (aa.ne hp ht).symm⟩;unfold OwnsI;rw [List.length_append,ag,Zgh];exact ho
theorem Zav (w:World){ops:Array Oper}{rest:List Oper}{o:Oper}{a:Act}{Q:Exit→Act→World→Prop}(ae:o.guard=none)(s x:Operand)
    (ho:o.op=.call { callee:=.builtin .append,args:=#[s,x],argTypes:=#[183,183] })(base:Nat)(v:Value)(l:List It)(hs:a.eval s=v)(ac:OwnsI w base v l)
    (ao:Option Addr)(len cap:Nat)(m:List It)(hx:a.eval x=.slice ao len cap)(hb:Is w ao len m)(hn:ao=none→cap=0)
    (ab:l.length+len≤1000000)(aa:base≤w.heap.size)
    (hK:∀v' w',OwnsI w' base v' (l ++ m)→Below base w w'→Ze0 w w'→wpList Tryz.prog ops Q rest (a.put o.dst v') w'):wpList Tryz.prog ops Q (o :: rest) a w:=by
  refine wpList_plain ae fun K hK'=>?_;obtain⟨v',w',ad,r1,r2,r3⟩:=Za7 w o.type base v l ac ao len cap m hb hn ab aa;unfold Oper.wp;simp [execOp,ho,resolve,invoke,builtin,hs,hx,ad,Result.andThen];exact hK' _ _ (hK v' w' r1 r2 r3)
theorem Zde (w:World)(i:It)(hf:i.fits):Is (w.alloc (.cells #[.int .i64 i.kind,.int .i64 i.n,.float .f64 i.x,.string i.s] 182)) (some ⟨w.heap.size,0,none⟩) 1 [i]:=by
 refine⟨rfl,fun x hx=>by simp at hx;rw [hx];exact hf,fun j hj=>?_⟩;(obtain rfl:j=0:=by omega);refine⟨w.heap.size,0,rfl,?_⟩;simpa using Zeo w i 182
def Ks (w:World) (a:Option Addr) (len:Nat) (ks:List Int):Prop:=
  ks.length=len∧∀j,j<len→∃b off,a=some ⟨b,off,none⟩∧w.cell? ⟨b,off+j,none⟩=some (.int .i64 (ks.getD j 0))
theorem Ks.keep {ks:List Int}(h:Ks w a len ks)(hb:Below B w w')(hB:w.heap.size≤B):Ks w' a len ks:=by
 refine⟨h.1,fun i hi=>?_⟩;obtain⟨b,off,ha,hc⟩:=h.2 i hi;exact⟨b,off,ha,(hb.cell (Nat.lt_of_lt_of_le (World.block_lt_of_cell? w _ hc) hB)).trans hc⟩
theorem ZaC {n:Int}(h1:-9223372036854775808≤n)(h2:n≤9223372036854775807):(Lit.int .i64 n).wf=true:=by
 simp [Lit.wf,IntKind.min,IntKind.max,IntKind.signed,IntKind.bits];omega
theorem ZdL (hx:Bytes xs)(hl:xs.length≤1000000){k:Int}(hk:1≤k∧k≤5){i:It}{n:Nat}(h:tk xs k=some (i,n)):i.fits∧n≤xs.length:=by
 have hb:∀m,Bytes (xs.take m):=fun m x hh=>hx x (List.mem_of_mem_take hh);have h8:∀m,m≤8→numB (xs.take m)<18446744073709551616:=by
  intro m hm;have h2:=ZbS (hb m);(have h3:(xs.take m).length≤8:=by rw [List.length_take];omega);have h4:256 ^ (xs.take m).length≤256 ^ 8:=Nat.pow_le_pow_right (by decide) h3;(have:(256:Nat) ^ 8=18446744073709551616:=by decide);omega
 have aa:(0:Nat)≤maxLen:=Nat.zero_le _;unfold tk at h;split at h
 · split at h
   · split at h
     · simp only [Option.some.injEq,Prod.mk.injEq] at h;obtain⟨rfl,rfl⟩:=h;exact⟨⟨ZaC (n:=4) (by decide) (by decide),ZaC (n:=0) (by decide) (by decide),h8 8 (by omega),aa⟩,by assumption⟩
     · cases h
   · cases h
 · split at h
   · split at h
     · split at h
       · simp only [Option.some.injEq,Prod.mk.injEq] at h;obtain⟨rfl,rfl⟩:=h;refine⟨⟨ZaC (n:=5) (by decide) (by decide),ZaC (n:=0) (by decide) (by decide),(by decide:(0:Nat)<18446744073709551616),?_⟩,by assumption⟩;have e:(bstr ((xs.drop 1).take (numB (xs.take 1)))).size=((xs.drop 1).take (numB (xs.take 1))).length:=by
          show (bstr _).data.size=_;rw [← Array.length_toList];unfold bstr;rw [strOfNums_data];simp
         show (bstr ((xs.drop 1).take (numB (xs.take 1)))).size≤maxLen;rw [e];(have:((xs.drop 1).take (numB (xs.take 1))).length≤xs.length:=by simp;omega);unfold maxLen;omega
       · cases h
     · cases h
   · split at h
     · split at h
       · simp only [Option.some.injEq,Prod.mk.injEq] at h;obtain⟨rfl,rfl⟩:=h;rename_i hle;have ab:maxN k≤2147483647:=by
          unfold maxN;split
          · decide
          · split <;> decide
         exact⟨⟨ZaC (n:=k) (by omega) (by omega),ZaC (n:=(numB (xs.take (cntN k)):Nat)) (by omega) (by omega),(by decide:(0:Nat)<18446744073709551616),aa⟩,by assumption⟩
       · cases h
     · cases h
end Go.Proofs.YtiecfcjlhldhdaaGreat
