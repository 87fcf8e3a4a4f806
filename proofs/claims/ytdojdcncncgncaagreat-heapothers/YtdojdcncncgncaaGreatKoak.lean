/-
  Lemmas.
-/
import Derived.Test.YtdojdcncncgncaaGreatKoaj
namespace Go.Proofs.YtdojdcncncgncaaGreat
open Go.RowKit
set_option linter.unusedVariables false
set_option maxRecDepth 100000
set_option maxHeartbeats 4000000
variable {w:World}{p:Nat}{r:Rw}{c:Value}{A:Act}
theorem Zbb (r : Rw) (a : Option Addr) (len cap : Nat) (w : World) (h : Fs w a len cap r.xs) (hf : r.fits) :
    Calls Tryz.prog 45 #[r.val (.slice a len cap)] w fun e w' => e = .returned (.int .i64 (chk r.may)) ∧ Below w.heap.size w w' := by
  obtain ⟨key, dead, xs, wr, cell, no⟩ := r
  have H1 := hide (Zks key hf.key)
  have H2 : Hid (∀ w', Below w.heap.size w w' → _) := fun w' hb => Zh8 a len cap xs dead w' (h.keep hb (Nat.le_refl _))
  have H3 := hide (Ze2 wr)
  have H4 := hide (Zh9 cell no)
  have HW : Hid (∀ o, Below w.heap.size w (w.alloc o)) := Zaa w
  clear h hf
  unfold Rw.val Rw.may
  simp only
  generalize (key == Fl.key key) = b1 at *
  generalize haveB dead xs = b2 at *
  generalize cntB wr = b3 at *
  generalize rollB cell no = b4 at *
  have HC : Hid (∀ b : Bool, chk (b && false) = 1) := fun b => by cases b <;> rfl
  cases b1
  · go_enter Tryz.func45, Tryz.ntmps45
    go_wp2_with fail
    refine (H1.out _).mono ?_
    rintro e w' ⟨rfl, hw⟩
    obtain rfl := hw.symm
    go_wp2_with fail
    go_ret
    exact ⟨rfl, HW.out _⟩
  cases b2
  · go_enter Tryz.func45, Tryz.ntmps45
    go_wp2_with fail
    refine (H1.out _).mono ?_
    rintro e w' ⟨rfl, hw⟩
    obtain rfl := hw.symm
    go_wp2_with fail
    refine (H2.out _ (HW.out _)).mono ?_
    rintro e w' ⟨rfl, hw⟩
    obtain rfl := hw.symm
    go_wp2_with fail
    go_ret
    exact ⟨rfl, HW.out _⟩
  cases b3
  · go_enter Tryz.func45, Tryz.ntmps45
    go_wp2_with fail
    refine (H1.out _).mono ?_
    rintro e w' ⟨rfl, hw⟩
    obtain rfl := hw.symm
    go_wp2_with fail
    refine (H2.out _ (HW.out _)).mono ?_
    rintro e w' ⟨rfl, hw⟩
    obtain rfl := hw.symm
    go_wp2_with fail
    refine (H3.out _).mono ?_
    rintro e w' ⟨rfl, hw⟩
    obtain rfl := hw.symm
    go_wp2_with fail
    go_ret
    exact ⟨rfl, HW.out _⟩
  cases b4
  all_goals
   go_enter Tryz.func45, Tryz.ntmps45
   go_wp2_with fail
   refine (H1.out _).mono ?_
   rintro e w' ⟨rfl, hw⟩
   obtain rfl := hw.symm
   go_wp2_with fail
   refine (H2.out _ (HW.out _)).mono ?_
   rintro e w' ⟨rfl, hw⟩
   obtain rfl := hw.symm
   go_wp2_with fail
   refine (H3.out _).mono ?_
   rintro e w' ⟨rfl, hw⟩
   obtain rfl := hw.symm
   go_wp2_with fail
   refine (H4.out _).mono ?_
   rintro e w' ⟨rfl, hb⟩
   have HB := hide (Zac (HW.out _) hb)
   clear hb
   go_wp2_with fail
   go_ret
   exact ⟨rfl, HB.out⟩
theorem ZkA (r : Rw) : r.may = ((r.key == Fl.key r.key) && haveB r.dead r.xs && (decide (0 ≤ r.wr) && decide (r.wr < 2147483648) && decide (0 ≤ r.cell) && decide (r.cell < 65536) && decide (0 ≤ r.no) && decide (r.no < 2147483648) && (decide (0 < r.cell) || r.no == 0))) := by
 unfold Rw.may
 rw [Bool.and_assoc ((r.key == Fl.key r.key) && haveB r.dead r.xs)]
 congr 1
 unfold cntB rollB
 by_cases h0 : r.cell = 0
 · rw [if_pos h0]
   rw [Bool.eq_iff_iff]
   simp [h0]
   omega
 · rw [if_neg h0]
   rw [Bool.eq_iff_iff]
   simp [cntB]
   omega
theorem Pl.unwantedU {ops:Array Oper}{n:Nat}{f:Nat→Value}(i j dj:Nat)(b:Bool)(h:(Pl.op ops i).guard=some (j,b))(hj:(ops[j]?).bind (·.dst)=some dj)(hn:dj<n)(hv:f dj=undef) :
    ∀A,Pl.At n A f→Region.wanted (Pl.op ops i) (yielded ops A.tmps)=false:=by
  intro A hA
  have hs:=hA.1
  have h1:=hA.2.2 dj hn
  have h2:A.tmps[dj]? = some undef:=by
   rw [hv] at h1
   have hlt:dj<A.tmps.size:=by omega
   simp only [Array.getD,hlt,dif_pos] at h1
   rw [Array.getElem?_eq_getElem hlt]
   exact congrArg some h1
  simp [Region.wanted,h,yielded,hj,h2,undef]

theorem Pl.qw {ops:Array Oper}{n:Nat}{f:Nat→Value}{i:Nat}(j:Nat)(dj:Nat)(b:Bool)(h:(Pl.op ops i).guard=some (j,b):=by kernel_rfl)(hj:(ops[j]?).bind (·.dst)=some dj:=by kernel_rfl)(hn:dj<n:=by decide)(hv:f dj=undef:=by exact rfl):∀A,Pl.At n A f→Region.wanted (Pl.op ops i) (yielded ops A.tmps)=false:=Pl.unwantedU i j dj b h hj hn hv
theorem Pl.ext1 {P : Program} {ops : Array Oper} {n : Nat} {f : Nat → Value} (i g : Nat) (x : Operand) (ts : Array TypeId) (v : Value) (h : (Pl.op ops i).op = .call { callee := .value (.func g), args := #[x], argTypes := ts }) (hx : Pl.inB n x = true)
    (hv : (callFunc g #[Pl.ev f x]).run P w = .ok (.value v) w) : ∀ A, Pl.At n A f → (execOp A.eval (Pl.op ops i)).run P w = .ok (.value v) w := by
  intro A hA
  have e : execOp A.eval (Pl.op ops i) = callFunc g (#[] ++ #[x].map A.eval ++ #[]) := by
   unfold execOp
   rw [h]
   rfl
  rw [e]
  simp [hA.ev x hx, hv]

theorem Pl.q_38 {P:Program}{ops:Array Oper}{n:Nat}{f:Nat→Value}{w:World}{i:Nat}{v:Value}(g:Nat)(x:Operand)(ts:Array TypeId)(hv:(callFunc g #[Pl.ev f x]).run P w=.ok (.value v) w)(h:(Pl.op ops i).op=.call { callee:=.value (.func g),args:=#[x],argTypes:=ts }:=by kernel_rfl)(hx:Pl.inB n x=true:=by decide):∀A,Pl.At n A f→(execOp A.eval (Pl.op ops i)).run P w=.ok (.value v) w:=Pl.ext1 i g x ts v h hx hv
theorem Zdh (b o len cap k:Nat)(hk:k<len)(w:World):(Instr.indexAt 29 (.slice (some ⟨b,o,none⟩) len cap) (.int .i64 (k:Nat))).run Tryz.prog w=.ok (.pointer (some ⟨b,o+k,none⟩)) w:=by
 have h22:Tryz.prog.underlying 29=some (.slice (Tryz.prog.elem 29)):=by kernel_rfl
 have h1:(0:Int)≤(k:Int):=by omega
 simp [go_sem,Instr.indexAt,run_underlying h22,h1,Addr.add_lit]
 intro h
 omega
theorem ZaB (b o x : Nat) (w : World) (h : w.cell? ⟨b, o, none⟩ = some (.float .f64 x)) : (Instr.loadAt 23 (.pointer (some ⟨b, o, none⟩))).run Tryz.prog w = .ok (.float .f64 x) w := by
  simp [go_sem, h]
theorem Zbj (b o : Nat) (a : Option Addr) (len cap : Nat) (w : World) (h : w.cell? ⟨b, o, none⟩ = some (.slice a len cap)) : (Instr.loadAt 29 (.pointer (some ⟨b, o, none⟩))).run Tryz.prog w = .ok (.slice a len cap) w := by
  simp [go_sem, h]
theorem ZdH (a : Option Addr) (len cap : Nat) (ty : TypeId) (w : World) : (Builtin.len_ #[29] ty #[.slice a len cap]).run Tryz.prog w = .ok (.int .i64 (len : Nat)) w := by
  simp [go_sem]
theorem Ze5 (b o : Nat) (d : Bool) (w : World) (h : w.cell? ⟨b, o, none⟩ = some (.bool d)) : (Instr.loadAt 4 (.pointer (some ⟨b, o, none⟩))).run Tryz.prog w = .ok (.bool d) w := by
  simp [go_sem, h]
def RwBlk (w : World) (p : Nat) (r : Rw) (c : Value) : Prop := w.heap[p]? = some (Obj.cells #[.float .f64 r.key, .bool r.dead, c, .int .i64 r.wr, .int .i64 r.cell, .int .i64 r.no] 33 (0, 0))
theorem Zai (w : World) (r : Rw) (c : Value) : RwBlk (w.alloc (.cells #[.float .f64 r.key, .bool r.dead, c, .int .i64 r.wr, .int .i64 r.cell, .int .i64 r.no] 33)) w.heap.size r c := heap_alloc_new w _
theorem RwBlk.keep {w w' : World} {p : Nat} {r : Rw} {c : Value} (h : RwBlk w p r c) (hb : Below w.heap.size w w') : RwBlk w' p r c := (hb.block p (Array.getElem?_eq_some_iff.1 h).1).trans h
theorem RwBlk.c0 {w : World} {p : Nat} {r : Rw} {c : Value} (h : RwBlk w p r c) : w.cell? ⟨p, 0, none⟩ = some (.float .f64 r.key) := by unfold RwBlk at h; simp [World.cell?, h]
theorem RwBlk.c1 {w : World} {p : Nat} {r : Rw} {c : Value} (h : RwBlk w p r c) : w.cell? ⟨p, 1, none⟩ = some (.bool r.dead) := by unfold RwBlk at h; simp [World.cell?, h]
theorem RwBlk.c2 {w : World} {p : Nat} {r : Rw} {c : Value} (h : RwBlk w p r c) : w.cell? ⟨p, 2, none⟩ = some c := by unfold RwBlk at h; simp [World.cell?, h]
theorem RwBlk.c3 {w : World} {p : Nat} {r : Rw} {c : Value} (h : RwBlk w p r c) : w.cell? ⟨p, 3, none⟩ = some (.int .i64 r.wr) := by unfold RwBlk at h; simp [World.cell?, h]
theorem RwBlk.c4 {w : World} {p : Nat} {r : Rw} {c : Value} (h : RwBlk w p r c) : w.cell? ⟨p, 4, none⟩ = some (.int .i64 r.cell) := by unfold RwBlk at h; simp [World.cell?, h]
theorem RwBlk.c5 {w : World} {p : Nat} {r : Rw} {c : Value} (h : RwBlk w p r c) : w.cell? ⟨p, 5, none⟩ = some (.int .i64 r.no) := by unfold RwBlk at h; simp [World.cell?, h]
theorem RwBlk.fz {w : World} {p : Nat} {r : Rw} {c : Value} (h : RwBlk w p r c) (o : Nat) : w.frozen? ⟨p, o, none⟩ = false := frozen_of_row w p _ _ 33 h
theorem ZaL (b : Nat) (w : World) : (Instr.fieldAt 33 (.pointer (some ⟨b, 0, none⟩)) 0).run Tryz.prog w = .ok (.pointer (some ⟨b, 0, none⟩)) w := by simp [go_sem, Instr.fieldAt]
theorem Zev (b : Nat) (w : World) : (Instr.fieldAt 33 (.pointer (some ⟨b, 0, none⟩)) 1).run Tryz.prog w = .ok (.pointer (some ⟨b, 1, none⟩)) w := by simp [go_sem, Instr.fieldAt]
theorem ZaH (b : Nat) (w : World) : (Instr.fieldAt 33 (.pointer (some ⟨b, 0, none⟩)) 2).run Tryz.prog w = .ok (.pointer (some ⟨b, 2, none⟩)) w := by simp [go_sem, Instr.fieldAt]
theorem Zdd : ∀ args w, (callFunc 65 args).run Tryz.prog w = .ok (.enter 65 args) w := Pl.enters Tryz.func65 (by kernel_rfl) (by kernel_rfl)
theorem Zl5 : ∀ args w, (callFunc 66 args).run Tryz.prog w = .ok (.enter 66 args) w := Pl.enters Tryz.func66 (by kernel_rfl) (by kernel_rfl)
theorem ZoC (w0 w:World)(p:Nat)(r:Rw)(a:Option Addr)(len cap:Nat)(hx:RwBlk w0 p r (.slice a len cap))(hlt:r.key<18446744073709551616)(hne:((r.key:Int) != ((Fl.key r.key:Nat):Int))=true)(hW:Below w0.heap.size w0 w)
    {Q:Exit→Act→World→Prop}(hsz:A.tmps.size=91)(hdf:A.defers=[])(s1:A.tmps.getD 1 undef=.pointer (some ⟨p,0,none⟩))
    (hend:∀(u:Nat→Value) w',Below w0.heap.size w0 w'→Q .normal ((((((((((((((((((((((((A).put (some 4) (u 4)).put (some 5) (u 5)).put (some 7) (u 7)).put (some 8) (u 8)).put (some 6) (u 6)).put (some 9) (u 9)).put (some 10) (u 10)).put (some 11) (u 11)).put (some 12) (u 12)).put (some 13) (u 13)).put (some 14) (u 14)).put (some 15) (u 15)).put (some 16) (u 16)).put (some 17) (u 17)).put (some 18) (u 18)).put (some 19) (u 19)).put (some 20) (u 20)).put (some 21) (u 21)).put (some 22) (u 22)).put (some 23) (u 23)).put (some 24) (u 24)).put (some 25) (u 25)).put (some 26) (.bool true)) w') :
    (Code.region 1 (Pl.find 1 ((Tryz.f29.body).getD .skip)) true).wp Tryz.prog Q A w:=by
  have hS0:Below w0.heap.size w0 w.drew:=hW.drew
  have hA:=Pl.At.same (v:=.pointer (some ⟨p,0,none⟩)) (d:=1) (Pl.At.here hsz hdf) s1
  refine Pl.qa (S:=fun w'=>Below w0.heap.size w0 w') hA hS0 ?_
  rw [show (Pl.find 1 ((Tryz.f29.body).getD .skip)).size=23 by kernel_rfl]
  refine Pl.q0 0 4 (.pointer (some ⟨p,0,none⟩)) (Pl.q1) (Pl.q5 33 (.tmp 1) 0 (ZaL p)) hS0 ?_
  refine Pl.q0 1 5 (.float .f64 r.key) (Pl.q1) (Pl.q4 23 (.tmp 4) (fun w' hS=>ZaB p 0 _ w' (hx.keep hS).c0)) hS0 ?_
  refine Pl.q0 3 7 (.pointer (some ⟨p,0,none⟩)) (Pl.q1) (Pl.q5 33 (.tmp 1) 0 (ZaL p)) hS0 ?_
  refine Pl.q0 4 8 (.float .f64 r.key) (Pl.q1) (Pl.q4 23 (.tmp 7) (fun w' hS=>ZaB p 0 _ w' (hx.keep hS).c0)) hS0 ?_
  refine Pl.qs 2 6 (.int .u64 (r.key:Int)) (Pl.q1) (Pl.q_38 64 (.tmp 5) #[23] (ZaE _ _)) hS0 ?_
  refine Pl.qc 5 9 65 [(.tmp 8)] #[23] (Pl.q1) Zdd (Calls.mono (ZaV r.key hlt w.drew) ?_)
  rintro e w' ⟨rfl,hw⟩
  obtain rfl:=hw.symm
  refine⟨.int .u64 ((Fl.key r.key:Nat):Int),rfl,hS0,?_⟩
  refine Pl.q0 6 10 (.bool true) (Pl.q1) (Pl.qb .neq 100 100 (.tmp 6) (.tmp 9) (.int .u64 (r.key:Int)) (.int .u64 ((Fl.key r.key:Nat):Int)) (fun w=>by simp [go_sem,eqGuard,hne])) hS0 ?_
  refine Pl.q0 7 11 (.bool true) (Pl.q1) (Pl.q2 (.tmp 10)) hS0 ?_
  refine Pl.q6 8 12 (Pl.q7 7 11 false) hS0 ?_
  refine Pl.q6 9 13 (Pl.q7 7 11 false) hS0 ?_
  refine Pl.q6 10 14 (Pl.q7 7 11 false) hS0 ?_
  refine Pl.q6 11 15 (Pl.q7 7 11 false) hS0 ?_
  refine Pl.q0 12 16 (.bool true) (Pl.q1) (Pl.qk (.tmp 11) (.const (.bool true)) (.tmp 15)) hS0 ?_
  refine Pl.q0 13 17 (.bool true) (Pl.q1) (Pl.q2 (.tmp 16)) hS0 ?_
  refine Pl.q6 14 18 (Pl.q7 13 17 false) hS0 ?_
  refine Pl.q6 15 19 (Pl.q7 13 17 false) hS0 ?_
  refine Pl.q6 16 20 (Pl.q7 13 17 false) hS0 ?_
  refine Pl.q6 17 21 (Pl.qw 16 20 true) hS0 ?_
  refine Pl.q6 18 22 (Pl.qw 16 20 true) hS0 ?_
  refine Pl.q6 19 23 (Pl.qw 16 20 true) hS0 ?_
  refine Pl.q6 20 24 (Pl.qw 16 20 true) hS0 ?_
  refine Pl.q6 21 25 (Pl.q7 13 17 false) hS0 ?_
  refine Pl.q0 22 26 (.bool true) (Pl.q1) (Pl.qk (.tmp 17) (.const (.bool true)) (.tmp 25)) hS0 ?_
  refine Pl.q8 (fun A' hA'=>?_)
  rw [Pl.At.ext hA' (((((((((((((((((((((((hA.put 4 _).put 5 _).put 7 _).put 8 _).put 6 _).put 9 _).put 10 _).put 11 _).put 12 _).put 13 _).put 14 _).put 15 _).put 16 _).put 17 _).put 18 _).put 19 _).put 20 _).put 21 _).put 22 _).put 23 _).put 24 _).put 25 _).put 26 _)]
  exact hend hA'.fn _ hS0
theorem ZoD (w0 w:World)(p:Nat)(r:Rw)(a:Option Addr)(len cap:Nat)(hx:RwBlk w0 p r (.slice a len cap))(hlt:r.key<18446744073709551616)(hne:((r.key:Int) != ((Fl.key r.key:Nat):Int))=false)(h4:(4:Int)<(len:Int))(hW:Below w0.heap.size w0 w)
    {Q:Exit→Act→World→Prop}(hsz:A.tmps.size=91)(hdf:A.defers=[])(s1:A.tmps.getD 1 undef=.pointer (some ⟨p,0,none⟩))
    (hend:∀(u:Nat→Value) w',Below w0.heap.size w0 w'→Q .normal ((((((((((((((((((((((((A).put (some 4) (u 4)).put (some 5) (u 5)).put (some 7) (u 7)).put (some 8) (u 8)).put (some 6) (u 6)).put (some 9) (u 9)).put (some 10) (u 10)).put (some 11) (u 11)).put (some 12) (u 12)).put (some 13) (u 13)).put (some 14) (u 14)).put (some 15) (u 15)).put (some 16) (u 16)).put (some 17) (u 17)).put (some 18) (u 18)).put (some 19) (u 19)).put (some 20) (u 20)).put (some 21) (u 21)).put (some 22) (u 22)).put (some 23) (u 23)).put (some 24) (u 24)).put (some 25) (u 25)).put (some 26) (.bool true)) w') :
    (Code.region 1 (Pl.find 1 ((Tryz.f29.body).getD .skip)) true).wp Tryz.prog Q A w:=by
  have hS0:Below w0.heap.size w0 w.drew:=hW.drew
  have hA:=Pl.At.same (v:=.pointer (some ⟨p,0,none⟩)) (d:=1) (Pl.At.here hsz hdf) s1
  refine Pl.qa (S:=fun w'=>Below w0.heap.size w0 w') hA hS0 ?_
  rw [show (Pl.find 1 ((Tryz.f29.body).getD .skip)).size=23 by kernel_rfl]
  refine Pl.q0 0 4 (.pointer (some ⟨p,0,none⟩)) (Pl.q1) (Pl.q5 33 (.tmp 1) 0 (ZaL p)) hS0 ?_
  refine Pl.q0 1 5 (.float .f64 r.key) (Pl.q1) (Pl.q4 23 (.tmp 4) (fun w' hS=>ZaB p 0 _ w' (hx.keep hS).c0)) hS0 ?_
  refine Pl.q0 3 7 (.pointer (some ⟨p,0,none⟩)) (Pl.q1) (Pl.q5 33 (.tmp 1) 0 (ZaL p)) hS0 ?_
  refine Pl.q0 4 8 (.float .f64 r.key) (Pl.q1) (Pl.q4 23 (.tmp 7) (fun w' hS=>ZaB p 0 _ w' (hx.keep hS).c0)) hS0 ?_
  refine Pl.qs 2 6 (.int .u64 (r.key:Int)) (Pl.q1) (Pl.q_38 64 (.tmp 5) #[23] (ZaE _ _)) hS0 ?_
  refine Pl.qc 5 9 65 [(.tmp 8)] #[23] (Pl.q1) Zdd (Calls.mono (ZaV r.key hlt w.drew) ?_)
  rintro e w' ⟨rfl,hw⟩
  obtain rfl:=hw.symm
  refine⟨.int .u64 ((Fl.key r.key:Nat):Int),rfl,hS0,?_⟩
  refine Pl.q0 6 10 (.bool false) (Pl.q1) (Pl.qb .neq 100 100 (.tmp 6) (.tmp 9) (.int .u64 (r.key:Int)) (.int .u64 ((Fl.key r.key:Nat):Int)) (fun w=>by simp [go_sem,eqGuard,hne])) hS0 ?_
  refine Pl.q0 7 11 (.bool false) (Pl.q1) (Pl.q2 (.tmp 10)) hS0 ?_
  refine Pl.q0 8 12 (.pointer (some ⟨p,2,none⟩)) (Pl.q3 7 11 false) (Pl.q5 33 (.tmp 1) 2 (ZaH p)) hS0 ?_
  refine Pl.q0 9 13 (.slice a len cap) (Pl.q3 7 11 false) (Pl.q4 29 (.tmp 12) (fun w' hS=>Zbj p 2 _ _ _ w' (hx.keep hS).c2)) hS0 ?_
  refine Pl.q0 10 14 (.int .i64 (len:Nat)) (Pl.q3 7 11 false) (Pl.qq 29 (.tmp 13) (fun ty w=>ZdH _ _ _ ty w)) hS0 ?_
  refine Pl.q0 11 15 (.bool true) (Pl.q3 7 11 false) (Pl.qb .gtr 3 3 (.tmp 14) (.const (.int .i64 4)) (.int .i64 (len:Nat)) (.int .i64 4) (fun w=>by simp [go_sem,eqGuard,h4])) hS0 ?_
  refine Pl.q0 12 16 (.bool true) (Pl.q1) (Pl.qj (.tmp 11) (.const (.bool true)) (.tmp 15)) hS0 ?_
  refine Pl.q0 13 17 (.bool true) (Pl.q1) (Pl.q2 (.tmp 16)) hS0 ?_
  refine Pl.q6 14 18 (Pl.q7 13 17 false) hS0 ?_
  refine Pl.q6 15 19 (Pl.q7 13 17 false) hS0 ?_
  refine Pl.q6 16 20 (Pl.q7 13 17 false) hS0 ?_
  refine Pl.q6 17 21 (Pl.qw 16 20 true) hS0 ?_
  refine Pl.q6 18 22 (Pl.qw 16 20 true) hS0 ?_
  refine Pl.q6 19 23 (Pl.qw 16 20 true) hS0 ?_
  refine Pl.q6 20 24 (Pl.qw 16 20 true) hS0 ?_
  refine Pl.q6 21 25 (Pl.q7 13 17 false) hS0 ?_
  refine Pl.q0 22 26 (.bool true) (Pl.q1) (Pl.qk (.tmp 17) (.const (.bool true)) (.tmp 25)) hS0 ?_
  refine Pl.q8 (fun A' hA'=>?_)
  rw [Pl.At.ext hA' (((((((((((((((((((((((hA.put 4 _).put 5 _).put 7 _).put 8 _).put 6 _).put 9 _).put 10 _).put 11 _).put 12 _).put 13 _).put 14 _).put 15 _).put 16 _).put 17 _).put 18 _).put 19 _).put 20 _).put 21 _).put 22 _).put 23 _).put 24 _).put 25 _).put 26 _)]
  exact hend hA'.fn _ hS0
theorem ZoG (w0 w:World)(p:Nat)(r:Rw)(a:Option Addr)(len cap:Nat)(hx:RwBlk w0 p r (.slice a len cap))(hlt:r.key<18446744073709551616)(hne:((r.key:Int) != ((Fl.key r.key:Nat):Int))=false)(h4:¬(4:Int)<(len:Int))(hd:r.dead=true)(h0:(0:Int)<(len:Int))(hW:Below w0.heap.size w0 w)
    {Q:Exit→Act→World→Prop}(hsz:A.tmps.size=91)(hdf:A.defers=[])(s1:A.tmps.getD 1 undef=.pointer (some ⟨p,0,none⟩))
    (hend:∀(u:Nat→Value) w',Below w0.heap.size w0 w'→Q .normal ((((((((((((((((((((((((A).put (some 4) (u 4)).put (some 5) (u 5)).put (some 7) (u 7)).put (some 8) (u 8)).put (some 6) (u 6)).put (some 9) (u 9)).put (some 10) (u 10)).put (some 11) (u 11)).put (some 12) (u 12)).put (some 13) (u 13)).put (some 14) (u 14)).put (some 15) (u 15)).put (some 16) (u 16)).put (some 17) (u 17)).put (some 18) (u 18)).put (some 19) (u 19)).put (some 20) (u 20)).put (some 21) (u 21)).put (some 22) (u 22)).put (some 23) (u 23)).put (some 24) (u 24)).put (some 25) (u 25)).put (some 26) (.bool true)) w') :
    (Code.region 1 (Pl.find 1 ((Tryz.f29.body).getD .skip)) true).wp Tryz.prog Q A w:=by
  have hS0:Below w0.heap.size w0 w.drew:=hW.drew
  have hA:=Pl.At.same (v:=.pointer (some ⟨p,0,none⟩)) (d:=1) (Pl.At.here hsz hdf) s1
  refine Pl.qa (S:=fun w'=>Below w0.heap.size w0 w') hA hS0 ?_
  rw [show (Pl.find 1 ((Tryz.f29.body).getD .skip)).size=23 by kernel_rfl]
  refine Pl.q0 0 4 (.pointer (some ⟨p,0,none⟩)) (Pl.q1) (Pl.q5 33 (.tmp 1) 0 (ZaL p)) hS0 ?_
  refine Pl.q0 1 5 (.float .f64 r.key) (Pl.q1) (Pl.q4 23 (.tmp 4) (fun w' hS=>ZaB p 0 _ w' (hx.keep hS).c0)) hS0 ?_
  refine Pl.q0 3 7 (.pointer (some ⟨p,0,none⟩)) (Pl.q1) (Pl.q5 33 (.tmp 1) 0 (ZaL p)) hS0 ?_
  refine Pl.q0 4 8 (.float .f64 r.key) (Pl.q1) (Pl.q4 23 (.tmp 7) (fun w' hS=>ZaB p 0 _ w' (hx.keep hS).c0)) hS0 ?_
  refine Pl.qs 2 6 (.int .u64 (r.key:Int)) (Pl.q1) (Pl.q_38 64 (.tmp 5) #[23] (ZaE _ _)) hS0 ?_
  refine Pl.qc 5 9 65 [(.tmp 8)] #[23] (Pl.q1) Zdd (Calls.mono (ZaV r.key hlt w.drew) ?_)
  rintro e w' ⟨rfl,hw⟩
  obtain rfl:=hw.symm
  refine⟨.int .u64 ((Fl.key r.key:Nat):Int),rfl,hS0,?_⟩
  refine Pl.q0 6 10 (.bool false) (Pl.q1) (Pl.qb .neq 100 100 (.tmp 6) (.tmp 9) (.int .u64 (r.key:Int)) (.int .u64 ((Fl.key r.key:Nat):Int)) (fun w=>by simp [go_sem,eqGuard,hne])) hS0 ?_
  refine Pl.q0 7 11 (.bool false) (Pl.q1) (Pl.q2 (.tmp 10)) hS0 ?_
  refine Pl.q0 8 12 (.pointer (some ⟨p,2,none⟩)) (Pl.q3 7 11 false) (Pl.q5 33 (.tmp 1) 2 (ZaH p)) hS0 ?_
  refine Pl.q0 9 13 (.slice a len cap) (Pl.q3 7 11 false) (Pl.q4 29 (.tmp 12) (fun w' hS=>Zbj p 2 _ _ _ w' (hx.keep hS).c2)) hS0 ?_
  refine Pl.q0 10 14 (.int .i64 (len:Nat)) (Pl.q3 7 11 false) (Pl.qq 29 (.tmp 13) (fun ty w=>ZdH _ _ _ ty w)) hS0 ?_
  refine Pl.q0 11 15 (.bool false) (Pl.q3 7 11 false) (Pl.qb .gtr 3 3 (.tmp 14) (.const (.int .i64 4)) (.int .i64 (len:Nat)) (.int .i64 4) (fun w=>by simp [go_sem,eqGuard,h4])) hS0 ?_
  refine Pl.q0 12 16 (.bool false) (Pl.q1) (Pl.qj (.tmp 11) (.const (.bool true)) (.tmp 15)) hS0 ?_
  refine Pl.q0 13 17 (.bool false) (Pl.q1) (Pl.q2 (.tmp 16)) hS0 ?_
  refine Pl.q0 14 18 (.pointer (some ⟨p,1,none⟩)) (Pl.q3 13 17 false) (Pl.q5 33 (.tmp 1) 1 (Zev p)) hS0 ?_
  refine Pl.q0 15 19 (.bool true) (Pl.q3 13 17 false) (Pl.q4 4 (.tmp 18) (fun w' hS=>Ze5 p 1 _ w' (by rw [← hd];exact (hx.keep hS).c1))) hS0 ?_
  refine Pl.q0 16 20 (.bool true) (Pl.q3 13 17 false) (Pl.q2 (.tmp 19)) hS0 ?_
  refine Pl.q0 17 21 (.pointer (some ⟨p,2,none⟩)) (Pl.q3 16 20 true) (Pl.q5 33 (.tmp 1) 2 (ZaH p)) hS0 ?_
  refine Pl.q0 18 22 (.slice a len cap) (Pl.q3 16 20 true) (Pl.q4 29 (.tmp 21) (fun w' hS=>Zbj p 2 _ _ _ w' (hx.keep hS).c2)) hS0 ?_
  refine Pl.q0 19 23 (.int .i64 (len:Nat)) (Pl.q3 16 20 true) (Pl.qq 29 (.tmp 22) (fun ty w=>ZdH _ _ _ ty w)) hS0 ?_
  refine Pl.q0 20 24 (.bool true) (Pl.q3 16 20 true) (Pl.qb .gtr 3 3 (.tmp 23) (.const (.int .i64 0)) (.int .i64 (len:Nat)) (.int .i64 0) (fun w=>by have h0':=h0;simp [go_sem,eqGuard];omega)) hS0 ?_
  refine Pl.q0 21 25 (.bool true) (Pl.q3 13 17 false) (Pl.qk (.tmp 20) (.tmp 24) (.const (.bool false))) hS0 ?_
  refine Pl.q0 22 26 (.bool true) (Pl.q1) (Pl.qj (.tmp 17) (.const (.bool true)) (.tmp 25)) hS0 ?_
  refine Pl.q8 (fun A' hA'=>?_)
  rw [Pl.At.ext hA' (((((((((((((((((((((((hA.put 4 _).put 5 _).put 7 _).put 8 _).put 6 _).put 9 _).put 10 _).put 11 _).put 12 _).put 13 _).put 14 _).put 15 _).put 16 _).put 17 _).put 18 _).put 19 _).put 20 _).put 21 _).put 22 _).put 23 _).put 24 _).put 25 _).put 26 _)]
  exact hend hA'.fn _ hS0
theorem ZoH (w0 w:World)(p:Nat)(r:Rw)(a:Option Addr)(len cap:Nat)(hx:RwBlk w0 p r (.slice a len cap))(hlt:r.key<18446744073709551616)(hne:((r.key:Int) != ((Fl.key r.key:Nat):Int))=false)(h4:¬(4:Int)<(len:Int))(hd:r.dead=true)(h0:¬(0:Int)<(len:Int))(hW:Below w0.heap.size w0 w)
    {Q:Exit→Act→World→Prop}(hsz:A.tmps.size=91)(hdf:A.defers=[])(s1:A.tmps.getD 1 undef=.pointer (some ⟨p,0,none⟩))
    (hend:∀(u:Nat→Value) w',Below w0.heap.size w0 w'→Q .normal ((((((((((((((((((((((((A).put (some 4) (u 4)).put (some 5) (u 5)).put (some 7) (u 7)).put (some 8) (u 8)).put (some 6) (u 6)).put (some 9) (u 9)).put (some 10) (u 10)).put (some 11) (u 11)).put (some 12) (u 12)).put (some 13) (u 13)).put (some 14) (u 14)).put (some 15) (u 15)).put (some 16) (u 16)).put (some 17) (u 17)).put (some 18) (u 18)).put (some 19) (u 19)).put (some 20) (u 20)).put (some 21) (u 21)).put (some 22) (u 22)).put (some 23) (u 23)).put (some 24) (u 24)).put (some 25) (u 25)).put (some 26) (.bool false)) w') :
    (Code.region 1 (Pl.find 1 ((Tryz.f29.body).getD .skip)) true).wp Tryz.prog Q A w:=by
  have hS0:Below w0.heap.size w0 w.drew:=hW.drew
  have hA:=Pl.At.same (v:=.pointer (some ⟨p,0,none⟩)) (d:=1) (Pl.At.here hsz hdf) s1
  refine Pl.qa (S:=fun w'=>Below w0.heap.size w0 w') hA hS0 ?_
  rw [show (Pl.find 1 ((Tryz.f29.body).getD .skip)).size=23 by kernel_rfl]
  refine Pl.q0 0 4 (.pointer (some ⟨p,0,none⟩)) (Pl.q1) (Pl.q5 33 (.tmp 1) 0 (ZaL p)) hS0 ?_
  refine Pl.q0 1 5 (.float .f64 r.key) (Pl.q1) (Pl.q4 23 (.tmp 4) (fun w' hS=>ZaB p 0 _ w' (hx.keep hS).c0)) hS0 ?_
  refine Pl.q0 3 7 (.pointer (some ⟨p,0,none⟩)) (Pl.q1) (Pl.q5 33 (.tmp 1) 0 (ZaL p)) hS0 ?_
  refine Pl.q0 4 8 (.float .f64 r.key) (Pl.q1) (Pl.q4 23 (.tmp 7) (fun w' hS=>ZaB p 0 _ w' (hx.keep hS).c0)) hS0 ?_
  refine Pl.qs 2 6 (.int .u64 (r.key:Int)) (Pl.q1) (Pl.q_38 64 (.tmp 5) #[23] (ZaE _ _)) hS0 ?_
  refine Pl.qc 5 9 65 [(.tmp 8)] #[23] (Pl.q1) Zdd (Calls.mono (ZaV r.key hlt w.drew) ?_)
  rintro e w' ⟨rfl,hw⟩
  obtain rfl:=hw.symm
  refine⟨.int .u64 ((Fl.key r.key:Nat):Int),rfl,hS0,?_⟩
  refine Pl.q0 6 10 (.bool false) (Pl.q1) (Pl.qb .neq 100 100 (.tmp 6) (.tmp 9) (.int .u64 (r.key:Int)) (.int .u64 ((Fl.key r.key:Nat):Int)) (fun w=>by simp [go_sem,eqGuard,hne])) hS0 ?_
  refine Pl.q0 7 11 (.bool false) (Pl.q1) (Pl.q2 (.tmp 10)) hS0 ?_
  refine Pl.q0 8 12 (.pointer (some ⟨p,2,none⟩)) (Pl.q3 7 11 false) (Pl.q5 33 (.tmp 1) 2 (ZaH p)) hS0 ?_
  refine Pl.q0 9 13 (.slice a len cap) (Pl.q3 7 11 false) (Pl.q4 29 (.tmp 12) (fun w' hS=>Zbj p 2 _ _ _ w' (hx.keep hS).c2)) hS0 ?_
  refine Pl.q0 10 14 (.int .i64 (len:Nat)) (Pl.q3 7 11 false) (Pl.qq 29 (.tmp 13) (fun ty w=>ZdH _ _ _ ty w)) hS0 ?_
  refine Pl.q0 11 15 (.bool false) (Pl.q3 7 11 false) (Pl.qb .gtr 3 3 (.tmp 14) (.const (.int .i64 4)) (.int .i64 (len:Nat)) (.int .i64 4) (fun w=>by simp [go_sem,eqGuard,h4])) hS0 ?_
  refine Pl.q0 12 16 (.bool false) (Pl.q1) (Pl.qj (.tmp 11) (.const (.bool true)) (.tmp 15)) hS0 ?_
  refine Pl.q0 13 17 (.bool false) (Pl.q1) (Pl.q2 (.tmp 16)) hS0 ?_
  refine Pl.q0 14 18 (.pointer (some ⟨p,1,none⟩)) (Pl.q3 13 17 false) (Pl.q5 33 (.tmp 1) 1 (Zev p)) hS0 ?_
  refine Pl.q0 15 19 (.bool true) (Pl.q3 13 17 false) (Pl.q4 4 (.tmp 18) (fun w' hS=>Ze5 p 1 _ w' (by rw [← hd];exact (hx.keep hS).c1))) hS0 ?_
  refine Pl.q0 16 20 (.bool true) (Pl.q3 13 17 false) (Pl.q2 (.tmp 19)) hS0 ?_
  refine Pl.q0 17 21 (.pointer (some ⟨p,2,none⟩)) (Pl.q3 16 20 true) (Pl.q5 33 (.tmp 1) 2 (ZaH p)) hS0 ?_
  refine Pl.q0 18 22 (.slice a len cap) (Pl.q3 16 20 true) (Pl.q4 29 (.tmp 21) (fun w' hS=>Zbj p 2 _ _ _ w' (hx.keep hS).c2)) hS0 ?_
  refine Pl.q0 19 23 (.int .i64 (len:Nat)) (Pl.q3 16 20 true) (Pl.qq 29 (.tmp 22) (fun ty w=>ZdH _ _ _ ty w)) hS0 ?_
  refine Pl.q0 20 24 (.bool false) (Pl.q3 16 20 true) (Pl.qb .gtr 3 3 (.tmp 23) (.const (.int .i64 0)) (.int .i64 (len:Nat)) (.int .i64 0) (fun w=>by have h0':=h0;simp [go_sem,eqGuard];omega)) hS0 ?_
  refine Pl.q0 21 25 (.bool false) (Pl.q3 13 17 false) (Pl.qk (.tmp 20) (.tmp 24) (.const (.bool false))) hS0 ?_
  refine Pl.q0 22 26 (.bool false) (Pl.q1) (Pl.qj (.tmp 17) (.const (.bool true)) (.tmp 25)) hS0 ?_
  refine Pl.q8 (fun A' hA'=>?_)
  rw [Pl.At.ext hA' (((((((((((((((((((((((hA.put 4 _).put 5 _).put 7 _).put 8 _).put 6 _).put 9 _).put 10 _).put 11 _).put 12 _).put 13 _).put 14 _).put 15 _).put 16 _).put 17 _).put 18 _).put 19 _).put 20 _).put 21 _).put 22 _).put 23 _).put 24 _).put 25 _).put 26 _)]
  exact hend hA'.fn _ hS0
theorem ZoE (w0 w:World)(p:Nat)(r:Rw)(a:Option Addr)(len cap:Nat)(hx:RwBlk w0 p r (.slice a len cap))(hlt:r.key<18446744073709551616)(hne:((r.key:Int) != ((Fl.key r.key:Nat):Int))=false)(h4:¬(4:Int)<(len:Int))(hd:r.dead=false)(hW:Below w0.heap.size w0 w)
    {Q:Exit→Act→World→Prop}(hsz:A.tmps.size=91)(hdf:A.defers=[])(s1:A.tmps.getD 1 undef=.pointer (some ⟨p,0,none⟩))
    (hend:∀(u:Nat→Value) w',Below w0.heap.size w0 w'→Q .normal ((((((((((((((((((((((((A).put (some 4) (u 4)).put (some 5) (u 5)).put (some 7) (u 7)).put (some 8) (u 8)).put (some 6) (u 6)).put (some 9) (u 9)).put (some 10) (u 10)).put (some 11) (u 11)).put (some 12) (u 12)).put (some 13) (u 13)).put (some 14) (u 14)).put (some 15) (u 15)).put (some 16) (u 16)).put (some 17) (u 17)).put (some 18) (u 18)).put (some 19) (u 19)).put (some 20) (u 20)).put (some 21) (u 21)).put (some 22) (u 22)).put (some 23) (u 23)).put (some 24) (u 24)).put (some 25) (u 25)).put (some 26) (.bool false)) w') :
    (Code.region 1 (Pl.find 1 ((Tryz.f29.body).getD .skip)) true).wp Tryz.prog Q A w:=by
  have hS0:Below w0.heap.size w0 w.drew:=hW.drew
  have hA:=Pl.At.same (v:=.pointer (some ⟨p,0,none⟩)) (d:=1) (Pl.At.here hsz hdf) s1
  refine Pl.qa (S:=fun w'=>Below w0.heap.size w0 w') hA hS0 ?_
  rw [show (Pl.find 1 ((Tryz.f29.body).getD .skip)).size=23 by kernel_rfl]
  refine Pl.q0 0 4 (.pointer (some ⟨p,0,none⟩)) (Pl.q1) (Pl.q5 33 (.tmp 1) 0 (ZaL p)) hS0 ?_
  refine Pl.q0 1 5 (.float .f64 r.key) (Pl.q1) (Pl.q4 23 (.tmp 4) (fun w' hS=>ZaB p 0 _ w' (hx.keep hS).c0)) hS0 ?_
  refine Pl.q0 3 7 (.pointer (some ⟨p,0,none⟩)) (Pl.q1) (Pl.q5 33 (.tmp 1) 0 (ZaL p)) hS0 ?_
  refine Pl.q0 4 8 (.float .f64 r.key) (Pl.q1) (Pl.q4 23 (.tmp 7) (fun w' hS=>ZaB p 0 _ w' (hx.keep hS).c0)) hS0 ?_
  refine Pl.qs 2 6 (.int .u64 (r.key:Int)) (Pl.q1) (Pl.q_38 64 (.tmp 5) #[23] (ZaE _ _)) hS0 ?_
  refine Pl.qc 5 9 65 [(.tmp 8)] #[23] (Pl.q1) Zdd (Calls.mono (ZaV r.key hlt w.drew) ?_)
  rintro e w' ⟨rfl,hw⟩
  obtain rfl:=hw.symm
  refine⟨.int .u64 ((Fl.key r.key:Nat):Int),rfl,hS0,?_⟩
  refine Pl.q0 6 10 (.bool false) (Pl.q1) (Pl.qb .neq 100 100 (.tmp 6) (.tmp 9) (.int .u64 (r.key:Int)) (.int .u64 ((Fl.key r.key:Nat):Int)) (fun w=>by simp [go_sem,eqGuard,hne])) hS0 ?_
  refine Pl.q0 7 11 (.bool false) (Pl.q1) (Pl.q2 (.tmp 10)) hS0 ?_
  refine Pl.q0 8 12 (.pointer (some ⟨p,2,none⟩)) (Pl.q3 7 11 false) (Pl.q5 33 (.tmp 1) 2 (ZaH p)) hS0 ?_
  refine Pl.q0 9 13 (.slice a len cap) (Pl.q3 7 11 false) (Pl.q4 29 (.tmp 12) (fun w' hS=>Zbj p 2 _ _ _ w' (hx.keep hS).c2)) hS0 ?_
  refine Pl.q0 10 14 (.int .i64 (len:Nat)) (Pl.q3 7 11 false) (Pl.qq 29 (.tmp 13) (fun ty w=>ZdH _ _ _ ty w)) hS0 ?_
  refine Pl.q0 11 15 (.bool false) (Pl.q3 7 11 false) (Pl.qb .gtr 3 3 (.tmp 14) (.const (.int .i64 4)) (.int .i64 (len:Nat)) (.int .i64 4) (fun w=>by simp [go_sem,eqGuard,h4])) hS0 ?_
  refine Pl.q0 12 16 (.bool false) (Pl.q1) (Pl.qj (.tmp 11) (.const (.bool true)) (.tmp 15)) hS0 ?_
  refine Pl.q0 13 17 (.bool false) (Pl.q1) (Pl.q2 (.tmp 16)) hS0 ?_
  refine Pl.q0 14 18 (.pointer (some ⟨p,1,none⟩)) (Pl.q3 13 17 false) (Pl.q5 33 (.tmp 1) 1 (Zev p)) hS0 ?_
  refine Pl.q0 15 19 (.bool false) (Pl.q3 13 17 false) (Pl.q4 4 (.tmp 18) (fun w' hS=>Ze5 p 1 _ w' (by rw [← hd];exact (hx.keep hS).c1))) hS0 ?_
  refine Pl.q0 16 20 (.bool false) (Pl.q3 13 17 false) (Pl.q2 (.tmp 19)) hS0 ?_
  refine Pl.q6 17 21 (Pl.q7 16 20 true) hS0 ?_
  refine Pl.q6 18 22 (Pl.q7 16 20 true) hS0 ?_
  refine Pl.q6 19 23 (Pl.q7 16 20 true) hS0 ?_
  refine Pl.q6 20 24 (Pl.q7 16 20 true) hS0 ?_
  refine Pl.q0 21 25 (.bool false) (Pl.q3 13 17 false) (Pl.qj (.tmp 20) (.tmp 24) (.const (.bool false))) hS0 ?_
  refine Pl.q0 22 26 (.bool false) (Pl.q1) (Pl.qj (.tmp 17) (.const (.bool true)) (.tmp 25)) hS0 ?_
  refine Pl.q8 (fun A' hA'=>?_)
  rw [Pl.At.ext hA' (((((((((((((((((((((((hA.put 4 _).put 5 _).put 7 _).put 8 _).put 6 _).put 9 _).put 10 _).put 11 _).put 12 _).put 13 _).put 14 _).put 15 _).put 16 _).put 17 _).put 18 _).put 19 _).put 20 _).put 21 _).put 22 _).put 23 _).put 24 _).put 25 _).put 26 _)]
  exact hend hA'.fn _ hS0
theorem ZoF (w0 w : World) (p : Nat) (r : Rw) (a : Option Addr) (len cap : Nat) (hx : RwBlk w0 p r (.slice a len cap)) (hlt : r.key < 18446744073709551616) (hne : ((r.key : Int) != ((Fl.key r.key : Nat) : Int)) = false) (h4 : ¬ (4 : Int) < (len : Int)) (hD : ¬ (r.dead = true ∧ 0 < len)) (hW : Below w0.heap.size w0 w)
    {Q : Exit → Act → World → Prop} {A : Act} (hsz : A.tmps.size = 91) (hdf : A.defers = []) (s1 : A.tmps.getD 1 undef = .pointer (some ⟨p, 0, none⟩))
    (hend : ∀ (u : Nat → Value) w', Below w0.heap.size w0 w' → Q .normal ((((((((((((((((((((((((A).put (some 4) (u 4)).put (some 5) (u 5)).put (some 7) (u 7)).put (some 8) (u 8)).put (some 6) (u 6)).put (some 9) (u 9)).put (some 10) (u 10)).put (some 11) (u 11)).put (some 12) (u 12)).put (some 13) (u 13)).put (some 14) (u 14)).put (some 15) (u 15)).put (some 16) (u 16)).put (some 17) (u 17)).put (some 18) (u 18)).put (some 19) (u 19)).put (some 20) (u 20)).put (some 21) (u 21)).put (some 22) (u 22)).put (some 23) (u 23)).put (some 24) (u 24)).put (some 25) (u 25)).put (some 26) (.bool false)) w') :
    (Code.region 1 (Pl.find 1 ((Tryz.f29.body).getD .skip)) true).wp Tryz.prog Q A w := by
  cases hd : r.dead
  · exact ZoE w0 w p r a len cap hx hlt hne h4 hd hW hsz hdf s1 hend
  · exact ZoH w0 w p r a len cap hx hlt hne h4 hd (fun h => hD ⟨hd, by omega⟩) hW hsz hdf s1 hend
theorem may6 (w0 w:World)(p:Nat)(r:Rw)(b off len cap k x:Nat)(m:Bool)(hx:RwBlk w0 p r (.slice (some ⟨b,off,none⟩) len cap))(hc:w0.cell? ⟨b,off+k,none⟩=some (.float .f64 x))(hlt:x<18446744073709551616)(hne:((x:Int) != ((Fl.val x:Nat):Int))=m)(hk:k<len)(hW:Below w0.heap.size w0 w)
    {Q:Exit→Act→World→Prop}(hsz:A.tmps.size=91)(hdf:A.defers=[])(s1:A.tmps.getD 1 undef=.pointer (some ⟨p,0,none⟩))(s3:A.tmps.getD 3 undef=.int .i64 (k:Nat))
    (hend:∀(u:Nat→Value) w',Below w0.heap.size w0 w'→Q .normal ((((((((((((((A).put (some 34) (u 34)).put (some 35) (u 35)).put (some 36) (u 36)).put (some 37) (u 37)).put (some 38) (u 38)).put (some 40) (u 40)).put (some 41) (u 41)).put (some 42) (u 42)).put (some 43) (u 43)).put (some 44) (u 44)).put (some 39) (u 39)).put (some 45) (u 45)).put (some 46) (.bool m)) w') :
    (Code.region 6 (Pl.find 6 ((Tryz.f29.body).getD .skip)) true).wp Tryz.prog Q A w:=by
  have hS0:Below w0.heap.size w0 w.drew:=hW.drew
  have hA:=Pl.At.same (v:=.int .i64 (k:Nat)) (d:=3) (Pl.At.same (v:=.pointer (some ⟨p,0,none⟩)) (d:=1) (Pl.At.here hsz hdf) s1) s3
  refine Pl.qa (S:=fun w'=>Below w0.heap.size w0 w') hA hS0 ?_
  rw [show (Pl.find 6 ((Tryz.f29.body).getD .skip)).size=13 by kernel_rfl]
  refine Pl.q0 0 34 (.pointer (some ⟨p,2,none⟩)) (Pl.q1) (Pl.q5 33 (.tmp 1) 2 (ZaH p)) hS0 ?_
  refine Pl.q0 1 35 (.slice (some ⟨b,off,none⟩) len cap) (Pl.q1) (Pl.q4 29 (.tmp 34) (fun w' hS=>Zbj p 2 _ _ _ w' (hx.keep hS).c2)) hS0 ?_
  refine Pl.q0 2 36 (.int .i64 (k:Nat)) (Pl.q1) (Pl.q2 (.tmp 3)) hS0 ?_
  refine Pl.q0 3 37 (.pointer (some ⟨b,off+k,none⟩)) (Pl.q1) (Pl.qd 29 (.tmp 35) (.tmp 36) (Zdh b off len cap k hk)) hS0 ?_
  refine Pl.q0 4 38 (.float .f64 x) (Pl.q1) (Pl.q4 23 (.tmp 37) (fun w' hS=>ZaB b (off+k) x w' ((hS.cell (World.block_lt_of_cell? w0 _ hc)).trans hc))) hS0 ?_
  refine Pl.q0 6 40 (.pointer (some ⟨p,2,none⟩)) (Pl.q1) (Pl.q5 33 (.tmp 1) 2 (ZaH p)) hS0 ?_
  refine Pl.q0 7 41 (.slice (some ⟨b,off,none⟩) len cap) (Pl.q1) (Pl.q4 29 (.tmp 40) (fun w' hS=>Zbj p 2 _ _ _ w' (hx.keep hS).c2)) hS0 ?_
  refine Pl.q0 8 42 (.int .i64 (k:Nat)) (Pl.q1) (Pl.q2 (.tmp 3)) hS0 ?_
  refine Pl.q0 9 43 (.pointer (some ⟨b,off+k,none⟩)) (Pl.q1) (Pl.qd 29 (.tmp 41) (.tmp 42) (Zdh b off len cap k hk)) hS0 ?_
  refine Pl.q0 10 44 (.float .f64 x) (Pl.q1) (Pl.q4 23 (.tmp 43) (fun w' hS=>ZaB b (off+k) x w' ((hS.cell (World.block_lt_of_cell? w0 _ hc)).trans hc))) hS0 ?_
  refine Pl.qs 5 39 (.int .u64 (x:Int)) (Pl.q1) (Pl.q_38 64 (.tmp 38) #[23] (ZaE _ _)) hS0 ?_
  refine Pl.qc 11 45 66 [(.tmp 44)] #[23] (Pl.q1) Zl5 (Calls.mono (Zby x hlt w.drew) ?_)
  rintro e w' ⟨rfl,hw⟩
  obtain rfl:=hw.symm
  refine⟨.int .u64 ((Fl.val x:Nat):Int),rfl,hS0,?_⟩
  refine Pl.q0 12 46 (.bool m) (Pl.q1) (Pl.qb .neq 100 100 (.tmp 39) (.tmp 45) (.int .u64 (x:Int)) (.int .u64 ((Fl.val x:Nat):Int)) (fun w=>by simp [go_sem,eqGuard,hne])) hS0 ?_
  refine Pl.q8 (fun A' hA'=>?_)
  rw [Pl.At.ext hA' (((((((((((((hA.put 34 _).put 35 _).put 36 _).put 37 _).put 38 _).put 40 _).put 41 _).put 42 _).put 43 _).put 44 _).put 39 _).put 45 _).put 46 _)]
  exact hend hA'.fn _ hS0
theorem Zdu (r:Rw)(a:Option Addr)(len cap:Nat)(w:World)(h:Fs w a len cap r.xs)(hf:r.fits) :
    Calls Tryz.prog 29 #[r.val (.slice a len cap)] w fun e w'=>e=.returned (.bool r.may)∧Below w.heap.size w w':=by
  have HX:=hide (Zai w r (.slice a len cap))
  have HW:Hid (∀o,Below w.heap.size w (w.alloc o)):=Zaa w
  have H:=hide h
  have HL:=hide h.len
  have HF:=hide hf
  have hbig:=h.big
  have HM:=hide (ZkA r)
  clear h hf
  cases hK:(r.key == Fl.key r.key)
  · have e:r.may=false:=by rw [HM.out,hK];rfl
    rw [e]
    clear e HM
    unfold Rw.val
    go_enter Tryz.func29,Tryz.ntmps29
    go_wp2_with fail
    refine Pl.q9 (ops:=Pl.find 1 ((Tryz.f29.body).getD .skip)) ?_
    refine ZoC _ _ w.heap.size r a len cap HX.out HF.out.key (by rw [ZbF];simpa [bne] using hK) (Below.refl _ _) (by rfl) (by rfl) (by rfl) ?_
    intro u w' hb
    simp only [Act.put,List.setIfInBounds_toArray,List.set_cons_zero,List.set_cons_succ]
    go_wp2_with fail
    go_ret
    exact⟨rfl,Zac (HW.out _) hb⟩
  by_cases h4:4<len
  · have e:r.may=false:=by
     have e1:decide (r.xs.length≤4)=false:=decide_eq_false (by rw [HL.out];omega)
     rw [HM.out]
     unfold haveB
     rw [e1]
     simp
    rw [e]
    clear e HM
    unfold Rw.val
    go_enter Tryz.func29,Tryz.ntmps29
    go_wp2_with fail
    refine Pl.q9 (ops:=Pl.find 1 ((Tryz.f29.body).getD .skip)) ?_
    refine ZoD _ _ w.heap.size r a len cap HX.out HF.out.key (by rw [ZbF];simpa [bne] using hK) (by omega) (Below.refl _ _) (by rfl) (by rfl) (by rfl) ?_
    intro u w' hb
    simp only [Act.put,List.setIfInBounds_toArray,List.set_cons_zero,List.set_cons_succ]
    go_wp2_with fail
    go_ret
    exact⟨rfl,Zac (HW.out _) hb⟩
  by_cases hD:r.dead=true∧0<len
  · have e:r.may=false:=by
     have e1:(!(r.dead && decide (0<r.xs.length)))=false:=by rw [HL.out,hD.1,decide_eq_true hD.2];rfl
     rw [HM.out]
     unfold haveB
     rw [e1]
     simp
    rw [e]
    clear e HM
    have HD:=hide hD
    clear hD
    unfold Rw.val
    go_enter Tryz.func29,Tryz.ntmps29
    go_wp2_with fail
    refine Pl.q9 (ops:=Pl.find 1 ((Tryz.f29.body).getD .skip)) ?_
    refine ZoG _ _ w.heap.size r a len cap HX.out HF.out.key (by rw [ZbF];simpa [bne] using hK) (by omega) HD.out.1 (by have:=HD.out.2;omega) (Below.refl _ _) (by rfl) (by rfl) (by rfl) ?_
    intro u w' hb
    simp only [Act.put,List.setIfInBounds_toArray,List.set_cons_zero,List.set_cons_succ]
    go_wp2_with fail
    go_ret
    exact⟨rfl,Zac (HW.out _) hb⟩
  have HH:Hid (haveB r.dead r.xs=r.xs.all (fun x=>x == Fl.val x)):=by
   have e1:decide (r.xs.length≤4)=true:=decide_eq_true (by rw [HL.out];omega)
   have e2:(!(r.dead && decide (0<r.xs.length)))=true:=by
    rw [HL.out]
    cases hd:r.dead
    · rfl
    · have:¬0<len:=fun h=>hD ⟨hd,h⟩
      simp [this]
   show _=_
   unfold haveB
   rw [e1,e2]
   simp
  have HMM:Hid (r.may=(r.xs.all (fun x=>x == Fl.val x) && (decide (0≤r.wr) && decide (r.wr<2147483648) && decide (0≤r.cell) && decide (r.cell<65536) && decide (0≤r.no) && decide (r.no<2147483648) && (decide (0<r.cell) || r.no == 0)))):=by
   show _=_
   rw [HM.out,hK,HH.out]
   simp
  have HD:=hide hD
  have H4:=hide h4
  have HK:=hide hK
  clear HM HH hD hK
  unfold Rw.val
  go_enter Tryz.func29,Tryz.ntmps29
  go_wp2_with fail
  refine Pl.q9 (ops:=Pl.find 1 ((Tryz.f29.body).getD .skip)) ?_
  refine ZoF _ _ w.heap.size r a len cap HX.out HF.out.key (by rw [ZbF];simpa [bne] using HK.out) (by have:=H4.out;omega) HD.out (Below.refl _ _) (by rfl) (by rfl) (by rfl) ?_
  intro u w1 hb1
  simp only [Act.put,List.setIfInBounds_toArray,List.set_cons_zero,List.set_cons_succ]
  have HW1:=hide (Zac (HW.out _) hb1)
  have HX1:=hide (HX.out.keep hb1)
  clear hb1 HX
  go_wp2_with fail
  go_loopw [3] (fun i wr=>∃k:Nat,k≤len∧i=.int .i64 k∧Hid (∀j,j<k→(r.xs.getD j 0 == Fl.val (r.xs.getD j 0))=true)∧Hid (Below w.heap.size w wr)∧Hid (RwBlk wr w.heap.size r (.slice a len cap))) (fun i _=>len-(intOf i).toNat)
  case atStart=>exact ⟨0,by omega,rfl,fun j hj=>by omega,HW1,HX1⟩
  case round =>
   obtain⟨k,hk,rfl,hall,hWr,hXr⟩:=hrel
   have hc2:=hXr.out.c2
   rcases Nat.lt_or_ge k len with hlt | hge
   · obtain⟨b,off,rfl,hc,hmem,hx⟩:=(H.out.keep hWr.out (Nat.le_refl _)).at k hlt
     obtain⟨x,hxe⟩:∃x,x=r.xs.getD k 0:=⟨_,rfl⟩
     rw [← hxe] at hc hmem hx
     have HXE:=hide hxe
     have HMEM:=hide hmem
     have HC:=hide hc
     have HXL:=hide hx
     clear hmem hxe hc hx
     cases hm:(x == Fl.val x)
     · have HN:Hid (r.may=false):=by
        have:r.xs.all (fun x=>x == Fl.val x)=false:=List.all_eq_false.2 ⟨x,HMEM.out,by rw [hm];decide⟩
        show _=_
        rw [HMM.out,this]
        rfl
       have HMv:=hide hm
       clear hm
       go_wp2_with fail
       refine Pl.q9 (ops:=Pl.find 6 ((Tryz.f29.body).getD .skip)) ?_
       refine may6 _ _ w.heap.size r b off len cap k x true hXr.out HC.out HXL.out (by rw [ZbF];simpa [bne] using HMv.out) hlt (Below.refl _ _) (by rfl) (by rfl) (by rfl) (by rfl) ?_
       intro u w2 hb2
       simp only [Act.put,List.setIfInBounds_toArray,List.set_cons_zero,List.set_cons_succ]
       have HW2:=hide (Zac hWr.out hb2)
       clear hb2 hc2
       go_wp2_with fail
       go_ret
       exact⟨by rw [HN.out];rfl,HW2.out⟩
     · have HMv:=hide hm
       clear hm
       go_wp2_with fail
       refine Pl.q9 (ops:=Pl.find 6 ((Tryz.f29.body).getD .skip)) ?_
       refine may6 _ _ w.heap.size r b off len cap k x false hXr.out HC.out HXL.out (by rw [ZbF];simpa [bne] using HMv.out) hlt (Below.refl _ _) (by rfl) (by rfl) (by rfl) (by rfl) ?_
       intro u w2 hb2
       simp only [Act.put,List.setIfInBounds_toArray,List.set_cons_zero,List.set_cons_succ]
       have HW2:=hide (Zac hWr.out hb2)
       have HX2:=hide (hXr.out.keep hb2)
       clear hb2 hc2
       go_wp2_with fail
       go_roundw
       case rel =>
        refine⟨k+1,by omega,by go_num,?_,HW2,HX2⟩
        intro j hj
        by_cases e:j=k
        · rw [e,← HXE.out]
          exact HMv.out
        · exact hall.out j (by omega)
       case measure=>simp only [intOf];omega
   · have hA:r.xs.all (fun x=>x == Fl.val x)=true:=by
      rw [List.all_eq_true]
      intro x hx
      obtain⟨j,hj,rfl⟩:=List.getElem_of_mem hx
      have:=hall.out j (by rw [HL.out] at hj;omega)
      simpa [List.getD,hj] using this
     have hc3:=hXr.out.c3
     have hc4:=hXr.out.c4
     have hc5:=hXr.out.c5
     rw [hA] at HMM
     simp only [Bool.true_and] at HMM
     clear hA
     generalize r.wr=wn at *
     generalize r.cell=cn at *
     generalize r.no=nn at *
     go_wp2_with fail
     all_goals (go_ret;refine ⟨?_,hWr.out⟩;rw [HMM.out];simp [*] <;> (intros;omega))
end Go.Proofs.YtdojdcncncgncaaGreat
