/-
  Lemmas.
-/
import Derived.Test.YtdojdcncncgncaaGreatKtac
namespace Go.Proofs.YtdojdcncncgncaaGreat
open Go.RowKit
set_option linter.unusedVariables false
set_option maxRecDepth 100000
set_option maxHeartbeats 4000000
variable {A:Act}{w:World}{b:Nat}{x:It}
theorem Zcv (b : Nat) (w : World) : (Instr.fieldAt 158 (.pointer (some ⟨b, 0, none⟩)) 0).run Tryz.prog w = .ok (.pointer (some ⟨b, 0, none⟩)) w := by simp [go_sem]
theorem ZaV (b : Nat) (w : World) : (Instr.fieldAt 158 (.pointer (some ⟨b, 0, none⟩)) 1).run Tryz.prog w = .ok (.pointer (some ⟨b, 1, none⟩)) w := by simp [go_sem]
theorem ZkE (b : Nat) (w : World) : (Instr.fieldAt 158 (.pointer (some ⟨b, 0, none⟩)) 2).run Tryz.prog w = .ok (.pointer (some ⟨b, 2, none⟩)) w := by simp [go_sem]
theorem Ze9 (b : Nat) (w : World) : (Instr.fieldAt 158 (.pointer (some ⟨b, 0, none⟩)) 3).run Tryz.prog w = .ok (.pointer (some ⟨b, 3, none⟩)) w := by simp [go_sem]
theorem Zaq (b o : Nat) (n : Int) (w : World) (h : w.cell? ⟨b, o, none⟩ = some (.int .i64 n)) : (Instr.loadAt 3 (.pointer (some ⟨b, o, none⟩))).run Tryz.prog w = .ok (.int .i64 n) w := by
  simp [go_sem, h]
theorem ZcO (b o : Nat) (x : Nat) (w : World) (h : w.cell? ⟨b, o, none⟩ = some (.float .f64 x)) : (Instr.loadAt 23 (.pointer (some ⟨b, o, none⟩))).run Tryz.prog w = .ok (.float .f64 x) w := by
  simp [go_sem, h]
theorem Zg0 (b o : Nat) (s : ByteArray) (w : World) (h : w.cell? ⟨b, o, none⟩ = some (.string s)) : (Instr.loadAt 9 (.pointer (some ⟨b, o, none⟩))).run Tryz.prog w = .ok (.string s) w := by
  simp [go_sem, h]
theorem ItAt.p0 {w : World} {b : Nat} {x : It} (h : ItAt w b 0 x) : w.cell? ⟨b, 0, none⟩ = some (.int .i64 x.kind) := h.1
theorem ItAt.p1 {w : World} {b : Nat} {x : It} (h : ItAt w b 0 x) : w.cell? ⟨b, 1, none⟩ = some (.int .i64 x.n) := h.2.1
theorem ItAt.p2 {w : World} {b : Nat} {x : It} (h : ItAt w b 0 x) : w.cell? ⟨b, 2, none⟩ = some (.float .f64 x.x) := h.2.2.1
theorem ItAt.p3 {w : World} {b : Nat} {x : It} (h : ItAt w b 0 x) : w.cell? ⟨b, 3, none⟩ = some (.string x.s) := h.2.2.2
theorem ZkA : ∀ args w, (callFunc 126 args).run Tryz.prog w = .ok (.enter 126 args) w := Pl.enters Tryz.func126 (by kernel_rfl) (by kernel_rfl)
theorem Zdr : ∀ args w, (callFunc 183 args).run Tryz.prog w = .ok (.enter 183 args) w := Pl.enters Tryz.func183 (by kernel_rfl) (by kernel_rfl)
theorem ZcL (w : World) (x : It) (t : TypeId) : ItAt (w.alloc (.cells #[.int .i64 x.kind, .int .i64 x.n, .float .f64 x.x, .string x.s] t)) w.heap.size 0 x := by
  refine ⟨?_, ?_, ?_, ?_⟩ <;> simp [go_sem]
def maxN (k : Int) : Int := if k = 1 then 255 else if k = 2 then 65535 else 2147483647
def cntN (k : Int) : Nat := if k = 1 then 1 else if k = 2 then 2 else 4
theorem Zbn (k : Int) (w : World) : Calls Tryz.prog 183 #[.int .i64 k] w fun e w' => e = .returned (.int .i64 (maxN k)) ∧ w' = w := by
 by_cases h1 : k = 1
 · subst h1
   go_enter Tryz.func183, Tryz.ntmps183
   go_wp2_with fail
   go_ret
   exact ⟨rfl, rfl⟩
 by_cases h2 : k = 2
 · subst h2
   go_enter Tryz.func183, Tryz.ntmps183
   go_wp2_with fail
   go_ret
   exact ⟨rfl, rfl⟩
 have e1 : (k == 1) = false := beq_eq_false_iff_ne.2 h1
 have e2 : (k == 2) = false := beq_eq_false_iff_ne.2 h2
 go_enter Tryz.func183, Tryz.ntmps183
 go_wp2_with fail
 go_ret
 exact ⟨by simp [maxN, h1, h2], rfl⟩
theorem Zdo (k : Int) (w : World) : Calls Tryz.prog 174 #[.int .i64 k] w fun e w' => e = .returned (.int .i64 (cntN k : Nat)) ∧ w' = w := by
 by_cases h1 : k = 1
 · subst h1
   go_enter Tryz.func174, Tryz.ntmps174
   go_wp2_with fail
   go_ret
   exact ⟨rfl, rfl⟩
 by_cases h2 : k = 2
 · subst h2
   go_enter Tryz.func174, Tryz.ntmps174
   go_wp2_with fail
   go_ret
   exact ⟨rfl, rfl⟩
 have e1 : (k == 1) = false := beq_eq_false_iff_ne.2 h1
 have e2 : (k == 2) = false := beq_eq_false_iff_ne.2 h2
 go_enter Tryz.func174, Tryz.ntmps174
 go_wp2_with fail
 go_ret
 exact ⟨by simp [cntN, h1, h2], rfl⟩
theorem may1 (w0 w:World)(b:Nat)(x:It)(hx:ItAt w0 b 0 x)(hW:Below w0.heap.size w0 w)
    {Q:Exit→Act→World→Prop}(hsz:A.tmps.size=56)(hdf:A.defers=[])(s1:A.tmps.getD 1 undef=.pointer (some ⟨b,0,none⟩))
    (hend:∀(u:Nat→Value) w',Below w0.heap.size w0 w'→Q .normal (((((((((A).put (some 5) (u 5)).put (some 6) (u 6)).put (some 8) (u 8)).put (some 9) (u 9)).put (some 10) (u 10)).put (some 7) (u 7)).put (some 3) (.bool (x.x == 0))).put (some 4) (.bool (x.s.toList == (⟨#[]⟩:ByteArray).toList))) w') :
    (Code.region 1 (Pl.find 1 ((Tryz.f172.body).getD .skip)) true).wp Tryz.prog Q A w:=by
  have hS0:Below w0.heap.size w0 w.drew:=hW.drew
  have hA:=Pl.At.same (v:=.pointer (some ⟨b,0,none⟩)) (d:=1) (Pl.At.here hsz hdf) s1
  refine Pl.qa (S:=fun w'=>Below w0.heap.size w0 w') hA hS0 ?_
  rw [show (Pl.find 1 ((Tryz.f172.body).getD .skip)).size=8 by kernel_rfl]
  refine Pl.q0 0 5 (.pointer (some ⟨b,2,none⟩)) (Pl.q1) (Pl.q5 158 (.tmp 1) 2 (ZkE b)) hS0 ?_
  refine Pl.q0 1 6 (.float .f64 x.x) (Pl.q1) (Pl.q3 23 (.tmp 5) (fun w' hS=>ZcO b 2 _ w' (Zal hx hS).p2)) hS0 ?_
  refine Pl.q0 3 8 (.pointer (some ⟨b,3,none⟩)) (Pl.q1) (Pl.q5 158 (.tmp 1) 3 (Ze9 b)) hS0 ?_
  refine Pl.q0 4 9 (.string x.s) (Pl.q1) (Pl.q3 9 (.tmp 8) (fun w' hS=>Zg0 b 3 _ w' (Zal hx hS).p3)) hS0 ?_
  refine Pl.q0 5 10 (.bool (x.s.toList == (⟨#[]⟩:ByteArray).toList)) (Pl.q1) (Pl.eqlStrs 5 9 9 (.tmp 9) (.const (.string ⟨#[]⟩)) x.s ⟨#[]⟩ (by kernel_rfl) (by decide) (by decide) rfl rfl) hS0 ?_
  refine Pl.qd 2 7 126 [(.tmp 6),(.const (Value.float FloatKind.f64 0))] #[23,23] (Pl.q1) ZkA (Calls.mono (Ze1 x.x 0 w.drew) ?_)
  rintro e w' ⟨rfl,hw⟩
  obtain rfl:=hw.symm
  refine⟨.bool (x.x == 0),rfl,hS0,?_⟩
  refine Pl.q0 6 3 (.bool (x.x == 0)) (Pl.q1) (Pl.qf (.tmp 7)) hS0 ?_
  refine Pl.q0 7 4 (.bool (x.s.toList == (⟨#[]⟩:ByteArray).toList)) (Pl.q1) (Pl.qf (.tmp 10)) hS0 ?_
  refine Pl.q7 (fun A' hA'=>?_)
  rw [Pl.At.ext hA' ((((((((hA.put 5 _).put 6 _).put 8 _).put 9 _).put 10 _).put 7 _).put 3 _).put 4 _)]
  exact hend hA'.fn _ hS0
theorem Zpx (w0 w:World)(b:Nat)(x:It)(hx:ItAt w0 b 0 x)(hW:Below w0.heap.size w0 w)(h1:¬0≤x.n)
    {Q:Exit→Act→World→Prop}(hsz:A.tmps.size=56)(hdf:A.defers=[])(s1:A.tmps.getD 1 undef=.pointer (some ⟨b,0,none⟩))
    (hend:∀(u:Nat→Value) w',Below w0.heap.size w0 w'→Q .normal (((((((((((((((((((A).put (some 17) (u 17)).put (some 18) (u 18)).put (some 19) (u 19)).put (some 20) (u 20)).put (some 21) (u 21)).put (some 22) (u 22)).put (some 23) (u 23)).put (some 24) (u 24)).put (some 25) (u 25)).put (some 26) (u 26)).put (some 27) (u 27)).put (some 28) (u 28)).put (some 29) (u 29)).put (some 30) (u 30)).put (some 31) (u 31)).put (some 32) (u 32)).put (some 33) (u 33)).put (some 2) (.bool false)) w') :
    (Code.region 6 (Pl.find 6 ((Tryz.f172.body).getD .skip)) true).wp Tryz.prog Q A w:=by
  have hS0:Below w0.heap.size w0 w.drew:=hW.drew
  have hA:=Pl.At.same (v:=.pointer (some ⟨b,0,none⟩)) (d:=1) (Pl.At.here hsz hdf) s1
  refine Pl.qa (S:=fun w'=>Below w0.heap.size w0 w') hA hS0 ?_
  rw [show (Pl.find 6 ((Tryz.f172.body).getD .skip)).size=18 by kernel_rfl]
  refine Pl.q0 0 17 (.pointer (some ⟨b,1,none⟩)) (Pl.q1) (Pl.q5 158 (.tmp 1) 1 (ZaV b)) hS0 ?_
  refine Pl.q0 1 18 (.int .i64 x.n) (Pl.q1) (Pl.q3 3 (.tmp 17) (fun w' hS=>Zaq b 1 _ w' (Zal hx hS).p1)) hS0 ?_
  refine Pl.q0 2 19 (.bool false) (Pl.q1) (Pl.qe .geq 3 3 (.tmp 18) (.const (.int .i64 0)) (.int .i64 x.n) (.int .i64 0) (fun w=>by simp [go_sem,eqGuard,h1])) hS0 ?_
  refine Pl.q0 3 20 (.bool false) (Pl.q1) (Pl.q2 (.tmp 19)) hS0 ?_
  refine Pl.q6 4 21 (Pl.q8 3 20 true) hS0 ?_
  refine Pl.q6 5 22 (Pl.q8 3 20 true) hS0 ?_
  refine Pl.q6 6 23 (Pl.q8 3 20 true) hS0 ?_
  refine Pl.q6 7 24 (Pl.q8 3 20 true) hS0 ?_
  refine Pl.q6 8 25 (Pl.q8 3 20 true) hS0 ?_
  refine Pl.q6 9 26 (Pl.q8 3 20 true) hS0 ?_
  refine Pl.q0 10 27 (.bool false) (Pl.q1) (Pl.ql (.tmp 20) (.tmp 26) (.const (.bool false))) hS0 ?_
  refine Pl.q0 11 28 (.bool false) (Pl.q1) (Pl.q2 (.tmp 27)) hS0 ?_
  refine Pl.q6 12 29 (Pl.q8 11 28 true) hS0 ?_
  refine Pl.q0 13 30 (.bool false) (Pl.q1) (Pl.ql (.tmp 28) (.tmp 29) (.const (.bool false))) hS0 ?_
  refine Pl.q0 14 31 (.bool false) (Pl.q1) (Pl.q2 (.tmp 30)) hS0 ?_
  refine Pl.q6 15 32 (Pl.q8 14 31 true) hS0 ?_
  refine Pl.q0 16 33 (.bool false) (Pl.q1) (Pl.ql (.tmp 31) (.tmp 32) (.const (.bool false))) hS0 ?_
  refine Pl.q0 17 2 (.bool false) (Pl.q1) (Pl.qf (.tmp 33)) hS0 ?_
  refine Pl.q7 (fun A' hA'=>?_)
  rw [Pl.At.ext hA' ((((((((((((((((((hA.put 17 _).put 18 _).put 19 _).put 20 _).put 21 _).put 22 _).put 23 _).put 24 _).put 25 _).put 26 _).put 27 _).put 28 _).put 29 _).put 30 _).put 31 _).put 32 _).put 33 _).put 2 _)]
  exact hend hA'.fn _ hS0
theorem Zpy (w0 w:World)(b:Nat)(x:It)(hx:ItAt w0 b 0 x)(hW:Below w0.heap.size w0 w)(h1:0≤x.n)(h2:¬x.n≤maxN x.kind)
    {Q:Exit→Act→World→Prop}(hsz:A.tmps.size=56)(hdf:A.defers=[])(s1:A.tmps.getD 1 undef=.pointer (some ⟨b,0,none⟩))
    (hend:∀(u:Nat→Value) w',Below w0.heap.size w0 w'→Q .normal (((((((((((((((((((A).put (some 17) (u 17)).put (some 18) (u 18)).put (some 19) (u 19)).put (some 20) (u 20)).put (some 21) (u 21)).put (some 22) (u 22)).put (some 23) (u 23)).put (some 24) (u 24)).put (some 25) (u 25)).put (some 26) (u 26)).put (some 27) (u 27)).put (some 28) (u 28)).put (some 29) (u 29)).put (some 30) (u 30)).put (some 31) (u 31)).put (some 32) (u 32)).put (some 33) (u 33)).put (some 2) (.bool false)) w') :
    (Code.region 6 (Pl.find 6 ((Tryz.f172.body).getD .skip)) true).wp Tryz.prog Q A w:=by
  have hS0:Below w0.heap.size w0 w.drew:=hW.drew
  have hA:=Pl.At.same (v:=.pointer (some ⟨b,0,none⟩)) (d:=1) (Pl.At.here hsz hdf) s1
  refine Pl.qa (S:=fun w'=>Below w0.heap.size w0 w') hA hS0 ?_
  rw [show (Pl.find 6 ((Tryz.f172.body).getD .skip)).size=18 by kernel_rfl]
  refine Pl.q0 0 17 (.pointer (some ⟨b,1,none⟩)) (Pl.q1) (Pl.q5 158 (.tmp 1) 1 (ZaV b)) hS0 ?_
  refine Pl.q0 1 18 (.int .i64 x.n) (Pl.q1) (Pl.q3 3 (.tmp 17) (fun w' hS=>Zaq b 1 _ w' (Zal hx hS).p1)) hS0 ?_
  refine Pl.q0 2 19 (.bool true) (Pl.q1) (Pl.qe .geq 3 3 (.tmp 18) (.const (.int .i64 0)) (.int .i64 x.n) (.int .i64 0) (fun w=>by simp [go_sem,eqGuard,h1])) hS0 ?_
  refine Pl.q0 3 20 (.bool true) (Pl.q1) (Pl.q2 (.tmp 19)) hS0 ?_
  refine Pl.q0 4 21 (.pointer (some ⟨b,1,none⟩)) (Pl.q4 3 20 true) (Pl.q5 158 (.tmp 1) 1 (ZaV b)) hS0 ?_
  refine Pl.q0 5 22 (.int .i64 x.n) (Pl.q4 3 20 true) (Pl.q3 3 (.tmp 21) (fun w' hS=>Zaq b 1 _ w' (Zal hx hS).p1)) hS0 ?_
  refine Pl.q0 6 23 (.pointer (some ⟨b,0,none⟩)) (Pl.q4 3 20 true) (Pl.q5 158 (.tmp 1) 0 (Zcv b)) hS0 ?_
  refine Pl.q0 7 24 (.int .i64 x.kind) (Pl.q4 3 20 true) (Pl.q3 3 (.tmp 23) (fun w' hS=>Zaq b 0 _ w' (Zal hx hS).p0)) hS0 ?_
  refine Pl.qd 8 25 183 [(.tmp 24)] #[3] (Pl.q4 3 20 true) Zdr (Calls.mono (Zbn x.kind w.drew) ?_)
  rintro e w' ⟨rfl,hw⟩
  obtain rfl:=hw.symm
  refine⟨.int .i64 (maxN x.kind),rfl,hS0,?_⟩
  refine Pl.q0 9 26 (.bool false) (Pl.q4 3 20 true) (Pl.qe .leq 3 3 (.tmp 22) (.tmp 25) (.int .i64 x.n) (.int .i64 (maxN x.kind)) (fun w=>by simp [go_sem,eqGuard,h2])) hS0 ?_
  refine Pl.q0 10 27 (.bool false) (Pl.q1) (Pl.qn (.tmp 20) (.tmp 26) (.const (.bool false))) hS0 ?_
  refine Pl.q0 11 28 (.bool false) (Pl.q1) (Pl.q2 (.tmp 27)) hS0 ?_
  refine Pl.q6 12 29 (Pl.q8 11 28 true) hS0 ?_
  refine Pl.q0 13 30 (.bool false) (Pl.q1) (Pl.ql (.tmp 28) (.tmp 29) (.const (.bool false))) hS0 ?_
  refine Pl.q0 14 31 (.bool false) (Pl.q1) (Pl.q2 (.tmp 30)) hS0 ?_
  refine Pl.q6 15 32 (Pl.q8 14 31 true) hS0 ?_
  refine Pl.q0 16 33 (.bool false) (Pl.q1) (Pl.ql (.tmp 31) (.tmp 32) (.const (.bool false))) hS0 ?_
  refine Pl.q0 17 2 (.bool false) (Pl.q1) (Pl.qf (.tmp 33)) hS0 ?_
  refine Pl.q7 (fun A' hA'=>?_)
  rw [Pl.At.ext hA' ((((((((((((((((((hA.put 17 _).put 18 _).put 19 _).put 20 _).put 21 _).put 22 _).put 23 _).put 24 _).put 25 _).put 26 _).put 27 _).put 28 _).put 29 _).put 30 _).put 31 _).put 32 _).put 33 _).put 2 _)]
  exact hend hA'.fn _ hS0
theorem Zpz (w0 w:World)(b:Nat)(x:It)(hx:ItAt w0 b 0 x)(hW:Below w0.heap.size w0 w)(h1:0≤x.n)(h2:x.n≤maxN x.kind)
    {Q:Exit→Act→World→Prop}(hsz:A.tmps.size=56)(hdf:A.defers=[])(s1:A.tmps.getD 1 undef=.pointer (some ⟨b,0,none⟩))(s3:A.tmps.getD 3 undef=.bool false)
    (hend:∀(u:Nat→Value) w',Below w0.heap.size w0 w'→Q .normal (((((((((((((((((((A).put (some 17) (u 17)).put (some 18) (u 18)).put (some 19) (u 19)).put (some 20) (u 20)).put (some 21) (u 21)).put (some 22) (u 22)).put (some 23) (u 23)).put (some 24) (u 24)).put (some 25) (u 25)).put (some 26) (u 26)).put (some 27) (u 27)).put (some 28) (u 28)).put (some 29) (u 29)).put (some 30) (u 30)).put (some 31) (u 31)).put (some 32) (u 32)).put (some 33) (u 33)).put (some 2) (.bool false)) w') :
    (Code.region 6 (Pl.find 6 ((Tryz.f172.body).getD .skip)) true).wp Tryz.prog Q A w:=by
  have hS0:Below w0.heap.size w0 w.drew:=hW.drew
  have hA:=Pl.At.same (v:=.bool false) (d:=3) (Pl.At.same (v:=.pointer (some ⟨b,0,none⟩)) (d:=1) (Pl.At.here hsz hdf) s1) s3
  refine Pl.qa (S:=fun w'=>Below w0.heap.size w0 w') hA hS0 ?_
  rw [show (Pl.find 6 ((Tryz.f172.body).getD .skip)).size=18 by kernel_rfl]
  refine Pl.q0 0 17 (.pointer (some ⟨b,1,none⟩)) (Pl.q1) (Pl.q5 158 (.tmp 1) 1 (ZaV b)) hS0 ?_
  refine Pl.q0 1 18 (.int .i64 x.n) (Pl.q1) (Pl.q3 3 (.tmp 17) (fun w' hS=>Zaq b 1 _ w' (Zal hx hS).p1)) hS0 ?_
  refine Pl.q0 2 19 (.bool true) (Pl.q1) (Pl.qe .geq 3 3 (.tmp 18) (.const (.int .i64 0)) (.int .i64 x.n) (.int .i64 0) (fun w=>by simp [go_sem,eqGuard,h1])) hS0 ?_
  refine Pl.q0 3 20 (.bool true) (Pl.q1) (Pl.q2 (.tmp 19)) hS0 ?_
  refine Pl.q0 4 21 (.pointer (some ⟨b,1,none⟩)) (Pl.q4 3 20 true) (Pl.q5 158 (.tmp 1) 1 (ZaV b)) hS0 ?_
  refine Pl.q0 5 22 (.int .i64 x.n) (Pl.q4 3 20 true) (Pl.q3 3 (.tmp 21) (fun w' hS=>Zaq b 1 _ w' (Zal hx hS).p1)) hS0 ?_
  refine Pl.q0 6 23 (.pointer (some ⟨b,0,none⟩)) (Pl.q4 3 20 true) (Pl.q5 158 (.tmp 1) 0 (Zcv b)) hS0 ?_
  refine Pl.q0 7 24 (.int .i64 x.kind) (Pl.q4 3 20 true) (Pl.q3 3 (.tmp 23) (fun w' hS=>Zaq b 0 _ w' (Zal hx hS).p0)) hS0 ?_
  refine Pl.qd 8 25 183 [(.tmp 24)] #[3] (Pl.q4 3 20 true) Zdr (Calls.mono (Zbn x.kind w.drew) ?_)
  rintro e w' ⟨rfl,hw⟩
  obtain rfl:=hw.symm
  refine⟨.int .i64 (maxN x.kind),rfl,hS0,?_⟩
  refine Pl.q0 9 26 (.bool true) (Pl.q4 3 20 true) (Pl.qe .leq 3 3 (.tmp 22) (.tmp 25) (.int .i64 x.n) (.int .i64 (maxN x.kind)) (fun w=>by simp [go_sem,eqGuard,h2])) hS0 ?_
  refine Pl.q0 10 27 (.bool true) (Pl.q1) (Pl.qn (.tmp 20) (.tmp 26) (.const (.bool false))) hS0 ?_
  refine Pl.q0 11 28 (.bool true) (Pl.q1) (Pl.q2 (.tmp 27)) hS0 ?_
  refine Pl.q0 12 29 (.bool false) (Pl.q4 11 28 true) (Pl.q2 (.tmp 3)) hS0 ?_
  refine Pl.q0 13 30 (.bool false) (Pl.q1) (Pl.qn (.tmp 28) (.tmp 29) (.const (.bool false))) hS0 ?_
  refine Pl.q0 14 31 (.bool false) (Pl.q1) (Pl.q2 (.tmp 30)) hS0 ?_
  refine Pl.q6 15 32 (Pl.q8 14 31 true) hS0 ?_
  refine Pl.q0 16 33 (.bool false) (Pl.q1) (Pl.ql (.tmp 31) (.tmp 32) (.const (.bool false))) hS0 ?_
  refine Pl.q0 17 2 (.bool false) (Pl.q1) (Pl.qf (.tmp 33)) hS0 ?_
  refine Pl.q7 (fun A' hA'=>?_)
  rw [Pl.At.ext hA' ((((((((((((((((((hA.put 17 _).put 18 _).put 19 _).put 20 _).put 21 _).put 22 _).put 23 _).put 24 _).put 25 _).put 26 _).put 27 _).put 28 _).put 29 _).put 30 _).put 31 _).put 32 _).put 33 _).put 2 _)]
  exact hend hA'.fn _ hS0
theorem Zp0 (w0 w:World)(b:Nat)(x:It)(hx:ItAt w0 b 0 x)(hW:Below w0.heap.size w0 w)(h1:0≤x.n)(h2:x.n≤maxN x.kind)
    {Q:Exit→Act→World→Prop}(hsz:A.tmps.size=56)(hdf:A.defers=[])(s1:A.tmps.getD 1 undef=.pointer (some ⟨b,0,none⟩))(s3:A.tmps.getD 3 undef=.bool true)(s4:A.tmps.getD 4 undef=.bool false)
    (hend:∀(u:Nat→Value) w',Below w0.heap.size w0 w'→Q .normal (((((((((((((((((((A).put (some 17) (u 17)).put (some 18) (u 18)).put (some 19) (u 19)).put (some 20) (u 20)).put (some 21) (u 21)).put (some 22) (u 22)).put (some 23) (u 23)).put (some 24) (u 24)).put (some 25) (u 25)).put (some 26) (u 26)).put (some 27) (u 27)).put (some 28) (u 28)).put (some 29) (u 29)).put (some 30) (u 30)).put (some 31) (u 31)).put (some 32) (u 32)).put (some 33) (u 33)).put (some 2) (.bool false)) w') :
    (Code.region 6 (Pl.find 6 ((Tryz.f172.body).getD .skip)) true).wp Tryz.prog Q A w:=by
  have hS0:Below w0.heap.size w0 w.drew:=hW.drew
  have hA:=Pl.At.same (v:=.bool false) (d:=4) (Pl.At.same (v:=.bool true) (d:=3) (Pl.At.same (v:=.pointer (some ⟨b,0,none⟩)) (d:=1) (Pl.At.here hsz hdf) s1) s3) s4
  refine Pl.qa (S:=fun w'=>Below w0.heap.size w0 w') hA hS0 ?_
  rw [show (Pl.find 6 ((Tryz.f172.body).getD .skip)).size=18 by kernel_rfl]
  refine Pl.q0 0 17 (.pointer (some ⟨b,1,none⟩)) (Pl.q1) (Pl.q5 158 (.tmp 1) 1 (ZaV b)) hS0 ?_
  refine Pl.q0 1 18 (.int .i64 x.n) (Pl.q1) (Pl.q3 3 (.tmp 17) (fun w' hS=>Zaq b 1 _ w' (Zal hx hS).p1)) hS0 ?_
  refine Pl.q0 2 19 (.bool true) (Pl.q1) (Pl.qe .geq 3 3 (.tmp 18) (.const (.int .i64 0)) (.int .i64 x.n) (.int .i64 0) (fun w=>by simp [go_sem,eqGuard,h1])) hS0 ?_
  refine Pl.q0 3 20 (.bool true) (Pl.q1) (Pl.q2 (.tmp 19)) hS0 ?_
  refine Pl.q0 4 21 (.pointer (some ⟨b,1,none⟩)) (Pl.q4 3 20 true) (Pl.q5 158 (.tmp 1) 1 (ZaV b)) hS0 ?_
  refine Pl.q0 5 22 (.int .i64 x.n) (Pl.q4 3 20 true) (Pl.q3 3 (.tmp 21) (fun w' hS=>Zaq b 1 _ w' (Zal hx hS).p1)) hS0 ?_
  refine Pl.q0 6 23 (.pointer (some ⟨b,0,none⟩)) (Pl.q4 3 20 true) (Pl.q5 158 (.tmp 1) 0 (Zcv b)) hS0 ?_
  refine Pl.q0 7 24 (.int .i64 x.kind) (Pl.q4 3 20 true) (Pl.q3 3 (.tmp 23) (fun w' hS=>Zaq b 0 _ w' (Zal hx hS).p0)) hS0 ?_
  refine Pl.qd 8 25 183 [(.tmp 24)] #[3] (Pl.q4 3 20 true) Zdr (Calls.mono (Zbn x.kind w.drew) ?_)
  rintro e w' ⟨rfl,hw⟩
  obtain rfl:=hw.symm
  refine⟨.int .i64 (maxN x.kind),rfl,hS0,?_⟩
  refine Pl.q0 9 26 (.bool true) (Pl.q4 3 20 true) (Pl.qe .leq 3 3 (.tmp 22) (.tmp 25) (.int .i64 x.n) (.int .i64 (maxN x.kind)) (fun w=>by simp [go_sem,eqGuard,h2])) hS0 ?_
  refine Pl.q0 10 27 (.bool true) (Pl.q1) (Pl.qn (.tmp 20) (.tmp 26) (.const (.bool false))) hS0 ?_
  refine Pl.q0 11 28 (.bool true) (Pl.q1) (Pl.q2 (.tmp 27)) hS0 ?_
  refine Pl.q0 12 29 (.bool true) (Pl.q4 11 28 true) (Pl.q2 (.tmp 3)) hS0 ?_
  refine Pl.q0 13 30 (.bool true) (Pl.q1) (Pl.qn (.tmp 28) (.tmp 29) (.const (.bool false))) hS0 ?_
  refine Pl.q0 14 31 (.bool true) (Pl.q1) (Pl.q2 (.tmp 30)) hS0 ?_
  refine Pl.q0 15 32 (.bool false) (Pl.q4 14 31 true) (Pl.q2 (.tmp 4)) hS0 ?_
  refine Pl.q0 16 33 (.bool false) (Pl.q1) (Pl.qn (.tmp 31) (.tmp 32) (.const (.bool false))) hS0 ?_
  refine Pl.q0 17 2 (.bool false) (Pl.q1) (Pl.qf (.tmp 33)) hS0 ?_
  refine Pl.q7 (fun A' hA'=>?_)
  rw [Pl.At.ext hA' ((((((((((((((((((hA.put 17 _).put 18 _).put 19 _).put 20 _).put 21 _).put 22 _).put 23 _).put 24 _).put 25 _).put 26 _).put 27 _).put 28 _).put 29 _).put 30 _).put 31 _).put 32 _).put 33 _).put 2 _)]
  exact hend hA'.fn _ hS0
theorem Zp1 (w0 w:World)(b:Nat)(x:It)(hx:ItAt w0 b 0 x)(hW:Below w0.heap.size w0 w)(h1:0≤x.n)(h2:x.n≤maxN x.kind)
    {Q:Exit→Act→World→Prop}(hsz:A.tmps.size=56)(hdf:A.defers=[])(s1:A.tmps.getD 1 undef=.pointer (some ⟨b,0,none⟩))(s3:A.tmps.getD 3 undef=.bool true)(s4:A.tmps.getD 4 undef=.bool true)
    (hend:∀(u:Nat→Value) w',Below w0.heap.size w0 w'→Q .normal (((((((((((((((((((A).put (some 17) (u 17)).put (some 18) (u 18)).put (some 19) (u 19)).put (some 20) (u 20)).put (some 21) (u 21)).put (some 22) (u 22)).put (some 23) (u 23)).put (some 24) (u 24)).put (some 25) (u 25)).put (some 26) (u 26)).put (some 27) (u 27)).put (some 28) (u 28)).put (some 29) (u 29)).put (some 30) (u 30)).put (some 31) (u 31)).put (some 32) (u 32)).put (some 33) (u 33)).put (some 2) (.bool true)) w') :
    (Code.region 6 (Pl.find 6 ((Tryz.f172.body).getD .skip)) true).wp Tryz.prog Q A w:=by
  have hS0:Below w0.heap.size w0 w.drew:=hW.drew
  have hA:=Pl.At.same (v:=.bool true) (d:=4) (Pl.At.same (v:=.bool true) (d:=3) (Pl.At.same (v:=.pointer (some ⟨b,0,none⟩)) (d:=1) (Pl.At.here hsz hdf) s1) s3) s4
  refine Pl.qa (S:=fun w'=>Below w0.heap.size w0 w') hA hS0 ?_
  rw [show (Pl.find 6 ((Tryz.f172.body).getD .skip)).size=18 by kernel_rfl]
  refine Pl.q0 0 17 (.pointer (some ⟨b,1,none⟩)) (Pl.q1) (Pl.q5 158 (.tmp 1) 1 (ZaV b)) hS0 ?_
  refine Pl.q0 1 18 (.int .i64 x.n) (Pl.q1) (Pl.q3 3 (.tmp 17) (fun w' hS=>Zaq b 1 _ w' (Zal hx hS).p1)) hS0 ?_
  refine Pl.q0 2 19 (.bool true) (Pl.q1) (Pl.qe .geq 3 3 (.tmp 18) (.const (.int .i64 0)) (.int .i64 x.n) (.int .i64 0) (fun w=>by simp [go_sem,eqGuard,h1])) hS0 ?_
  refine Pl.q0 3 20 (.bool true) (Pl.q1) (Pl.q2 (.tmp 19)) hS0 ?_
  refine Pl.q0 4 21 (.pointer (some ⟨b,1,none⟩)) (Pl.q4 3 20 true) (Pl.q5 158 (.tmp 1) 1 (ZaV b)) hS0 ?_
  refine Pl.q0 5 22 (.int .i64 x.n) (Pl.q4 3 20 true) (Pl.q3 3 (.tmp 21) (fun w' hS=>Zaq b 1 _ w' (Zal hx hS).p1)) hS0 ?_
  refine Pl.q0 6 23 (.pointer (some ⟨b,0,none⟩)) (Pl.q4 3 20 true) (Pl.q5 158 (.tmp 1) 0 (Zcv b)) hS0 ?_
  refine Pl.q0 7 24 (.int .i64 x.kind) (Pl.q4 3 20 true) (Pl.q3 3 (.tmp 23) (fun w' hS=>Zaq b 0 _ w' (Zal hx hS).p0)) hS0 ?_
  refine Pl.qd 8 25 183 [(.tmp 24)] #[3] (Pl.q4 3 20 true) Zdr (Calls.mono (Zbn x.kind w.drew) ?_)
  rintro e w' ⟨rfl,hw⟩
  obtain rfl:=hw.symm
  refine⟨.int .i64 (maxN x.kind),rfl,hS0,?_⟩
  refine Pl.q0 9 26 (.bool true) (Pl.q4 3 20 true) (Pl.qe .leq 3 3 (.tmp 22) (.tmp 25) (.int .i64 x.n) (.int .i64 (maxN x.kind)) (fun w=>by simp [go_sem,eqGuard,h2])) hS0 ?_
  refine Pl.q0 10 27 (.bool true) (Pl.q1) (Pl.qn (.tmp 20) (.tmp 26) (.const (.bool false))) hS0 ?_
  refine Pl.q0 11 28 (.bool true) (Pl.q1) (Pl.q2 (.tmp 27)) hS0 ?_
  refine Pl.q0 12 29 (.bool true) (Pl.q4 11 28 true) (Pl.q2 (.tmp 3)) hS0 ?_
  refine Pl.q0 13 30 (.bool true) (Pl.q1) (Pl.qn (.tmp 28) (.tmp 29) (.const (.bool false))) hS0 ?_
  refine Pl.q0 14 31 (.bool true) (Pl.q1) (Pl.q2 (.tmp 30)) hS0 ?_
  refine Pl.q0 15 32 (.bool true) (Pl.q4 14 31 true) (Pl.q2 (.tmp 4)) hS0 ?_
  refine Pl.q0 16 33 (.bool true) (Pl.q1) (Pl.qn (.tmp 31) (.tmp 32) (.const (.bool false))) hS0 ?_
  refine Pl.q0 17 2 (.bool true) (Pl.q1) (Pl.qf (.tmp 33)) hS0 ?_
  refine Pl.q7 (fun A' hA'=>?_)
  rw [Pl.At.ext hA' ((((((((((((((((((hA.put 17 _).put 18 _).put 19 _).put 20 _).put 21 _).put 22 _).put 23 _).put 24 _).put 25 _).put 26 _).put 27 _).put 28 _).put 29 _).put 30 _).put 31 _).put 32 _).put 33 _).put 2 _)]
  exact hend hA'.fn _ hS0
theorem Zlo {k : Int} (hk : k = 1 ∨ k = 2 ∨ k = 3) (n : Int) (x : Nat) (s : ByteArray) : It.may ⟨k, n, x, s⟩ = (decide (0 ≤ n) && decide (n ≤ maxN k) && x == 0 && s.toList == []) := by
 have e1 : decide (n < 256) = decide (n ≤ 255) := by rw [Bool.eq_iff_iff]; simp; omega
 have e2 : decide (n < 65536) = decide (n ≤ 65535) := by rw [Bool.eq_iff_iff]; simp; omega
 have e3 : decide (n < 2147483648) = decide (n ≤ 2147483647) := by rw [Bool.eq_iff_iff]; simp; omega
 rcases hk with rfl | rfl | rfl <;> simp [It.may, maxN, e1, e2, e3]
theorem Zjx : (⟨#[]⟩ : ByteArray).toList = [] := by rw [ByteArray.toList_eq]
theorem Zlp (i : It) (w : World) : Calls Tryz.prog 172 #[i.val] w fun e w' => e = .returned (.bool i.may) ∧ Below w.heap.size w w' := by
 obtain ⟨k, n, x, s⟩ := i
 have HI : Hid (∀ t, ItAt (w.alloc (.cells #[.int .i64 k, .int .i64 n, .float .f64 x, .string s] t)) w.heap.size 0 ⟨k, n, x, s⟩) := ZcL w ⟨k, n, x, s⟩
 have HW : Hid (∀ o, Below w.heap.size w (w.alloc o)) := Zaa w
 unfold It.val
 simp only
 go_enter Tryz.func172, Tryz.ntmps172
 go_wp2_with fail
 refine Pl.q9 (ops := Pl.find 1 ((Tryz.f172.body).getD .skip)) ?_
 refine may1 (w.alloc _) _ w.heap.size ⟨k, n, x, s⟩ (HI.out _) (Below.refl _ _) (by rfl) (by rfl) (by rfl) ?_
 intro u w' hb
 rw [Zjx]
 simp only [Act.put, List.setIfInBounds_toArray, List.set_cons_zero, List.set_cons_succ]
 have C := hide (Zal (HI.out _) hb)
 have HB := hide ((HW.out _).trans (hb.mono (HW.out _).size))
 clear hb
 have c0 : w'.cell? ⟨w.heap.size, 0, none⟩ = some (.int .i64 k) := C.out.p0
 have c1 : w'.cell? ⟨w.heap.size, 1, none⟩ = some (.int .i64 n) := C.out.p1
 have c3 : w'.cell? ⟨w.heap.size, 3, none⟩ = some (.string s) := C.out.p3
 by_cases hk : k = 1 ∨ k = 2 ∨ k = 3
 · have HM := hide (Zlo hk n x s)
   by_cases h1 : ¬ 0 ≤ n
   · have H1 := hide (Int.not_le.1 h1)
     clear h1
     rcases hk with rfl | rfl | rfl <;>
     (go_wp2_with fail
      refine Pl.q9 (ops := Pl.find 6 ((Tryz.f172.body).getD .skip)) ?_
      refine Zpx _ w' w.heap.size ⟨_, n, x, s⟩ C.out (Below.refl _ _) (Int.not_le.2 H1.out) (by rfl) (by rfl) (by rfl) ?_
      intro u w2 hb
      simp only [Act.put, List.setIfInBounds_toArray, List.set_cons_zero, List.set_cons_succ]
      go_wp2_with fail
      go_ret
      refine ⟨?_, HB.out.trans (hb.mono HB.out.size)⟩
      rw [HM.out]
      simp [Int.not_le.2 H1.out])
   replace h1 : 0 ≤ n := Decidable.not_not.1 h1
   by_cases h2 : ¬ n ≤ maxN k
   · have H1 := hide h1
     have H2 := hide (Int.not_le.1 h2)
     clear h1 h2
     rcases hk with rfl | rfl | rfl <;>
     (go_wp2_with fail
      refine Pl.q9 (ops := Pl.find 6 ((Tryz.f172.body).getD .skip)) ?_
      refine Zpy _ w' w.heap.size ⟨_, n, x, s⟩ C.out (Below.refl _ _) H1.out (Int.not_le.2 H2.out) (by rfl) (by rfl) (by rfl) ?_
      intro u w2 hb
      simp only [Act.put, List.setIfInBounds_toArray, List.set_cons_zero, List.set_cons_succ]
      go_wp2_with fail
      go_ret
      refine ⟨?_, HB.out.trans (hb.mono HB.out.size)⟩
      rw [HM.out]
      simp [Int.not_le.2 H2.out])
   replace h2 : n ≤ maxN k := Decidable.not_not.1 h2
   have H1 := hide h1
   have H2 := hide h2
   clear h1 h2
   cases e3 : (x == 0)
   · rw [e3] at HM
     clear e3
     rcases hk with rfl | rfl | rfl <;>
     (go_wp2_with fail
      refine Pl.q9 (ops := Pl.find 6 ((Tryz.f172.body).getD .skip)) ?_
      refine Zpz _ w' w.heap.size ⟨_, n, x, s⟩ C.out (Below.refl _ _) H1.out H2.out (by rfl) (by rfl) (by rfl) (by rfl) ?_
      intro u w2 hb
      simp only [Act.put, List.setIfInBounds_toArray, List.set_cons_zero, List.set_cons_succ]
      go_wp2_with fail
      go_ret
      refine ⟨?_, HB.out.trans (hb.mono HB.out.size)⟩
      rw [HM.out]
      simp)
   cases e4 : (s.toList == [])
   · rw [e4] at HM
     clear e3 e4
     rcases hk with rfl | rfl | rfl <;>
     (go_wp2_with fail
      refine Pl.q9 (ops := Pl.find 6 ((Tryz.f172.body).getD .skip)) ?_
      refine Zp0 _ w' w.heap.size ⟨_, n, x, s⟩ C.out (Below.refl _ _) H1.out H2.out (by rfl) (by rfl) (by rfl) (by rfl) (by rfl) ?_
      intro u w2 hb
      simp only [Act.put, List.setIfInBounds_toArray, List.set_cons_zero, List.set_cons_succ]
      go_wp2_with fail
      go_ret
      refine ⟨?_, HB.out.trans (hb.mono HB.out.size)⟩
      rw [HM.out]
      simp)
   · rw [e3, e4] at HM
     clear e3 e4
     rcases hk with rfl | rfl | rfl <;>
     (go_wp2_with fail
      refine Pl.q9 (ops := Pl.find 6 ((Tryz.f172.body).getD .skip)) ?_
      refine Zp1 _ w' w.heap.size ⟨_, n, x, s⟩ C.out (Below.refl _ _) H1.out H2.out (by rfl) (by rfl) (by rfl) (by rfl) (by rfl) ?_
      intro u w2 hb
      simp only [Act.put, List.setIfInBounds_toArray, List.set_cons_zero, List.set_cons_succ]
      go_wp2_with fail
      go_ret
      refine ⟨?_, HB.out.trans (hb.mono HB.out.size)⟩
      rw [HM.out]
      simp [H1.out, H2.out])
 have h1 : ¬ k = 1 := fun h => hk (.inl h)
 have h2 : ¬ k = 2 := fun h => hk (.inr (.inl h))
 have h3 : ¬ k = 3 := fun h => hk (.inr (.inr h))
 have e1 : (k == 1) = false := beq_eq_false_iff_ne.2 h1
 have e2 : (k == 2) = false := beq_eq_false_iff_ne.2 h2
 have e3 : (k == 3) = false := beq_eq_false_iff_ne.2 h3
 by_cases h4 : k = 4
 · subst h4
   go_wp2_with fail
   all_goals (go_ret; refine ⟨?_, HB.out⟩; simp [It.may, *])
 by_cases h5 : k = 5
 · subst h5
   have hd : decide ((s.size : Int) ≤ 255) = decide (s.size < 256) := by rw [Bool.eq_iff_iff]; simp; omega
   have HD := hide hd
   clear hd
   go_wp2_with fail
   all_goals (go_ret; refine ⟨?_, HB.out⟩; simp [It.may, *] <;> omega)
 have e4 : (k == 4) = false := beq_eq_false_iff_ne.2 h4
 have e5 : (k == 5) = false := beq_eq_false_iff_ne.2 h5
 go_wp2_with fail
 all_goals (go_ret; refine ⟨?_, HB.out⟩; simp [It.may, *])
def chk : Bool → Int
  | true => 0
  | false => 1
theorem Zkz (i : It) (w : World) : Calls Tryz.prog 153 #[i.val] w fun e w' => e = .returned (.int .i64 (chk i.may)) ∧ Below w.heap.size w w' := by
 have H : Hid (∀ w, Calls Tryz.prog 172 #[i.val] w fun e w' => e = .returned (.bool i.may) ∧ Below w.heap.size w w') := Zlp i
 have HW : Hid (∀ o, Below w.heap.size w (w.alloc o)) := Zaa w
 obtain ⟨m, hm⟩ : ∃ m, m = i.may := ⟨_, rfl⟩
 rw [← hm] at H
 have HM := hide hm
 clear hm
 unfold It.val at *
 go_enter Tryz.func153, Tryz.ntmps153
 go_wp2_with fail
 refine (H.out _).mono ?_
 rintro e w' ⟨rfl, hb⟩
 have HB := hide ((HW.out _).trans (hb.mono (HW.out _).size))
 clear hb
 cases m
 · go_wp2_with fail
   go_ret
   exact ⟨by rw [← HM.out]; rfl, HB.out⟩
 · go_wp2_with fail
   go_ret
   exact ⟨by rw [← HM.out]; rfl, HB.out⟩
end Go.Proofs.YtdojdcncncgncaaGreat
