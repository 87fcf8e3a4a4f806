/-
  What pack's own Check and Same hand back, call by call.
-/
import Derived.Test.YtdbgbldmjgonjaaPackC
namespace Go.Proofs.Ytdbgbldmjgonjaa
open Go.RowKit

theorem field_it0 (b : Nat) (w : World) : (Instr.fieldAt 67 (.pointer (some ⟨b, 0, none⟩)) 0).run Try.prog w = .ok (.pointer (some ⟨b, 0, none⟩)) w := by simp [go_sem]
theorem field_it1 (b : Nat) (w : World) : (Instr.fieldAt 67 (.pointer (some ⟨b, 0, none⟩)) 1).run Try.prog w = .ok (.pointer (some ⟨b, 1, none⟩)) w := by simp [go_sem]
theorem field_it2 (b : Nat) (w : World) : (Instr.fieldAt 67 (.pointer (some ⟨b, 0, none⟩)) 2).run Try.prog w = .ok (.pointer (some ⟨b, 2, none⟩)) w := by simp [go_sem]
theorem field_it3 (b : Nat) (w : World) : (Instr.fieldAt 67 (.pointer (some ⟨b, 0, none⟩)) 3).run Try.prog w = .ok (.pointer (some ⟨b, 3, none⟩)) w := by simp [go_sem]

theorem load_int (b o : Nat) (n : Int) (w : World) (h : w.cell? ⟨b, o, none⟩ = some (.int .i64 n)) : (Instr.loadAt 3 (.pointer (some ⟨b, o, none⟩))).run Try.prog w = .ok (.int .i64 n) w := by
  simp [go_sem, h]
theorem load_float (b o : Nat) (x : Nat) (w : World) (h : w.cell? ⟨b, o, none⟩ = some (.float .f64 x)) : (Instr.loadAt 65 (.pointer (some ⟨b, o, none⟩))).run Try.prog w = .ok (.float .f64 x) w := by
  simp [go_sem, h]
theorem load_str (b o : Nat) (s : ByteArray) (w : World) (h : w.cell? ⟨b, o, none⟩ = some (.string s)) : (Instr.loadAt 9 (.pointer (some ⟨b, o, none⟩))).run Try.prog w = .ok (.string s) w := by
  simp [go_sem, h]

theorem ItAt.p0 {w : World} {b : Nat} {x : It} (h : ItAt w b 0 x) : w.cell? ⟨b, 0, none⟩ = some (.int .i64 x.kind) := h.1
theorem ItAt.p1 {w : World} {b : Nat} {x : It} (h : ItAt w b 0 x) : w.cell? ⟨b, 1, none⟩ = some (.int .i64 x.n) := h.2.1
theorem ItAt.p2 {w : World} {b : Nat} {x : It} (h : ItAt w b 0 x) : w.cell? ⟨b, 2, none⟩ = some (.float .f64 x.x) := h.2.2.1
theorem ItAt.p3 {w : World} {b : Nat} {x : It} (h : ItAt w b 0 x) : w.cell? ⟨b, 3, none⟩ = some (.string x.s) := h.2.2.2

theorem enters86 : ∀ args w, (callFunc 86 args).run Try.prog w = .ok (.enter 86 args) w := Pl.enters Try.func86 (by kernel_rfl) (by kernel_rfl)
theorem enters87 : ∀ args w, (callFunc 87 args).run Try.prog w = .ok (.enter 87 args) w := Pl.enters Try.func87 (by kernel_rfl) (by kernel_rfl)

/-- An item laid anew. -/
theorem itAt_new (w : World) (x : It) (t : TypeId) : ItAt (w.alloc (.cells #[.int .i64 x.kind, .int .i64 x.n, .float .f64 x.x, .string x.s] t)) w.heap.size 0 x := by
  refine ⟨?_, ?_, ?_, ?_⟩ <;> simp [go_sem]

/-- The greatest number of a kind, and how many bytes it takes. -/
def maxN (k : Int) : Int := if k = 1 then 255 else if k = 2 then 65535 else 2147483647
def cntN (k : Int) : Nat := if k = 1 then 1 else if k = 2 then 2 else 4

set_option maxHeartbeats 1000000 in
theorem maxCount_any (k : Int) (w : World) : Calls Try.prog 87 #[.int .i64 k] w fun e w' => e = .returned (.int .i64 (maxN k)) ∧ w' = w := by
  by_cases h1 : k = 1
  · subst h1
    go_enter Try.func87, Try.ntmps87
    go_wp2_with fail
    go_ret
    exact ⟨rfl, rfl⟩
  by_cases h2 : k = 2
  · subst h2
    go_enter Try.func87, Try.ntmps87
    go_wp2_with fail
    go_ret
    exact ⟨rfl, rfl⟩
  have e1 : (k == 1) = false := beq_eq_false_iff_ne.2 h1
  have e2 : (k == 2) = false := beq_eq_false_iff_ne.2 h2
  go_enter Try.func87, Try.ntmps87
  go_wp2_with fail
  go_ret
  exact ⟨by simp [maxN, h1, h2], rfl⟩

set_option maxHeartbeats 1000000 in
theorem countSize_any (k : Int) (w : World) : Calls Try.prog 75 #[.int .i64 k] w fun e w' => e = .returned (.int .i64 (cntN k : Nat)) ∧ w' = w := by
  by_cases h1 : k = 1
  · subst h1
    go_enter Try.func75, Try.ntmps75
    go_wp2_with fail
    go_ret
    exact ⟨rfl, rfl⟩
  by_cases h2 : k = 2
  · subst h2
    go_enter Try.func75, Try.ntmps75
    go_wp2_with fail
    go_ret
    exact ⟨rfl, rfl⟩
  have e1 : (k == 1) = false := beq_eq_false_iff_ne.2 h1
  have e2 : (k == 2) = false := beq_eq_false_iff_ne.2 h2
  go_enter Try.func75, Try.ntmps75
  go_wp2_with fail
  go_ret
  exact ⟨by simp [cntN, h1, h2], rfl⟩


set_option maxHeartbeats 2000000 in
set_option maxRecDepth 100000 in
theorem may1 (w0 w : World) (b : Nat) (x : It) (hx : ItAt w0 b 0 x) (hW : Below w0.heap.size w0 w)
    {Q : Exit → Act → World → Prop} {A : Act} (hsz : A.tmps.size = 56) (hdf : A.defers = []) (s1 : A.tmps.getD 1 undef = .pointer (some ⟨b, 0, none⟩))
    (hend : ∀ (u : Nat → Value) w', Below w0.heap.size w0 w' → Q .normal (((((((((A).put (some 5) (u 5)).put (some 6) (u 6)).put (some 8) (u 8)).put (some 9) (u 9)).put (some 10) (u 10)).put (some 7) (u 7)).put (some 3) (.bool (x.x == 0))).put (some 4) (.bool (x.s.toList == (⟨#[]⟩ : ByteArray).toList))) w') :
    (Code.region 1 (Pl.find 1 ((Try.f71.body).getD .skip)) true).wp Try.prog Q A w := by
  have hS0 : Below w0.heap.size w0 w.drew := hW.drew
  have hA := Pl.At.same (v := .pointer (some ⟨b, 0, none⟩)) (d := 1) (Pl.At.here hsz hdf) s1
  refine Pl.H.start (S := fun w' => Below w0.heap.size w0 w') (by kernel_rfl) hA hS0 ?_
  rw [show (Pl.find 1 ((Try.f71.body).getD .skip)).size = 8 by kernel_rfl]
  refine Pl.H.take 0 5 (.pointer (some ⟨b, 2, none⟩)) (by kernel_rfl) (by kernel_rfl) (by kernel_rfl) (Pl.free 0 (by kernel_rfl)) (Pl.field 0 67 (.tmp 1) 2 _ (by kernel_rfl) (by decide) (field_it2 b)) hS0 ?_
  refine Pl.H.take 1 6 (.float .f64 x.x) (by kernel_rfl) (by kernel_rfl) (by kernel_rfl) (Pl.free 1 (by kernel_rfl)) (Pl.load 1 65 (.tmp 5) _ (by kernel_rfl) (by decide) (fun w' hS => load_float b 2 _ w' (keep_item hx hS).p2)) hS0 ?_
  refine Pl.H.take 3 8 (.pointer (some ⟨b, 3, none⟩)) (by kernel_rfl) (by kernel_rfl) (by kernel_rfl) (Pl.free 3 (by kernel_rfl)) (Pl.field 3 67 (.tmp 1) 3 _ (by kernel_rfl) (by decide) (field_it3 b)) hS0 ?_
  refine Pl.H.take 4 9 (.string x.s) (by kernel_rfl) (by kernel_rfl) (by kernel_rfl) (Pl.free 4 (by kernel_rfl)) (Pl.load 4 9 (.tmp 8) _ (by kernel_rfl) (by decide) (fun w' hS => load_str b 3 _ w' (keep_item hx hS).p3)) hS0 ?_
  refine Pl.H.take 5 10 (.bool (x.s.toList == (⟨#[]⟩ : ByteArray).toList)) (by kernel_rfl) (by kernel_rfl) (by kernel_rfl) (Pl.free 5 (by kernel_rfl)) (Pl.eqlStrs 5 9 9 (.tmp 9) (.const (.string ⟨#[]⟩)) x.s ⟨#[]⟩ (by kernel_rfl) (by decide) (by decide) rfl rfl) hS0 ?_
  refine Pl.H.call 2 7 86 [(.tmp 6), (.const (Value.float FloatKind.f64 0))] #[65, 65] (by kernel_rfl) (by kernel_rfl) (by kernel_rfl) (Pl.free 2 (by kernel_rfl)) (by kernel_rfl) (by decide) enters86 (Calls.mono (same_any x.x 0 w.drew) ?_)
  rintro e w' ⟨rfl, hw⟩
  obtain rfl := hw.symm
  refine ⟨.bool (x.x == 0), rfl, hS0, ?_⟩
  refine Pl.H.take 6 3 (.bool (x.x == 0)) (by kernel_rfl) (by kernel_rfl) (by kernel_rfl) (Pl.free 6 (by kernel_rfl)) (Pl.assign 6 (.tmp 7) (by kernel_rfl) (by decide)) hS0 ?_
  refine Pl.H.take 7 4 (.bool (x.s.toList == (⟨#[]⟩ : ByteArray).toList)) (by kernel_rfl) (by kernel_rfl) (by kernel_rfl) (Pl.free 7 (by kernel_rfl)) (Pl.assign 7 (.tmp 10) (by kernel_rfl) (by decide)) hS0 ?_
  refine Pl.H.done (by kernel_rfl) (fun A' hA' => ?_)
  rw [Pl.At.ext hA' ((((((((hA.put 5 _).put 6 _).put 8 _).put 9 _).put 10 _).put 7 _).put 3 _).put 4 _)]
  exact hend (fun d => if d = 5 then .pointer (some ⟨b, 2, none⟩) else if d = 6 then .float .f64 x.x else if d = 8 then .pointer (some ⟨b, 3, none⟩) else if d = 9 then .string x.s else if d = 10 then .bool (x.s.toList == (⟨#[]⟩ : ByteArray).toList) else if d = 7 then .bool (x.x == 0) else undef) _ hS0

set_option maxHeartbeats 2000000 in
set_option maxRecDepth 100000 in
theorem may6a (w0 w : World) (b : Nat) (x : It) (hx : ItAt w0 b 0 x) (hW : Below w0.heap.size w0 w) (h1 : ¬ 0 ≤ x.n)
    {Q : Exit → Act → World → Prop} {A : Act} (hsz : A.tmps.size = 56) (hdf : A.defers = []) (s1 : A.tmps.getD 1 undef = .pointer (some ⟨b, 0, none⟩))
    (hend : ∀ (u : Nat → Value) w', Below w0.heap.size w0 w' → Q .normal (((((((((((((((((((A).put (some 17) (u 17)).put (some 18) (u 18)).put (some 19) (u 19)).put (some 20) (u 20)).put (some 21) (u 21)).put (some 22) (u 22)).put (some 23) (u 23)).put (some 24) (u 24)).put (some 25) (u 25)).put (some 26) (u 26)).put (some 27) (u 27)).put (some 28) (u 28)).put (some 29) (u 29)).put (some 30) (u 30)).put (some 31) (u 31)).put (some 32) (u 32)).put (some 33) (u 33)).put (some 2) (.bool false)) w') :
    (Code.region 6 (Pl.find 6 ((Try.f71.body).getD .skip)) true).wp Try.prog Q A w := by
  have hS0 : Below w0.heap.size w0 w.drew := hW.drew
  have hA := Pl.At.same (v := .pointer (some ⟨b, 0, none⟩)) (d := 1) (Pl.At.here hsz hdf) s1
  refine Pl.H.start (S := fun w' => Below w0.heap.size w0 w') (by kernel_rfl) hA hS0 ?_
  rw [show (Pl.find 6 ((Try.f71.body).getD .skip)).size = 18 by kernel_rfl]
  refine Pl.H.take 0 17 (.pointer (some ⟨b, 1, none⟩)) (by kernel_rfl) (by kernel_rfl) (by kernel_rfl) (Pl.free 0 (by kernel_rfl)) (Pl.field 0 67 (.tmp 1) 1 _ (by kernel_rfl) (by decide) (field_it1 b)) hS0 ?_
  refine Pl.H.take 1 18 (.int .i64 x.n) (by kernel_rfl) (by kernel_rfl) (by kernel_rfl) (Pl.free 1 (by kernel_rfl)) (Pl.load 1 3 (.tmp 17) _ (by kernel_rfl) (by decide) (fun w' hS => load_int b 1 _ w' (keep_item hx hS).p1)) hS0 ?_
  refine Pl.H.take 2 19 (.bool false) (by kernel_rfl) (by kernel_rfl) (by kernel_rfl) (Pl.free 2 (by kernel_rfl)) (Pl.binV 2 .geq 3 3 (.tmp 18) (.const (.int .i64 0)) (.int .i64 x.n) (.int .i64 0) _ (by kernel_rfl) (by decide) (by decide) rfl rfl (fun w => by simp [go_sem, eqGuard, h1])) hS0 ?_
  refine Pl.H.take 3 20 (.bool false) (by kernel_rfl) (by kernel_rfl) (by kernel_rfl) (Pl.free 3 (by kernel_rfl)) (Pl.move 3 (.tmp 19) (by kernel_rfl) (by decide)) hS0 ?_
  refine Pl.H.skip 4 21 (by kernel_rfl) (by kernel_rfl) (by kernel_rfl) (Pl.unwanted 4 3 20 true (by kernel_rfl) (by kernel_rfl) (by decide) rfl) hS0 ?_
  refine Pl.H.skip 5 22 (by kernel_rfl) (by kernel_rfl) (by kernel_rfl) (Pl.unwanted 5 3 20 true (by kernel_rfl) (by kernel_rfl) (by decide) rfl) hS0 ?_
  refine Pl.H.skip 6 23 (by kernel_rfl) (by kernel_rfl) (by kernel_rfl) (Pl.unwanted 6 3 20 true (by kernel_rfl) (by kernel_rfl) (by decide) rfl) hS0 ?_
  refine Pl.H.skip 7 24 (by kernel_rfl) (by kernel_rfl) (by kernel_rfl) (Pl.unwanted 7 3 20 true (by kernel_rfl) (by kernel_rfl) (by decide) rfl) hS0 ?_
  refine Pl.H.skip 8 25 (by kernel_rfl) (by kernel_rfl) (by kernel_rfl) (Pl.unwanted 8 3 20 true (by kernel_rfl) (by kernel_rfl) (by decide) rfl) hS0 ?_
  refine Pl.H.skip 9 26 (by kernel_rfl) (by kernel_rfl) (by kernel_rfl) (Pl.unwanted 9 3 20 true (by kernel_rfl) (by kernel_rfl) (by decide) rfl) hS0 ?_
  refine Pl.H.take 10 27 (.bool false) (by kernel_rfl) (by kernel_rfl) (by kernel_rfl) (Pl.free 10 (by kernel_rfl)) (Pl.pickF 10 (.tmp 20) (.tmp 26) (.const (.bool false)) (by kernel_rfl) (by decide) (by decide) rfl) hS0 ?_
  refine Pl.H.take 11 28 (.bool false) (by kernel_rfl) (by kernel_rfl) (by kernel_rfl) (Pl.free 11 (by kernel_rfl)) (Pl.move 11 (.tmp 27) (by kernel_rfl) (by decide)) hS0 ?_
  refine Pl.H.skip 12 29 (by kernel_rfl) (by kernel_rfl) (by kernel_rfl) (Pl.unwanted 12 11 28 true (by kernel_rfl) (by kernel_rfl) (by decide) rfl) hS0 ?_
  refine Pl.H.take 13 30 (.bool false) (by kernel_rfl) (by kernel_rfl) (by kernel_rfl) (Pl.free 13 (by kernel_rfl)) (Pl.pickF 13 (.tmp 28) (.tmp 29) (.const (.bool false)) (by kernel_rfl) (by decide) (by decide) rfl) hS0 ?_
  refine Pl.H.take 14 31 (.bool false) (by kernel_rfl) (by kernel_rfl) (by kernel_rfl) (Pl.free 14 (by kernel_rfl)) (Pl.move 14 (.tmp 30) (by kernel_rfl) (by decide)) hS0 ?_
  refine Pl.H.skip 15 32 (by kernel_rfl) (by kernel_rfl) (by kernel_rfl) (Pl.unwanted 15 14 31 true (by kernel_rfl) (by kernel_rfl) (by decide) rfl) hS0 ?_
  refine Pl.H.take 16 33 (.bool false) (by kernel_rfl) (by kernel_rfl) (by kernel_rfl) (Pl.free 16 (by kernel_rfl)) (Pl.pickF 16 (.tmp 31) (.tmp 32) (.const (.bool false)) (by kernel_rfl) (by decide) (by decide) rfl) hS0 ?_
  refine Pl.H.take 17 2 (.bool false) (by kernel_rfl) (by kernel_rfl) (by kernel_rfl) (Pl.free 17 (by kernel_rfl)) (Pl.assign 17 (.tmp 33) (by kernel_rfl) (by decide)) hS0 ?_
  refine Pl.H.done (by kernel_rfl) (fun A' hA' => ?_)
  rw [Pl.At.ext hA' ((((((((((((((((((hA.put 17 _).put 18 _).put 19 _).put 20 _).put 21 _).put 22 _).put 23 _).put 24 _).put 25 _).put 26 _).put 27 _).put 28 _).put 29 _).put 30 _).put 31 _).put 32 _).put 33 _).put 2 _)]
  exact hend (fun d => if d = 17 then .pointer (some ⟨b, 1, none⟩) else if d = 18 then .int .i64 x.n else if d = 19 then .bool false else if d = 20 then .bool false else if d = 21 then undef else if d = 22 then undef else if d = 23 then undef else if d = 24 then undef else if d = 25 then undef else if d = 26 then undef else if d = 27 then .bool false else if d = 28 then .bool false else if d = 29 then undef else if d = 30 then .bool false else if d = 31 then .bool false else if d = 32 then undef else if d = 33 then .bool false else undef) _ hS0

set_option maxHeartbeats 2000000 in
set_option maxRecDepth 100000 in
theorem may6b (w0 w : World) (b : Nat) (x : It) (hx : ItAt w0 b 0 x) (hW : Below w0.heap.size w0 w) (h1 : 0 ≤ x.n) (h2 : ¬ x.n ≤ maxN x.kind)
    {Q : Exit → Act → World → Prop} {A : Act} (hsz : A.tmps.size = 56) (hdf : A.defers = []) (s1 : A.tmps.getD 1 undef = .pointer (some ⟨b, 0, none⟩))
    (hend : ∀ (u : Nat → Value) w', Below w0.heap.size w0 w' → Q .normal (((((((((((((((((((A).put (some 17) (u 17)).put (some 18) (u 18)).put (some 19) (u 19)).put (some 20) (u 20)).put (some 21) (u 21)).put (some 22) (u 22)).put (some 23) (u 23)).put (some 24) (u 24)).put (some 25) (u 25)).put (some 26) (u 26)).put (some 27) (u 27)).put (some 28) (u 28)).put (some 29) (u 29)).put (some 30) (u 30)).put (some 31) (u 31)).put (some 32) (u 32)).put (some 33) (u 33)).put (some 2) (.bool false)) w') :
    (Code.region 6 (Pl.find 6 ((Try.f71.body).getD .skip)) true).wp Try.prog Q A w := by
  have hS0 : Below w0.heap.size w0 w.drew := hW.drew
  have hA := Pl.At.same (v := .pointer (some ⟨b, 0, none⟩)) (d := 1) (Pl.At.here hsz hdf) s1
  refine Pl.H.start (S := fun w' => Below w0.heap.size w0 w') (by kernel_rfl) hA hS0 ?_
  rw [show (Pl.find 6 ((Try.f71.body).getD .skip)).size = 18 by kernel_rfl]
  refine Pl.H.take 0 17 (.pointer (some ⟨b, 1, none⟩)) (by kernel_rfl) (by kernel_rfl) (by kernel_rfl) (Pl.free 0 (by kernel_rfl)) (Pl.field 0 67 (.tmp 1) 1 _ (by kernel_rfl) (by decide) (field_it1 b)) hS0 ?_
  refine Pl.H.take 1 18 (.int .i64 x.n) (by kernel_rfl) (by kernel_rfl) (by kernel_rfl) (Pl.free 1 (by kernel_rfl)) (Pl.load 1 3 (.tmp 17) _ (by kernel_rfl) (by decide) (fun w' hS => load_int b 1 _ w' (keep_item hx hS).p1)) hS0 ?_
  refine Pl.H.take 2 19 (.bool true) (by kernel_rfl) (by kernel_rfl) (by kernel_rfl) (Pl.free 2 (by kernel_rfl)) (Pl.binV 2 .geq 3 3 (.tmp 18) (.const (.int .i64 0)) (.int .i64 x.n) (.int .i64 0) _ (by kernel_rfl) (by decide) (by decide) rfl rfl (fun w => by simp [go_sem, eqGuard, h1])) hS0 ?_
  refine Pl.H.take 3 20 (.bool true) (by kernel_rfl) (by kernel_rfl) (by kernel_rfl) (Pl.free 3 (by kernel_rfl)) (Pl.move 3 (.tmp 19) (by kernel_rfl) (by decide)) hS0 ?_
  refine Pl.H.take 4 21 (.pointer (some ⟨b, 1, none⟩)) (by kernel_rfl) (by kernel_rfl) (by kernel_rfl) (Pl.guarded 4 3 20 true (by kernel_rfl) (by kernel_rfl) (by decide) rfl) (Pl.field 4 67 (.tmp 1) 1 _ (by kernel_rfl) (by decide) (field_it1 b)) hS0 ?_
  refine Pl.H.take 5 22 (.int .i64 x.n) (by kernel_rfl) (by kernel_rfl) (by kernel_rfl) (Pl.guarded 5 3 20 true (by kernel_rfl) (by kernel_rfl) (by decide) rfl) (Pl.load 5 3 (.tmp 21) _ (by kernel_rfl) (by decide) (fun w' hS => load_int b 1 _ w' (keep_item hx hS).p1)) hS0 ?_
  refine Pl.H.take 6 23 (.pointer (some ⟨b, 0, none⟩)) (by kernel_rfl) (by kernel_rfl) (by kernel_rfl) (Pl.guarded 6 3 20 true (by kernel_rfl) (by kernel_rfl) (by decide) rfl) (Pl.field 6 67 (.tmp 1) 0 _ (by kernel_rfl) (by decide) (field_it0 b)) hS0 ?_
  refine Pl.H.take 7 24 (.int .i64 x.kind) (by kernel_rfl) (by kernel_rfl) (by kernel_rfl) (Pl.guarded 7 3 20 true (by kernel_rfl) (by kernel_rfl) (by decide) rfl) (Pl.load 7 3 (.tmp 23) _ (by kernel_rfl) (by decide) (fun w' hS => load_int b 0 _ w' (keep_item hx hS).p0)) hS0 ?_
  refine Pl.H.call 8 25 87 [(.tmp 24)] #[3] (by kernel_rfl) (by kernel_rfl) (by kernel_rfl) (Pl.guarded 8 3 20 true (by kernel_rfl) (by kernel_rfl) (by decide) rfl) (by kernel_rfl) (by decide) enters87 (Calls.mono (maxCount_any x.kind w.drew) ?_)
  rintro e w' ⟨rfl, hw⟩
  obtain rfl := hw.symm
  refine ⟨.int .i64 (maxN x.kind), rfl, hS0, ?_⟩
  refine Pl.H.take 9 26 (.bool false) (by kernel_rfl) (by kernel_rfl) (by kernel_rfl) (Pl.guarded 9 3 20 true (by kernel_rfl) (by kernel_rfl) (by decide) rfl) (Pl.binV 9 .leq 3 3 (.tmp 22) (.tmp 25) (.int .i64 x.n) (.int .i64 (maxN x.kind)) _ (by kernel_rfl) (by decide) (by decide) rfl rfl (fun w => by simp [go_sem, eqGuard, h2])) hS0 ?_
  refine Pl.H.take 10 27 (.bool false) (by kernel_rfl) (by kernel_rfl) (by kernel_rfl) (Pl.free 10 (by kernel_rfl)) (Pl.pick 10 (.tmp 20) (.tmp 26) (.const (.bool false)) (by kernel_rfl) (by decide) (by decide) rfl) hS0 ?_
  refine Pl.H.take 11 28 (.bool false) (by kernel_rfl) (by kernel_rfl) (by kernel_rfl) (Pl.free 11 (by kernel_rfl)) (Pl.move 11 (.tmp 27) (by kernel_rfl) (by decide)) hS0 ?_
  refine Pl.H.skip 12 29 (by kernel_rfl) (by kernel_rfl) (by kernel_rfl) (Pl.unwanted 12 11 28 true (by kernel_rfl) (by kernel_rfl) (by decide) rfl) hS0 ?_
  refine Pl.H.take 13 30 (.bool false) (by kernel_rfl) (by kernel_rfl) (by kernel_rfl) (Pl.free 13 (by kernel_rfl)) (Pl.pickF 13 (.tmp 28) (.tmp 29) (.const (.bool false)) (by kernel_rfl) (by decide) (by decide) rfl) hS0 ?_
  refine Pl.H.take 14 31 (.bool false) (by kernel_rfl) (by kernel_rfl) (by kernel_rfl) (Pl.free 14 (by kernel_rfl)) (Pl.move 14 (.tmp 30) (by kernel_rfl) (by decide)) hS0 ?_
  refine Pl.H.skip 15 32 (by kernel_rfl) (by kernel_rfl) (by kernel_rfl) (Pl.unwanted 15 14 31 true (by kernel_rfl) (by kernel_rfl) (by decide) rfl) hS0 ?_
  refine Pl.H.take 16 33 (.bool false) (by kernel_rfl) (by kernel_rfl) (by kernel_rfl) (Pl.free 16 (by kernel_rfl)) (Pl.pickF 16 (.tmp 31) (.tmp 32) (.const (.bool false)) (by kernel_rfl) (by decide) (by decide) rfl) hS0 ?_
  refine Pl.H.take 17 2 (.bool false) (by kernel_rfl) (by kernel_rfl) (by kernel_rfl) (Pl.free 17 (by kernel_rfl)) (Pl.assign 17 (.tmp 33) (by kernel_rfl) (by decide)) hS0 ?_
  refine Pl.H.done (by kernel_rfl) (fun A' hA' => ?_)
  rw [Pl.At.ext hA' ((((((((((((((((((hA.put 17 _).put 18 _).put 19 _).put 20 _).put 21 _).put 22 _).put 23 _).put 24 _).put 25 _).put 26 _).put 27 _).put 28 _).put 29 _).put 30 _).put 31 _).put 32 _).put 33 _).put 2 _)]
  exact hend (fun d => if d = 17 then .pointer (some ⟨b, 1, none⟩) else if d = 18 then .int .i64 x.n else if d = 19 then .bool true else if d = 20 then .bool true else if d = 21 then .pointer (some ⟨b, 1, none⟩) else if d = 22 then .int .i64 x.n else if d = 23 then .pointer (some ⟨b, 0, none⟩) else if d = 24 then .int .i64 x.kind else if d = 25 then .int .i64 (maxN x.kind) else if d = 26 then .bool false else if d = 27 then .bool false else if d = 28 then .bool false else if d = 29 then undef else if d = 30 then .bool false else if d = 31 then .bool false else if d = 32 then undef else if d = 33 then .bool false else undef) _ hS0

set_option maxHeartbeats 2000000 in
set_option maxRecDepth 100000 in
theorem may6c (w0 w : World) (b : Nat) (x : It) (hx : ItAt w0 b 0 x) (hW : Below w0.heap.size w0 w) (h1 : 0 ≤ x.n) (h2 : x.n ≤ maxN x.kind)
    {Q : Exit → Act → World → Prop} {A : Act} (hsz : A.tmps.size = 56) (hdf : A.defers = []) (s1 : A.tmps.getD 1 undef = .pointer (some ⟨b, 0, none⟩)) (s3 : A.tmps.getD 3 undef = .bool false)
    (hend : ∀ (u : Nat → Value) w', Below w0.heap.size w0 w' → Q .normal (((((((((((((((((((A).put (some 17) (u 17)).put (some 18) (u 18)).put (some 19) (u 19)).put (some 20) (u 20)).put (some 21) (u 21)).put (some 22) (u 22)).put (some 23) (u 23)).put (some 24) (u 24)).put (some 25) (u 25)).put (some 26) (u 26)).put (some 27) (u 27)).put (some 28) (u 28)).put (some 29) (u 29)).put (some 30) (u 30)).put (some 31) (u 31)).put (some 32) (u 32)).put (some 33) (u 33)).put (some 2) (.bool false)) w') :
    (Code.region 6 (Pl.find 6 ((Try.f71.body).getD .skip)) true).wp Try.prog Q A w := by
  have hS0 : Below w0.heap.size w0 w.drew := hW.drew
  have hA := Pl.At.same (v := .bool false) (d := 3) (Pl.At.same (v := .pointer (some ⟨b, 0, none⟩)) (d := 1) (Pl.At.here hsz hdf) s1) s3
  refine Pl.H.start (S := fun w' => Below w0.heap.size w0 w') (by kernel_rfl) hA hS0 ?_
  rw [show (Pl.find 6 ((Try.f71.body).getD .skip)).size = 18 by kernel_rfl]
  refine Pl.H.take 0 17 (.pointer (some ⟨b, 1, none⟩)) (by kernel_rfl) (by kernel_rfl) (by kernel_rfl) (Pl.free 0 (by kernel_rfl)) (Pl.field 0 67 (.tmp 1) 1 _ (by kernel_rfl) (by decide) (field_it1 b)) hS0 ?_
  refine Pl.H.take 1 18 (.int .i64 x.n) (by kernel_rfl) (by kernel_rfl) (by kernel_rfl) (Pl.free 1 (by kernel_rfl)) (Pl.load 1 3 (.tmp 17) _ (by kernel_rfl) (by decide) (fun w' hS => load_int b 1 _ w' (keep_item hx hS).p1)) hS0 ?_
  refine Pl.H.take 2 19 (.bool true) (by kernel_rfl) (by kernel_rfl) (by kernel_rfl) (Pl.free 2 (by kernel_rfl)) (Pl.binV 2 .geq 3 3 (.tmp 18) (.const (.int .i64 0)) (.int .i64 x.n) (.int .i64 0) _ (by kernel_rfl) (by decide) (by decide) rfl rfl (fun w => by simp [go_sem, eqGuard, h1])) hS0 ?_
  refine Pl.H.take 3 20 (.bool true) (by kernel_rfl) (by kernel_rfl) (by kernel_rfl) (Pl.free 3 (by kernel_rfl)) (Pl.move 3 (.tmp 19) (by kernel_rfl) (by decide)) hS0 ?_
  refine Pl.H.take 4 21 (.pointer (some ⟨b, 1, none⟩)) (by kernel_rfl) (by kernel_rfl) (by kernel_rfl) (Pl.guarded 4 3 20 true (by kernel_rfl) (by kernel_rfl) (by decide) rfl) (Pl.field 4 67 (.tmp 1) 1 _ (by kernel_rfl) (by decide) (field_it1 b)) hS0 ?_
  refine Pl.H.take 5 22 (.int .i64 x.n) (by kernel_rfl) (by kernel_rfl) (by kernel_rfl) (Pl.guarded 5 3 20 true (by kernel_rfl) (by kernel_rfl) (by decide) rfl) (Pl.load 5 3 (.tmp 21) _ (by kernel_rfl) (by decide) (fun w' hS => load_int b 1 _ w' (keep_item hx hS).p1)) hS0 ?_
  refine Pl.H.take 6 23 (.pointer (some ⟨b, 0, none⟩)) (by kernel_rfl) (by kernel_rfl) (by kernel_rfl) (Pl.guarded 6 3 20 true (by kernel_rfl) (by kernel_rfl) (by decide) rfl) (Pl.field 6 67 (.tmp 1) 0 _ (by kernel_rfl) (by decide) (field_it0 b)) hS0 ?_
  refine Pl.H.take 7 24 (.int .i64 x.kind) (by kernel_rfl) (by kernel_rfl) (by kernel_rfl) (Pl.guarded 7 3 20 true (by kernel_rfl) (by kernel_rfl) (by decide) rfl) (Pl.load 7 3 (.tmp 23) _ (by kernel_rfl) (by decide) (fun w' hS => load_int b 0 _ w' (keep_item hx hS).p0)) hS0 ?_
  refine Pl.H.call 8 25 87 [(.tmp 24)] #[3] (by kernel_rfl) (by kernel_rfl) (by kernel_rfl) (Pl.guarded 8 3 20 true (by kernel_rfl) (by kernel_rfl) (by decide) rfl) (by kernel_rfl) (by decide) enters87 (Calls.mono (maxCount_any x.kind w.drew) ?_)
  rintro e w' ⟨rfl, hw⟩
  obtain rfl := hw.symm
  refine ⟨.int .i64 (maxN x.kind), rfl, hS0, ?_⟩
  refine Pl.H.take 9 26 (.bool true) (by kernel_rfl) (by kernel_rfl) (by kernel_rfl) (Pl.guarded 9 3 20 true (by kernel_rfl) (by kernel_rfl) (by decide) rfl) (Pl.binV 9 .leq 3 3 (.tmp 22) (.tmp 25) (.int .i64 x.n) (.int .i64 (maxN x.kind)) _ (by kernel_rfl) (by decide) (by decide) rfl rfl (fun w => by simp [go_sem, eqGuard, h2])) hS0 ?_
  refine Pl.H.take 10 27 (.bool true) (by kernel_rfl) (by kernel_rfl) (by kernel_rfl) (Pl.free 10 (by kernel_rfl)) (Pl.pick 10 (.tmp 20) (.tmp 26) (.const (.bool false)) (by kernel_rfl) (by decide) (by decide) rfl) hS0 ?_
  refine Pl.H.take 11 28 (.bool true) (by kernel_rfl) (by kernel_rfl) (by kernel_rfl) (Pl.free 11 (by kernel_rfl)) (Pl.move 11 (.tmp 27) (by kernel_rfl) (by decide)) hS0 ?_
  refine Pl.H.take 12 29 (.bool false) (by kernel_rfl) (by kernel_rfl) (by kernel_rfl) (Pl.guarded 12 11 28 true (by kernel_rfl) (by kernel_rfl) (by decide) rfl) (Pl.move 12 (.tmp 3) (by kernel_rfl) (by decide)) hS0 ?_
  refine Pl.H.take 13 30 (.bool false) (by kernel_rfl) (by kernel_rfl) (by kernel_rfl) (Pl.free 13 (by kernel_rfl)) (Pl.pick 13 (.tmp 28) (.tmp 29) (.const (.bool false)) (by kernel_rfl) (by decide) (by decide) rfl) hS0 ?_
  refine Pl.H.take 14 31 (.bool false) (by kernel_rfl) (by kernel_rfl) (by kernel_rfl) (Pl.free 14 (by kernel_rfl)) (Pl.move 14 (.tmp 30) (by kernel_rfl) (by decide)) hS0 ?_
  refine Pl.H.skip 15 32 (by kernel_rfl) (by kernel_rfl) (by kernel_rfl) (Pl.unwanted 15 14 31 true (by kernel_rfl) (by kernel_rfl) (by decide) rfl) hS0 ?_
  refine Pl.H.take 16 33 (.bool false) (by kernel_rfl) (by kernel_rfl) (by kernel_rfl) (Pl.free 16 (by kernel_rfl)) (Pl.pickF 16 (.tmp 31) (.tmp 32) (.const (.bool false)) (by kernel_rfl) (by decide) (by decide) rfl) hS0 ?_
  refine Pl.H.take 17 2 (.bool false) (by kernel_rfl) (by kernel_rfl) (by kernel_rfl) (Pl.free 17 (by kernel_rfl)) (Pl.assign 17 (.tmp 33) (by kernel_rfl) (by decide)) hS0 ?_
  refine Pl.H.done (by kernel_rfl) (fun A' hA' => ?_)
  rw [Pl.At.ext hA' ((((((((((((((((((hA.put 17 _).put 18 _).put 19 _).put 20 _).put 21 _).put 22 _).put 23 _).put 24 _).put 25 _).put 26 _).put 27 _).put 28 _).put 29 _).put 30 _).put 31 _).put 32 _).put 33 _).put 2 _)]
  exact hend (fun d => if d = 17 then .pointer (some ⟨b, 1, none⟩) else if d = 18 then .int .i64 x.n else if d = 19 then .bool true else if d = 20 then .bool true else if d = 21 then .pointer (some ⟨b, 1, none⟩) else if d = 22 then .int .i64 x.n else if d = 23 then .pointer (some ⟨b, 0, none⟩) else if d = 24 then .int .i64 x.kind else if d = 25 then .int .i64 (maxN x.kind) else if d = 26 then .bool true else if d = 27 then .bool true else if d = 28 then .bool true else if d = 29 then .bool false else if d = 30 then .bool false else if d = 31 then .bool false else if d = 32 then undef else if d = 33 then .bool false else undef) _ hS0

set_option maxHeartbeats 2000000 in
set_option maxRecDepth 100000 in
theorem may6d (w0 w : World) (b : Nat) (x : It) (hx : ItAt w0 b 0 x) (hW : Below w0.heap.size w0 w) (h1 : 0 ≤ x.n) (h2 : x.n ≤ maxN x.kind)
    {Q : Exit → Act → World → Prop} {A : Act} (hsz : A.tmps.size = 56) (hdf : A.defers = []) (s1 : A.tmps.getD 1 undef = .pointer (some ⟨b, 0, none⟩)) (s3 : A.tmps.getD 3 undef = .bool true) (s4 : A.tmps.getD 4 undef = .bool false)
    (hend : ∀ (u : Nat → Value) w', Below w0.heap.size w0 w' → Q .normal (((((((((((((((((((A).put (some 17) (u 17)).put (some 18) (u 18)).put (some 19) (u 19)).put (some 20) (u 20)).put (some 21) (u 21)).put (some 22) (u 22)).put (some 23) (u 23)).put (some 24) (u 24)).put (some 25) (u 25)).put (some 26) (u 26)).put (some 27) (u 27)).put (some 28) (u 28)).put (some 29) (u 29)).put (some 30) (u 30)).put (some 31) (u 31)).put (some 32) (u 32)).put (some 33) (u 33)).put (some 2) (.bool false)) w') :
    (Code.region 6 (Pl.find 6 ((Try.f71.body).getD .skip)) true).wp Try.prog Q A w := by
  have hS0 : Below w0.heap.size w0 w.drew := hW.drew
  have hA := Pl.At.same (v := .bool false) (d := 4) (Pl.At.same (v := .bool true) (d := 3) (Pl.At.same (v := .pointer (some ⟨b, 0, none⟩)) (d := 1) (Pl.At.here hsz hdf) s1) s3) s4
  refine Pl.H.start (S := fun w' => Below w0.heap.size w0 w') (by kernel_rfl) hA hS0 ?_
  rw [show (Pl.find 6 ((Try.f71.body).getD .skip)).size = 18 by kernel_rfl]
  refine Pl.H.take 0 17 (.pointer (some ⟨b, 1, none⟩)) (by kernel_rfl) (by kernel_rfl) (by kernel_rfl) (Pl.free 0 (by kernel_rfl)) (Pl.field 0 67 (.tmp 1) 1 _ (by kernel_rfl) (by decide) (field_it1 b)) hS0 ?_
  refine Pl.H.take 1 18 (.int .i64 x.n) (by kernel_rfl) (by kernel_rfl) (by kernel_rfl) (Pl.free 1 (by kernel_rfl)) (Pl.load 1 3 (.tmp 17) _ (by kernel_rfl) (by decide) (fun w' hS => load_int b 1 _ w' (keep_item hx hS).p1)) hS0 ?_
  refine Pl.H.take 2 19 (.bool true) (by kernel_rfl) (by kernel_rfl) (by kernel_rfl) (Pl.free 2 (by kernel_rfl)) (Pl.binV 2 .geq 3 3 (.tmp 18) (.const (.int .i64 0)) (.int .i64 x.n) (.int .i64 0) _ (by kernel_rfl) (by decide) (by decide) rfl rfl (fun w => by simp [go_sem, eqGuard, h1])) hS0 ?_
  refine Pl.H.take 3 20 (.bool true) (by kernel_rfl) (by kernel_rfl) (by kernel_rfl) (Pl.free 3 (by kernel_rfl)) (Pl.move 3 (.tmp 19) (by kernel_rfl) (by decide)) hS0 ?_
  refine Pl.H.take 4 21 (.pointer (some ⟨b, 1, none⟩)) (by kernel_rfl) (by kernel_rfl) (by kernel_rfl) (Pl.guarded 4 3 20 true (by kernel_rfl) (by kernel_rfl) (by decide) rfl) (Pl.field 4 67 (.tmp 1) 1 _ (by kernel_rfl) (by decide) (field_it1 b)) hS0 ?_
  refine Pl.H.take 5 22 (.int .i64 x.n) (by kernel_rfl) (by kernel_rfl) (by kernel_rfl) (Pl.guarded 5 3 20 true (by kernel_rfl) (by kernel_rfl) (by decide) rfl) (Pl.load 5 3 (.tmp 21) _ (by kernel_rfl) (by decide) (fun w' hS => load_int b 1 _ w' (keep_item hx hS).p1)) hS0 ?_
  refine Pl.H.take 6 23 (.pointer (some ⟨b, 0, none⟩)) (by kernel_rfl) (by kernel_rfl) (by kernel_rfl) (Pl.guarded 6 3 20 true (by kernel_rfl) (by kernel_rfl) (by decide) rfl) (Pl.field 6 67 (.tmp 1) 0 _ (by kernel_rfl) (by decide) (field_it0 b)) hS0 ?_
  refine Pl.H.take 7 24 (.int .i64 x.kind) (by kernel_rfl) (by kernel_rfl) (by kernel_rfl) (Pl.guarded 7 3 20 true (by kernel_rfl) (by kernel_rfl) (by decide) rfl) (Pl.load 7 3 (.tmp 23) _ (by kernel_rfl) (by decide) (fun w' hS => load_int b 0 _ w' (keep_item hx hS).p0)) hS0 ?_
  refine Pl.H.call 8 25 87 [(.tmp 24)] #[3] (by kernel_rfl) (by kernel_rfl) (by kernel_rfl) (Pl.guarded 8 3 20 true (by kernel_rfl) (by kernel_rfl) (by decide) rfl) (by kernel_rfl) (by decide) enters87 (Calls.mono (maxCount_any x.kind w.drew) ?_)
  rintro e w' ⟨rfl, hw⟩
  obtain rfl := hw.symm
  refine ⟨.int .i64 (maxN x.kind), rfl, hS0, ?_⟩
  refine Pl.H.take 9 26 (.bool true) (by kernel_rfl) (by kernel_rfl) (by kernel_rfl) (Pl.guarded 9 3 20 true (by kernel_rfl) (by kernel_rfl) (by decide) rfl) (Pl.binV 9 .leq 3 3 (.tmp 22) (.tmp 25) (.int .i64 x.n) (.int .i64 (maxN x.kind)) _ (by kernel_rfl) (by decide) (by decide) rfl rfl (fun w => by simp [go_sem, eqGuard, h2])) hS0 ?_
  refine Pl.H.take 10 27 (.bool true) (by kernel_rfl) (by kernel_rfl) (by kernel_rfl) (Pl.free 10 (by kernel_rfl)) (Pl.pick 10 (.tmp 20) (.tmp 26) (.const (.bool false)) (by kernel_rfl) (by decide) (by decide) rfl) hS0 ?_
  refine Pl.H.take 11 28 (.bool true) (by kernel_rfl) (by kernel_rfl) (by kernel_rfl) (Pl.free 11 (by kernel_rfl)) (Pl.move 11 (.tmp 27) (by kernel_rfl) (by decide)) hS0 ?_
  refine Pl.H.take 12 29 (.bool true) (by kernel_rfl) (by kernel_rfl) (by kernel_rfl) (Pl.guarded 12 11 28 true (by kernel_rfl) (by kernel_rfl) (by decide) rfl) (Pl.move 12 (.tmp 3) (by kernel_rfl) (by decide)) hS0 ?_
  refine Pl.H.take 13 30 (.bool true) (by kernel_rfl) (by kernel_rfl) (by kernel_rfl) (Pl.free 13 (by kernel_rfl)) (Pl.pick 13 (.tmp 28) (.tmp 29) (.const (.bool false)) (by kernel_rfl) (by decide) (by decide) rfl) hS0 ?_
  refine Pl.H.take 14 31 (.bool true) (by kernel_rfl) (by kernel_rfl) (by kernel_rfl) (Pl.free 14 (by kernel_rfl)) (Pl.move 14 (.tmp 30) (by kernel_rfl) (by decide)) hS0 ?_
  refine Pl.H.take 15 32 (.bool false) (by kernel_rfl) (by kernel_rfl) (by kernel_rfl) (Pl.guarded 15 14 31 true (by kernel_rfl) (by kernel_rfl) (by decide) rfl) (Pl.move 15 (.tmp 4) (by kernel_rfl) (by decide)) hS0 ?_
  refine Pl.H.take 16 33 (.bool false) (by kernel_rfl) (by kernel_rfl) (by kernel_rfl) (Pl.free 16 (by kernel_rfl)) (Pl.pick 16 (.tmp 31) (.tmp 32) (.const (.bool false)) (by kernel_rfl) (by decide) (by decide) rfl) hS0 ?_
  refine Pl.H.take 17 2 (.bool false) (by kernel_rfl) (by kernel_rfl) (by kernel_rfl) (Pl.free 17 (by kernel_rfl)) (Pl.assign 17 (.tmp 33) (by kernel_rfl) (by decide)) hS0 ?_
  refine Pl.H.done (by kernel_rfl) (fun A' hA' => ?_)
  rw [Pl.At.ext hA' ((((((((((((((((((hA.put 17 _).put 18 _).put 19 _).put 20 _).put 21 _).put 22 _).put 23 _).put 24 _).put 25 _).put 26 _).put 27 _).put 28 _).put 29 _).put 30 _).put 31 _).put 32 _).put 33 _).put 2 _)]
  exact hend (fun d => if d = 17 then .pointer (some ⟨b, 1, none⟩) else if d = 18 then .int .i64 x.n else if d = 19 then .bool true else if d = 20 then .bool true else if d = 21 then .pointer (some ⟨b, 1, none⟩) else if d = 22 then .int .i64 x.n else if d = 23 then .pointer (some ⟨b, 0, none⟩) else if d = 24 then .int .i64 x.kind else if d = 25 then .int .i64 (maxN x.kind) else if d = 26 then .bool true else if d = 27 then .bool true else if d = 28 then .bool true else if d = 29 then .bool true else if d = 30 then .bool true else if d = 31 then .bool true else if d = 32 then .bool false else if d = 33 then .bool false else undef) _ hS0

set_option maxHeartbeats 2000000 in
set_option maxRecDepth 100000 in
theorem may6e (w0 w : World) (b : Nat) (x : It) (hx : ItAt w0 b 0 x) (hW : Below w0.heap.size w0 w) (h1 : 0 ≤ x.n) (h2 : x.n ≤ maxN x.kind)
    {Q : Exit → Act → World → Prop} {A : Act} (hsz : A.tmps.size = 56) (hdf : A.defers = []) (s1 : A.tmps.getD 1 undef = .pointer (some ⟨b, 0, none⟩)) (s3 : A.tmps.getD 3 undef = .bool true) (s4 : A.tmps.getD 4 undef = .bool true)
    (hend : ∀ (u : Nat → Value) w', Below w0.heap.size w0 w' → Q .normal (((((((((((((((((((A).put (some 17) (u 17)).put (some 18) (u 18)).put (some 19) (u 19)).put (some 20) (u 20)).put (some 21) (u 21)).put (some 22) (u 22)).put (some 23) (u 23)).put (some 24) (u 24)).put (some 25) (u 25)).put (some 26) (u 26)).put (some 27) (u 27)).put (some 28) (u 28)).put (some 29) (u 29)).put (some 30) (u 30)).put (some 31) (u 31)).put (some 32) (u 32)).put (some 33) (u 33)).put (some 2) (.bool true)) w') :
    (Code.region 6 (Pl.find 6 ((Try.f71.body).getD .skip)) true).wp Try.prog Q A w := by
  have hS0 : Below w0.heap.size w0 w.drew := hW.drew
  have hA := Pl.At.same (v := .bool true) (d := 4) (Pl.At.same (v := .bool true) (d := 3) (Pl.At.same (v := .pointer (some ⟨b, 0, none⟩)) (d := 1) (Pl.At.here hsz hdf) s1) s3) s4
  refine Pl.H.start (S := fun w' => Below w0.heap.size w0 w') (by kernel_rfl) hA hS0 ?_
  rw [show (Pl.find 6 ((Try.f71.body).getD .skip)).size = 18 by kernel_rfl]
  refine Pl.H.take 0 17 (.pointer (some ⟨b, 1, none⟩)) (by kernel_rfl) (by kernel_rfl) (by kernel_rfl) (Pl.free 0 (by kernel_rfl)) (Pl.field 0 67 (.tmp 1) 1 _ (by kernel_rfl) (by decide) (field_it1 b)) hS0 ?_
  refine Pl.H.take 1 18 (.int .i64 x.n) (by kernel_rfl) (by kernel_rfl) (by kernel_rfl) (Pl.free 1 (by kernel_rfl)) (Pl.load 1 3 (.tmp 17) _ (by kernel_rfl) (by decide) (fun w' hS => load_int b 1 _ w' (keep_item hx hS).p1)) hS0 ?_
  refine Pl.H.take 2 19 (.bool true) (by kernel_rfl) (by kernel_rfl) (by kernel_rfl) (Pl.free 2 (by kernel_rfl)) (Pl.binV 2 .geq 3 3 (.tmp 18) (.const (.int .i64 0)) (.int .i64 x.n) (.int .i64 0) _ (by kernel_rfl) (by decide) (by decide) rfl rfl (fun w => by simp [go_sem, eqGuard, h1])) hS0 ?_
  refine Pl.H.take 3 20 (.bool true) (by kernel_rfl) (by kernel_rfl) (by kernel_rfl) (Pl.free 3 (by kernel_rfl)) (Pl.move 3 (.tmp 19) (by kernel_rfl) (by decide)) hS0 ?_
  refine Pl.H.take 4 21 (.pointer (some ⟨b, 1, none⟩)) (by kernel_rfl) (by kernel_rfl) (by kernel_rfl) (Pl.guarded 4 3 20 true (by kernel_rfl) (by kernel_rfl) (by decide) rfl) (Pl.field 4 67 (.tmp 1) 1 _ (by kernel_rfl) (by decide) (field_it1 b)) hS0 ?_
  refine Pl.H.take 5 22 (.int .i64 x.n) (by kernel_rfl) (by kernel_rfl) (by kernel_rfl) (Pl.guarded 5 3 20 true (by kernel_rfl) (by kernel_rfl) (by decide) rfl) (Pl.load 5 3 (.tmp 21) _ (by kernel_rfl) (by decide) (fun w' hS => load_int b 1 _ w' (keep_item hx hS).p1)) hS0 ?_
  refine Pl.H.take 6 23 (.pointer (some ⟨b, 0, none⟩)) (by kernel_rfl) (by kernel_rfl) (by kernel_rfl) (Pl.guarded 6 3 20 true (by kernel_rfl) (by kernel_rfl) (by decide) rfl) (Pl.field 6 67 (.tmp 1) 0 _ (by kernel_rfl) (by decide) (field_it0 b)) hS0 ?_
  refine Pl.H.take 7 24 (.int .i64 x.kind) (by kernel_rfl) (by kernel_rfl) (by kernel_rfl) (Pl.guarded 7 3 20 true (by kernel_rfl) (by kernel_rfl) (by decide) rfl) (Pl.load 7 3 (.tmp 23) _ (by kernel_rfl) (by decide) (fun w' hS => load_int b 0 _ w' (keep_item hx hS).p0)) hS0 ?_
  refine Pl.H.call 8 25 87 [(.tmp 24)] #[3] (by kernel_rfl) (by kernel_rfl) (by kernel_rfl) (Pl.guarded 8 3 20 true (by kernel_rfl) (by kernel_rfl) (by decide) rfl) (by kernel_rfl) (by decide) enters87 (Calls.mono (maxCount_any x.kind w.drew) ?_)
  rintro e w' ⟨rfl, hw⟩
  obtain rfl := hw.symm
  refine ⟨.int .i64 (maxN x.kind), rfl, hS0, ?_⟩
  refine Pl.H.take 9 26 (.bool true) (by kernel_rfl) (by kernel_rfl) (by kernel_rfl) (Pl.guarded 9 3 20 true (by kernel_rfl) (by kernel_rfl) (by decide) rfl) (Pl.binV 9 .leq 3 3 (.tmp 22) (.tmp 25) (.int .i64 x.n) (.int .i64 (maxN x.kind)) _ (by kernel_rfl) (by decide) (by decide) rfl rfl (fun w => by simp [go_sem, eqGuard, h2])) hS0 ?_
  refine Pl.H.take 10 27 (.bool true) (by kernel_rfl) (by kernel_rfl) (by kernel_rfl) (Pl.free 10 (by kernel_rfl)) (Pl.pick 10 (.tmp 20) (.tmp 26) (.const (.bool false)) (by kernel_rfl) (by decide) (by decide) rfl) hS0 ?_
  refine Pl.H.take 11 28 (.bool true) (by kernel_rfl) (by kernel_rfl) (by kernel_rfl) (Pl.free 11 (by kernel_rfl)) (Pl.move 11 (.tmp 27) (by kernel_rfl) (by decide)) hS0 ?_
  refine Pl.H.take 12 29 (.bool true) (by kernel_rfl) (by kernel_rfl) (by kernel_rfl) (Pl.guarded 12 11 28 true (by kernel_rfl) (by kernel_rfl) (by decide) rfl) (Pl.move 12 (.tmp 3) (by kernel_rfl) (by decide)) hS0 ?_
  refine Pl.H.take 13 30 (.bool true) (by kernel_rfl) (by kernel_rfl) (by kernel_rfl) (Pl.free 13 (by kernel_rfl)) (Pl.pick 13 (.tmp 28) (.tmp 29) (.const (.bool false)) (by kernel_rfl) (by decide) (by decide) rfl) hS0 ?_
  refine Pl.H.take 14 31 (.bool true) (by kernel_rfl) (by kernel_rfl) (by kernel_rfl) (Pl.free 14 (by kernel_rfl)) (Pl.move 14 (.tmp 30) (by kernel_rfl) (by decide)) hS0 ?_
  refine Pl.H.take 15 32 (.bool true) (by kernel_rfl) (by kernel_rfl) (by kernel_rfl) (Pl.guarded 15 14 31 true (by kernel_rfl) (by kernel_rfl) (by decide) rfl) (Pl.move 15 (.tmp 4) (by kernel_rfl) (by decide)) hS0 ?_
  refine Pl.H.take 16 33 (.bool true) (by kernel_rfl) (by kernel_rfl) (by kernel_rfl) (Pl.free 16 (by kernel_rfl)) (Pl.pick 16 (.tmp 31) (.tmp 32) (.const (.bool false)) (by kernel_rfl) (by decide) (by decide) rfl) hS0 ?_
  refine Pl.H.take 17 2 (.bool true) (by kernel_rfl) (by kernel_rfl) (by kernel_rfl) (Pl.free 17 (by kernel_rfl)) (Pl.assign 17 (.tmp 33) (by kernel_rfl) (by decide)) hS0 ?_
  refine Pl.H.done (by kernel_rfl) (fun A' hA' => ?_)
  rw [Pl.At.ext hA' ((((((((((((((((((hA.put 17 _).put 18 _).put 19 _).put 20 _).put 21 _).put 22 _).put 23 _).put 24 _).put 25 _).put 26 _).put 27 _).put 28 _).put 29 _).put 30 _).put 31 _).put 32 _).put 33 _).put 2 _)]
  exact hend (fun d => if d = 17 then .pointer (some ⟨b, 1, none⟩) else if d = 18 then .int .i64 x.n else if d = 19 then .bool true else if d = 20 then .bool true else if d = 21 then .pointer (some ⟨b, 1, none⟩) else if d = 22 then .int .i64 x.n else if d = 23 then .pointer (some ⟨b, 0, none⟩) else if d = 24 then .int .i64 x.kind else if d = 25 then .int .i64 (maxN x.kind) else if d = 26 then .bool true else if d = 27 then .bool true else if d = 28 then .bool true else if d = 29 then .bool true else if d = 30 then .bool true else if d = 31 then .bool true else if d = 32 then .bool true else if d = 33 then .bool true else undef) _ hS0
theorem may123 {k : Int} (hk : k = 1 ∨ k = 2 ∨ k = 3) (n : Int) (x : Nat) (s : ByteArray) : It.may ⟨k, n, x, s⟩ = (decide (0 ≤ n) && decide (n ≤ maxN k) && x == 0 && s.toList == []) := by
  have e1 : decide (n < 256) = decide (n ≤ 255) := by rw [Bool.eq_iff_iff]; simp; omega
  have e2 : decide (n < 65536) = decide (n ≤ 65535) := by rw [Bool.eq_iff_iff]; simp; omega
  have e3 : decide (n < 2147483648) = decide (n ≤ 2147483647) := by rw [Bool.eq_iff_iff]; simp; omega
  rcases hk with rfl | rfl | rfl <;> simp [It.may, maxN, e1, e2, e3]

theorem empty_list : (⟨#[]⟩ : ByteArray).toList = [] := by rw [ByteArray.toList_eq]

set_option maxHeartbeats 4000000 in
theorem mayBe_any (i : It) (w : World) : Calls Try.prog 71 #[i.val] w fun e w' => e = .returned (.bool i.may) ∧ Below w.heap.size w w' := by
  obtain ⟨k, n, x, s⟩ := i
  have HI : Hid (∀ t, ItAt (w.alloc (.cells #[.int .i64 k, .int .i64 n, .float .f64 x, .string s] t)) w.heap.size 0 ⟨k, n, x, s⟩) := itAt_new w ⟨k, n, x, s⟩
  have HW : Hid (∀ o, Below w.heap.size w (w.alloc o)) := below_alloc w
  unfold It.val
  simp only
  go_enter Try.func71, Try.ntmps71
  go_wp2_with fail
  refine Pl.region_is (ops := Pl.find 1 ((Try.f71.body).getD .skip)) (by kernel_rfl) ?_
  refine may1 (w.alloc _) _ w.heap.size ⟨k, n, x, s⟩ (HI.out _) (Below.refl _ _) (by rfl) (by rfl) (by rfl) ?_
  intro u w' hb
  rw [empty_list]
  simp only [Act.put, List.setIfInBounds_toArray, List.set_cons_zero, List.set_cons_succ]
  have C := hide (keep_item (HI.out _) hb)
  have HB := hide ((HW.out _).trans (hb.mono (HW.out _).size))
  clear hb
  have c0 : w'.cell? ⟨w.heap.size, 0, none⟩ = some (.int .i64 k) := C.out.p0
  have c1 : w'.cell? ⟨w.heap.size, 1, none⟩ = some (.int .i64 n) := C.out.p1
  have c3 : w'.cell? ⟨w.heap.size, 3, none⟩ = some (.string s) := C.out.p3
  by_cases hk : k = 1 ∨ k = 2 ∨ k = 3
  · have HM := hide (may123 hk n x s)
    by_cases h1 : ¬ 0 ≤ n
    · have H1 := hide (Int.not_le.1 h1)
      clear h1
      rcases hk with rfl | rfl | rfl <;>
      (go_wp2_with fail
       refine Pl.region_is (ops := Pl.find 6 ((Try.f71.body).getD .skip)) (by kernel_rfl) ?_
       refine may6a _ w' w.heap.size ⟨_, n, x, s⟩ C.out (Below.refl _ _) (Int.not_le.2 H1.out) (by rfl) (by rfl) (by rfl) ?_
       intro u w2 hb
       simp only [Act.put, List.setIfInBounds_toArray, List.set_cons_zero, List.set_cons_succ]
       go_wp2_with fail
       go_ret
       refine ⟨?_, HB.out.trans (hb.mono HB.out.size)⟩
       rw [HM.out]
       simp [Int.not_le.2 H1.out])
    replace h1 : 0 ≤ n := Decidable.not_not.1 h1
    by_cases h2 : ¬ n ≤ maxN k
    · have H1 := hide h1
      have H2 := hide (Int.not_le.1 h2)
      clear h1 h2
      rcases hk with rfl | rfl | rfl <;>
      (go_wp2_with fail
       refine Pl.region_is (ops := Pl.find 6 ((Try.f71.body).getD .skip)) (by kernel_rfl) ?_
       refine may6b _ w' w.heap.size ⟨_, n, x, s⟩ C.out (Below.refl _ _) H1.out (Int.not_le.2 H2.out) (by rfl) (by rfl) (by rfl) ?_
       intro u w2 hb
       simp only [Act.put, List.setIfInBounds_toArray, List.set_cons_zero, List.set_cons_succ]
       go_wp2_with fail
       go_ret
       refine ⟨?_, HB.out.trans (hb.mono HB.out.size)⟩
       rw [HM.out]
       simp [Int.not_le.2 H2.out])
    replace h2 : n ≤ maxN k := Decidable.not_not.1 h2
    have H1 := hide h1
    have H2 := hide h2
    clear h1 h2
    cases e3 : (x == 0)
    · rw [e3] at HM
      clear e3
      rcases hk with rfl | rfl | rfl <;>
      (go_wp2_with fail
       refine Pl.region_is (ops := Pl.find 6 ((Try.f71.body).getD .skip)) (by kernel_rfl) ?_
       refine may6c _ w' w.heap.size ⟨_, n, x, s⟩ C.out (Below.refl _ _) H1.out H2.out (by rfl) (by rfl) (by rfl) (by rfl) ?_
       intro u w2 hb
       simp only [Act.put, List.setIfInBounds_toArray, List.set_cons_zero, List.set_cons_succ]
       go_wp2_with fail
       go_ret
       refine ⟨?_, HB.out.trans (hb.mono HB.out.size)⟩
       rw [HM.out]
       simp)
    cases e4 : (s.toList == [])
    · rw [e4] at HM
      clear e3 e4
      rcases hk with rfl | rfl | rfl <;>
      (go_wp2_with fail
       refine Pl.region_is (ops := Pl.find 6 ((Try.f71.body).getD .skip)) (by kernel_rfl) ?_
       refine may6d _ w' w.heap.size ⟨_, n, x, s⟩ C.out (Below.refl _ _) H1.out H2.out (by rfl) (by rfl) (by rfl) (by rfl) (by rfl) ?_
       intro u w2 hb
       simp only [Act.put, List.setIfInBounds_toArray, List.set_cons_zero, List.set_cons_succ]
       go_wp2_with fail
       go_ret
       refine ⟨?_, HB.out.trans (hb.mono HB.out.size)⟩
       rw [HM.out]
       simp)
    · rw [e3, e4] at HM
      clear e3 e4
      rcases hk with rfl | rfl | rfl <;>
      (go_wp2_with fail
       refine Pl.region_is (ops := Pl.find 6 ((Try.f71.body).getD .skip)) (by kernel_rfl) ?_
       refine may6e _ w' w.heap.size ⟨_, n, x, s⟩ C.out (Below.refl _ _) H1.out H2.out (by rfl) (by rfl) (by rfl) (by rfl) (by rfl) ?_
       intro u w2 hb
       simp only [Act.put, List.setIfInBounds_toArray, List.set_cons_zero, List.set_cons_succ]
       go_wp2_with fail
       go_ret
       refine ⟨?_, HB.out.trans (hb.mono HB.out.size)⟩
       rw [HM.out]
       simp [H1.out, H2.out])
  have h1 : ¬ k = 1 := fun h => hk (.inl h)
  have h2 : ¬ k = 2 := fun h => hk (.inr (.inl h))
  have h3 : ¬ k = 3 := fun h => hk (.inr (.inr h))
  have e1 : (k == 1) = false := beq_eq_false_iff_ne.2 h1
  have e2 : (k == 2) = false := beq_eq_false_iff_ne.2 h2
  have e3 : (k == 3) = false := beq_eq_false_iff_ne.2 h3
  by_cases h4 : k = 4
  · subst h4
    go_wp2_with fail
    all_goals (go_ret; refine ⟨?_, HB.out⟩; simp [It.may, *])
  by_cases h5 : k = 5
  · subst h5
    have hd : decide ((s.size : Int) ≤ 255) = decide (s.size < 256) := by rw [Bool.eq_iff_iff]; simp; omega
    have HD := hide hd
    clear hd
    go_wp2_with fail
    all_goals (go_ret; refine ⟨?_, HB.out⟩; simp [It.may, *] <;> omega)
  have e4 : (k == 4) = false := beq_eq_false_iff_ne.2 h4
  have e5 : (k == 5) = false := beq_eq_false_iff_ne.2 h5
  go_wp2_with fail
  all_goals (go_ret; refine ⟨?_, HB.out⟩; simp [It.may, *])

/-- An error's number: none, or ErrArg. -/
def chk : Bool → Int
  | true => 0
  | false => 1

set_option maxHeartbeats 1000000 in
theorem check_any (i : It) (w : World) : Calls Try.prog 55 #[i.val] w fun e w' => e = .returned (.int .i64 (chk i.may)) ∧ Below w.heap.size w w' := by
  have H : Hid (∀ w, Calls Try.prog 71 #[i.val] w fun e w' => e = .returned (.bool i.may) ∧ Below w.heap.size w w') := mayBe_any i
  have HW : Hid (∀ o, Below w.heap.size w (w.alloc o)) := below_alloc w
  obtain ⟨m, hm⟩ : ∃ m, m = i.may := ⟨_, rfl⟩
  rw [← hm] at H
  have HM := hide hm
  clear hm
  unfold It.val at *
  go_enter Try.func55, Try.ntmps55
  go_wp2_with fail
  refine (H.out _).mono ?_
  rintro e w' ⟨rfl, hb⟩
  have HB := hide ((HW.out _).trans (hb.mono (HW.out _).size))
  clear hb
  cases m
  · go_wp2_with fail
    go_ret
    exact ⟨by rw [← HM.out]; rfl, HB.out⟩
  · go_wp2_with fail
    go_ret
    exact ⟨by rw [← HM.out]; rfl, HB.out⟩

end Go.Proofs.Ytdbgbldmjgonjaa
