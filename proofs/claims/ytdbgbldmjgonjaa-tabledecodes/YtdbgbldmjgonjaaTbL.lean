/-
  Drawn statements of the document's Decode of tables.
-/
import Derived.Test.YtdbgbldmjgonjaaTbK
import Derived.Test.YtdbgbldmjgonjaaTbF
namespace Go.Proofs.Ytdbgbldmjgonjaa
open Go.RowKit
set_option linter.unusedVariables false

theorem made_bytesT (n : Nat) : madeCells (Value.int .u8 0).cells (n * 1) = (vals (List.replicate n 0)).toArray := by
  apply Array.ext
  · simp [size_madeCells, vals]
  · intro i h1 h2
    simp [madeCells, vals, Value.cells, Nat.mod_one]
theorem make_bytesT (n : Nat) (hn : n ≤ 10000000) (w : World) : (Instr.makeSlice 26 (.int .i64 (n : Nat)) (.int .i64 (n : Nat))).run Try.prog w = .ok (.slice (some ⟨w.heap.size, 0, none⟩) n n) (w.alloc (.cells (vals (List.replicate n 0)).toArray 5)) := by
  obtain ⟨i0, hi, hz0, hz1, hz2⟩ := info_parts info5
  have h := run_makeSlice (P := Try.prog) w 26 5 i0 (.int .u8 0) Try.underlying26 hi hz0 .i64 .i64 (n : Nat) (n : Nat) (by omega) (by omega) (by rw [hz1]; simp; omega) (by rw [hz2]; simp; omega) (by omega)
  rw [hz1, show ((n : Nat) : Int).toNat = n by omega, made_bytesT] at h
  exact h

/-- An empty page. -/
def nulT : List Nat := List.replicate 512 0
theorem nulT_len : nulT.length = 512 := List.length_replicate
theorem nulT_bytes : Bytes nulT := fun x hx => by rw [(List.mem_replicate.1 hx).2]; decide
theorem makeT512 (w : World) : (Instr.makeSlice 26 (.int .i64 512) (.int .i64 512)).run Try.prog w = .ok (.slice (some ⟨w.heap.size, 0, none⟩) 512 512) (w.alloc (.cells (vals nulT).toArray 5)) := make_bytesT 512 (by decide) w

theorem cameT_keep {w w' : World} {B : Nat} {a : Option Addr} {len cap : Nat} {xs : List Nat} (h : Came w a len cap xs) (hb : Below B w w') (hB : w.heap.size ≤ B) : Came w' a len cap xs := ⟨h.bs.keep hb hB, h.nil, h.le, h.big⟩
theorem cameT_from {w : World} {a : Option Addr} {len cap q : Nat} {xs : List Nat} (h : Came w a len cap xs) (hq : q ≤ len) : Came w (fromA a cap q) (len - q) (cap - q) (xs.drop q) := by
  refine ⟨h.bs.from hq h.le, ?_, by have := h.le; omega, by have := h.big; omega⟩
  intro e
  unfold fromA at e
  split at e
  · omega
  · cases a with
    | none => have := h.nil rfl; omega
    | some x => simp at e

theorem rBelowT {a b c : World} (h : Below a.heap.size a b) (k : Below b.heap.size b c) : Below a.heap.size a c := h.trans (k.mono h.size)
theorem fdIt1 (b o : Nat) (w : World) : (Instr.fieldAt 67 (.pointer (some ⟨b, o, none⟩)) 1).run Try.prog w = .ok (.pointer (some ⟨b, o + 1, none⟩)) w := by simp [go_sem, Instr.fieldAt, Addr.add_lit]
theorem mulT4 (i : Nat) (hi : i < 12) (x y : Operand) (w : World) : (do eqGuard .mul 3 x y (.int .i64 4) (.int .i64 ((i : Nat) : Int)); binOp .mul 3 (.int .i64 4) (.int .i64 ((i : Nat) : Int)) : Sem Value).run Try.prog w = .ok (.int .i64 ((4 * i : Nat) : Int)) w := by
  have h : i = 0 ∨ i = 1 ∨ i = 2 ∨ i = 3 ∨ i = 4 ∨ i = 5 ∨ i = 6 ∨ i = 7 ∨ i = 8 ∨ i = 9 ∨ i = 10 ∨ i = 11 := by omega
  rcases h with rfl | rfl | rfl | rfl | rfl | rfl | rfl | rfl | rfl | rfl | rfl | rfl <;> simp [go_sem, eqGuard] <;> rfl
theorem addT4 (k i : Nat) (hk : k ≤ 7) (hi : i < 12) (x y : Operand) (w : World) : (do eqGuard .add 3 x y (.int .i64 ((k : Nat) : Int)) (.int .i64 ((4 * i : Nat) : Int)); binOp .add 3 (.int .i64 ((k : Nat) : Int)) (.int .i64 ((4 * i : Nat) : Int)) : Sem Value).run Try.prog w = .ok (.int .i64 ((k + 4 * i : Nat) : Int)) w := by
  have hw : ∀ k : Fin 8, ∀ i : Fin 12, IntKind.i64.wrap (((k.val : Nat) : Int) + ((4 * i.val : Nat) : Int)) = ((k.val + 4 * i.val : Nat) : Int) := by decide
  have := hw ⟨k, by omega⟩ ⟨i, hi⟩
  simp [go_sem, eqGuard]
  simpa using this
theorem buildTb (x y z : Int) (w : World) : (Instr.build 24 #[(0, .int .i64 x), (1, .int .i64 y), (2, .int .i64 z)]).run Try.prog w = .ok ((Tb.mk x y z []).val Sl.nil) w := by
  simp [go_sem, Instr.build, Tb.val, Sl.nil]
theorem buildEn (s x l c : Int) (w : World) : (Instr.build 58 #[(1, .int .i64 s), (0, .int .i64 x), (2, .int .i64 l), (3, .int .i64 c)]).run Try.prog w = .ok (En.mk x s l c).val w := by
  simp [go_sem, Instr.build, En.val]
theorem allocTb (w : World) : (Instr.alloc 24 true (.tuple #[])).run Try.prog w = .ok (.pointer (some ⟨w.heap.size, 0, none⟩)) (w.alloc (.cells #[.int .i64 0, .int .i64 0, .int .i64 0, .slice none 0 0] 24)) := by
  simp [go_sem, Instr.alloc]
theorem bsEn (e : En) (w : World) : (Instr.buildSlice 22 1 #[(0, e.val)]).run Try.prog w = .ok (.slice (some ⟨w.heap.size, 0, none⟩) 1 1) (w.alloc (.cells #[.int .i64 e.tx, .int .i64 e.st, .int .i64 e.last, .int .i64 e.com] 58)) := by
  simp [go_sem, Instr.buildSlice, En.val]
theorem own_oneE (w : World) (e : En) : OwnE (w.alloc (.cells #[.int .i64 e.tx, .int .i64 e.st, .int .i64 e.last, .int .i64 e.com] 58)) ⟨some ⟨w.heap.size, 0, none⟩, 1, 1⟩ [e] :=
  ⟨rfl, .inr ⟨w.heap.size, 0, _, rfl, heap_alloc_new w _, (by show 0 + 1 * 4 ≤ 4; decide), Nat.le_refl _, (by show (1 : Nat) ≤ maxLen; unfold maxLen; decide), rfl⟩⟩
theorem Frm.cellT {F : Nat → Prop} {w w' : World} (h : Frm F w w') {p : Addr} (hb : p.block < w.heap.size) (hn : ¬ F p.block) : w'.cell? p = w.cell? p := by
  unfold World.cell?
  rw [h.block p.block hb hn]

theorem mayTIs {t : Tb} {m : Bool} (hm : mayB t = m) (v : Sl) (w : World) (h : Es w v t.es) :
    Calls Try.prog 10 #[t.val v] w fun e w' => e = .returned (.bool m) ∧ Below w.heap.size w w' := by
  have := rmayT_any t v w h
  rw [hm] at this
  exact this

theorem enters10 : ∀ args w, (callFunc 10 args).run Try.prog w = .ok (.enter 10 args) w := Pl.enters Try.func10 (by kernel_rfl) (by kernel_rfl)

theorem enters16 : ∀ args w, (callFunc 16 args).run Try.prog w = .ok (.enter 16 args) w := Pl.enters Try.func16 (by kernel_rfl) (by kernel_rfl)

theorem enters48 : ∀ args w, (callFunc 48 args).run Try.prog w = .ok (.enter 48 args) w := Pl.enters Try.func48 (by kernel_rfl) (by kernel_rfl)


set_option maxHeartbeats 2000000 in
set_option maxRecDepth 100000 in
theorem rdt3a (w0 w : World) (pa : Option Addr) (pl pc : Nat) (xs : List Nat) (hc : Came w0 pa pl pc xs) (hz : xs = nulT) (hW : Below w0.heap.size w0 w)
    {Q : Exit → Act → World → Prop} {A : Act} (hsz : A.tmps.size = 112) (hdf : A.defers = []) (s0 : A.tmps.getD 0 undef = .slice pa pl pc)
    (hend : ∀ (u : Nat → Value) w', Below w0.heap.size w0 w' → Q .normal ((((((A).put (some 15) (u 15)).put (some 16) (u 16)).put (some 17) (u 17)).put (some 18) (u 18)).put (some 19) (.bool true)) w') :
    (Code.region 3 (Pl.find 3 ((Try.f18.body).getD .skip)) true).wp Try.prog Q A w := by
  have hS0 : Below w0.heap.size w0 w.drew := hW.drew
  have hA := Pl.At.same (v := .slice pa pl pc) (d := 0) (Pl.At.here hsz hdf) s0
  refine Pl.H.start (S := fun w' => Below w0.heap.size w0 w') (by kernel_rfl) hA hS0 ?_
  rw [show (Pl.find 3 ((Try.f18.body).getD .skip)).size = 5 by kernel_rfl]
  refine Pl.H.take 0 15 (.slice pa pl pc) (by kernel_rfl) (by kernel_rfl) (by kernel_rfl) (Pl.free 0 (by kernel_rfl)) (Pl.move 0 (.tmp 0) (by kernel_rfl) (by decide)) hS0 ?_
  refine Pl.H.take 1 16 (.string (bstr xs)) (by kernel_rfl) (by kernel_rfl) (by kernel_rfl) (Pl.free 1 (by kernel_rfl)) (Pl.convV 1 26 9 (.tmp 15) (.slice pa pl pc) _ (by kernel_rfl) (by decide) rfl (fun w' hS => run_string_of pc (hc.bs.keep hS (Nat.le_refl _)))) hS0 ?_
  have hSm : Below w0.heap.size w0 (w.drew.alloc (.cells (vals (nulT)).toArray 5)) := hS0.alloc hS0.size _
  have hbm : Bs (w.drew.alloc (.cells (vals (nulT)).toArray 5)) (some ⟨w.drew.heap.size, 0, none⟩) 512 (nulT) := by
    have := bs_marked w.drew nulT (0, 0) nulT_bytes
    rwa [nulT_len] at this
  refine Pl.H.make 2 17 (.slice (some ⟨w.drew.heap.size, 0, none⟩) 512 512) (w.drew.alloc (.cells (vals (nulT)).toArray 5)) (by kernel_rfl) (by kernel_rfl) (by kernel_rfl) (Pl.free 2 (by kernel_rfl)) (Pl.mkV 2 26 (.const (.int .i64 512)) (.const (.int .i64 512)) _ _ (by kernel_rfl) (by decide) (by decide) (makeT512 w.drew)) hSm ?_
  refine Pl.H.make 3 18 (.string (bstr xs)) (w.drew.alloc (.cells (vals (nulT)).toArray 5)) (by kernel_rfl) (by kernel_rfl) (by kernel_rfl) (Pl.free 3 (by kernel_rfl)) (Pl.conv1 3 26 9 (.tmp 17) _ (by kernel_rfl) (by decide) (by rw [hz]; exact run_string_of 512 hbm)) hSm ?_
  refine Pl.H.take 4 19 (.bool true) (by kernel_rfl) (by kernel_rfl) (by kernel_rfl) (Pl.free 4 (by kernel_rfl)) (Pl.eqlStr 4 9 9 (.tmp 16) (.tmp 18) _ (by kernel_rfl) (by decide) (by decide) rfl rfl) hSm ?_
  refine Pl.H.done (by kernel_rfl) (fun A' hA' => ?_)
  rw [Pl.At.ext hA' (((((hA.put 15 _).put 16 _).put 17 _).put 18 _).put 19 _)]
  exact hend (fun d => if d = 15 then .slice pa pl pc else if d = 16 then .string (bstr xs) else if d = 17 then .slice (some ⟨w.drew.heap.size, 0, none⟩) 512 512 else if d = 18 then .string (bstr xs) else undef) _ hSm

set_option maxHeartbeats 2000000 in
set_option maxRecDepth 100000 in
theorem rdt3b (w0 w : World) (pa : Option Addr) (pl pc : Nat) (xs : List Nat) (hc : Came w0 pa pl pc xs) (hne : ¬ (bstr xs).toList = (bstr (nulT)).toList) (hW : Below w0.heap.size w0 w)
    {Q : Exit → Act → World → Prop} {A : Act} (hsz : A.tmps.size = 112) (hdf : A.defers = []) (s0 : A.tmps.getD 0 undef = .slice pa pl pc)
    (hend : ∀ (u : Nat → Value) w', Below w0.heap.size w0 w' → Q .normal ((((((A).put (some 15) (u 15)).put (some 16) (u 16)).put (some 17) (u 17)).put (some 18) (u 18)).put (some 19) (.bool false)) w') :
    (Code.region 3 (Pl.find 3 ((Try.f18.body).getD .skip)) true).wp Try.prog Q A w := by
  have hS0 : Below w0.heap.size w0 w.drew := hW.drew
  have hA := Pl.At.same (v := .slice pa pl pc) (d := 0) (Pl.At.here hsz hdf) s0
  refine Pl.H.start (S := fun w' => Below w0.heap.size w0 w') (by kernel_rfl) hA hS0 ?_
  rw [show (Pl.find 3 ((Try.f18.body).getD .skip)).size = 5 by kernel_rfl]
  refine Pl.H.take 0 15 (.slice pa pl pc) (by kernel_rfl) (by kernel_rfl) (by kernel_rfl) (Pl.free 0 (by kernel_rfl)) (Pl.move 0 (.tmp 0) (by kernel_rfl) (by decide)) hS0 ?_
  refine Pl.H.take 1 16 (.string (bstr xs)) (by kernel_rfl) (by kernel_rfl) (by kernel_rfl) (Pl.free 1 (by kernel_rfl)) (Pl.convV 1 26 9 (.tmp 15) (.slice pa pl pc) _ (by kernel_rfl) (by decide) rfl (fun w' hS => run_string_of pc (hc.bs.keep hS (Nat.le_refl _)))) hS0 ?_
  have hSm : Below w0.heap.size w0 (w.drew.alloc (.cells (vals (nulT)).toArray 5)) := hS0.alloc hS0.size _
  have hbm : Bs (w.drew.alloc (.cells (vals (nulT)).toArray 5)) (some ⟨w.drew.heap.size, 0, none⟩) 512 (nulT) := by
    have := bs_marked w.drew nulT (0, 0) nulT_bytes
    rwa [nulT_len] at this
  refine Pl.H.make 2 17 (.slice (some ⟨w.drew.heap.size, 0, none⟩) 512 512) (w.drew.alloc (.cells (vals (nulT)).toArray 5)) (by kernel_rfl) (by kernel_rfl) (by kernel_rfl) (Pl.free 2 (by kernel_rfl)) (Pl.mkV 2 26 (.const (.int .i64 512)) (.const (.int .i64 512)) _ _ (by kernel_rfl) (by decide) (by decide) (makeT512 w.drew)) hSm ?_
  refine Pl.H.make 3 18 (.string (bstr (nulT))) (w.drew.alloc (.cells (vals (nulT)).toArray 5)) (by kernel_rfl) (by kernel_rfl) (by kernel_rfl) (Pl.free 3 (by kernel_rfl)) (Pl.conv1 3 26 9 (.tmp 17) _ (by kernel_rfl) (by decide) (run_string_of 512 hbm)) hSm ?_
  refine Pl.H.take 4 19 (.bool false) (by kernel_rfl) (by kernel_rfl) (by kernel_rfl) (Pl.free 4 (by kernel_rfl)) (Pl.binV 4 .eql 9 9 (.tmp 16) (.tmp 18) (.string (bstr xs)) (.string (bstr (nulT))) _ (by kernel_rfl) (by decide) (by decide) rfl rfl (fun w => by simp [go_sem, eqGuard, hne])) hSm ?_
  refine Pl.H.done (by kernel_rfl) (fun A' hA' => ?_)
  rw [Pl.At.ext hA' (((((hA.put 15 _).put 16 _).put 17 _).put 18 _).put 19 _)]
  exact hend (fun d => if d = 15 then .slice pa pl pc else if d = 16 then .string (bstr xs) else if d = 17 then .slice (some ⟨w.drew.heap.size, 0, none⟩) 512 512 else if d = 18 then .string (bstr (nulT)) else undef) _ hSm

set_option maxHeartbeats 2000000 in
set_option maxRecDepth 100000 in
theorem rdt5a (w0 w : World) (pa : Option Addr) (pl pc : Nat) (xs : List Nat) (hc : Came w0 pa pl pc xs) (h4 : 4 ≤ pl) (hm : pl ≤ 100000) (hbx : Ta.Bytes (xs.drop 4)) (hsl : Sealed xs) (hW : Below w0.heap.size w0 w)
    {Q : Exit → Act → World → Prop} {A : Act} (hsz : A.tmps.size = 112) (hdf : A.defers = []) (s0 : A.tmps.getD 0 undef = .slice pa pl pc)
    (hend : ∀ (u : Nat → Value) w', Below w0.heap.size w0 w' → Q .normal ((((((((A).put (some 21) (u 21)).put (some 22) (u 22)).put (some 25) (u 25)).put (some 26) (u 26)).put (some 23) (u 23)).put (some 24) (u 24)).put (some 27) (.bool false)) w') :
    (Code.region 5 (Pl.find 5 ((Try.f18.body).getD .skip)) true).wp Try.prog Q A w := by
  have hS0 : Below w0.heap.size w0 w.drew := hW.drew
  have hA := Pl.At.same (v := .slice pa pl pc) (d := 0) (Pl.At.here hsz hdf) s0
  refine Pl.H.start (S := fun w' => Below w0.heap.size w0 w') (by kernel_rfl) hA hS0 ?_
  rw [show (Pl.find 5 ((Try.f18.body).getD .skip)).size = 7 by kernel_rfl]
  refine Pl.H.take 0 21 (.slice pa pl pc) (by kernel_rfl) (by kernel_rfl) (by kernel_rfl) (Pl.free 0 (by kernel_rfl)) (Pl.move 0 (.tmp 0) (by kernel_rfl) (by decide)) hS0 ?_
  refine Pl.H.take 1 22 (.slice (fromA pa pc 4) (pl - 4) (pc - 4)) (by kernel_rfl) (by kernel_rfl) (by kernel_rfl) (Pl.free 1 (by kernel_rfl)) (Pl.slice 1 26 (.tmp 21) (some (.const (.int .i64 4))) none _ (by kernel_rfl) (by decide) (by decide) (by decide) (fun w => slice_from pa pl pc 4 h4 w)) hS0 ?_
  refine Pl.H.take 4 25 (.slice pa pl pc) (by kernel_rfl) (by kernel_rfl) (by kernel_rfl) (Pl.free 4 (by kernel_rfl)) (Pl.move 4 (.tmp 0) (by kernel_rfl) (by decide)) hS0 ?_
  refine Pl.H.take 5 26 (.string (bstr xs)) (by kernel_rfl) (by kernel_rfl) (by kernel_rfl) (Pl.free 5 (by kernel_rfl)) (Pl.convV 5 26 9 (.tmp 25) (.slice pa pl pc) _ (by kernel_rfl) (by decide) rfl (fun w' hS => run_string_of pc (hc.bs.keep hS (Nat.le_refl _)))) hS0 ?_
  refine Pl.H.call 2 23 48 [(.tmp 22)] #[26] (by kernel_rfl) (by kernel_rfl) (by kernel_rfl) (Pl.free 2 (by kernel_rfl)) (by kernel_rfl) (by decide) enters48 (Calls.mono (rseal_any (fromA pa pc 4) (pl - 4) (pc - 4) (xs.drop 4) w.drew (cameT_from (cameT_keep hc hS0 (Nat.le_refl _)) h4).bs (cameT_from (cameT_keep hc hS0 (Nat.le_refl _)) h4).nil (by omega)) ?_)
  rintro e w1 ⟨v1, rfl, ho1, hb1⟩
  have hS1 : Below w0.heap.size w0 w1 := rBelowT hS0 hb1
  obtain ⟨ba, be, rfl, hbs1, _⟩ := ho1.bs (sealed_bytes hbx)
  refine ⟨.slice ba (fourB (Ta.sum (xs.drop 4)) ++ xs.drop 4).length be, rfl, hS1, ?_⟩
  refine Pl.H.make 3 24 (.string (bstr xs)) w1 (by kernel_rfl) (by kernel_rfl) (by kernel_rfl) (Pl.free 3 (by kernel_rfl)) (Pl.conv1 3 26 9 (.tmp 23) _ (by kernel_rfl) (by decide) (by have h := run_string_of be hbs1; unfold Sealed at hsl; rw [hsl] at h; rw [hsl]; exact h)) hS1 ?_
  refine Pl.H.take 6 27 (.bool false) (by kernel_rfl) (by kernel_rfl) (by kernel_rfl) (Pl.free 6 (by kernel_rfl)) (Pl.binV 6 .neq 9 9 (.tmp 24) (.tmp 26) (.string (bstr xs)) (.string (bstr xs)) _ (by kernel_rfl) (by decide) (by decide) rfl rfl (fun w => by simp [go_sem, eqGuard])) hS1 ?_
  refine Pl.H.done (by kernel_rfl) (fun A' hA' => ?_)
  rw [Pl.At.ext hA' (((((((hA.put 21 _).put 22 _).put 25 _).put 26 _).put 23 _).put 24 _).put 27 _)]
  exact hend (fun d => if d = 21 then .slice pa pl pc else if d = 22 then .slice (fromA pa pc 4) (pl - 4) (pc - 4) else if d = 25 then .slice pa pl pc else if d = 26 then .string (bstr xs) else if d = 23 then .slice ba (fourB (Ta.sum (xs.drop 4)) ++ xs.drop 4).length be else if d = 24 then .string (bstr xs) else undef) _ hS1

set_option maxHeartbeats 2000000 in
set_option maxRecDepth 100000 in
theorem rdt5b (w0 w : World) (pa : Option Addr) (pl pc : Nat) (xs : List Nat) (hc : Came w0 pa pl pc xs) (h4 : 4 ≤ pl) (hm : pl ≤ 100000) (hbx : Ta.Bytes (xs.drop 4)) (hne : ¬ (bstr (fourB (Ta.sum (xs.drop 4)) ++ xs.drop 4)).toList = (bstr xs).toList) (hW : Below w0.heap.size w0 w)
    {Q : Exit → Act → World → Prop} {A : Act} (hsz : A.tmps.size = 112) (hdf : A.defers = []) (s0 : A.tmps.getD 0 undef = .slice pa pl pc)
    (hend : ∀ (u : Nat → Value) w', Below w0.heap.size w0 w' → Q .normal ((((((((A).put (some 21) (u 21)).put (some 22) (u 22)).put (some 25) (u 25)).put (some 26) (u 26)).put (some 23) (u 23)).put (some 24) (u 24)).put (some 27) (.bool true)) w') :
    (Code.region 5 (Pl.find 5 ((Try.f18.body).getD .skip)) true).wp Try.prog Q A w := by
  have hS0 : Below w0.heap.size w0 w.drew := hW.drew
  have hA := Pl.At.same (v := .slice pa pl pc) (d := 0) (Pl.At.here hsz hdf) s0
  refine Pl.H.start (S := fun w' => Below w0.heap.size w0 w') (by kernel_rfl) hA hS0 ?_
  rw [show (Pl.find 5 ((Try.f18.body).getD .skip)).size = 7 by kernel_rfl]
  refine Pl.H.take 0 21 (.slice pa pl pc) (by kernel_rfl) (by kernel_rfl) (by kernel_rfl) (Pl.free 0 (by kernel_rfl)) (Pl.move 0 (.tmp 0) (by kernel_rfl) (by decide)) hS0 ?_
  refine Pl.H.take 1 22 (.slice (fromA pa pc 4) (pl - 4) (pc - 4)) (by kernel_rfl) (by kernel_rfl) (by kernel_rfl) (Pl.free 1 (by kernel_rfl)) (Pl.slice 1 26 (.tmp 21) (some (.const (.int .i64 4))) none _ (by kernel_rfl) (by decide) (by decide) (by decide) (fun w => slice_from pa pl pc 4 h4 w)) hS0 ?_
  refine Pl.H.take 4 25 (.slice pa pl pc) (by kernel_rfl) (by kernel_rfl) (by kernel_rfl) (Pl.free 4 (by kernel_rfl)) (Pl.move 4 (.tmp 0) (by kernel_rfl) (by decide)) hS0 ?_
  refine Pl.H.take 5 26 (.string (bstr xs)) (by kernel_rfl) (by kernel_rfl) (by kernel_rfl) (Pl.free 5 (by kernel_rfl)) (Pl.convV 5 26 9 (.tmp 25) (.slice pa pl pc) _ (by kernel_rfl) (by decide) rfl (fun w' hS => run_string_of pc (hc.bs.keep hS (Nat.le_refl _)))) hS0 ?_
  refine Pl.H.call 2 23 48 [(.tmp 22)] #[26] (by kernel_rfl) (by kernel_rfl) (by kernel_rfl) (Pl.free 2 (by kernel_rfl)) (by kernel_rfl) (by decide) enters48 (Calls.mono (rseal_any (fromA pa pc 4) (pl - 4) (pc - 4) (xs.drop 4) w.drew (cameT_from (cameT_keep hc hS0 (Nat.le_refl _)) h4).bs (cameT_from (cameT_keep hc hS0 (Nat.le_refl _)) h4).nil (by omega)) ?_)
  rintro e w1 ⟨v1, rfl, ho1, hb1⟩
  have hS1 : Below w0.heap.size w0 w1 := rBelowT hS0 hb1
  obtain ⟨ba, be, rfl, hbs1, _⟩ := ho1.bs (sealed_bytes hbx)
  refine ⟨.slice ba (fourB (Ta.sum (xs.drop 4)) ++ xs.drop 4).length be, rfl, hS1, ?_⟩
  refine Pl.H.make 3 24 (.string (bstr (fourB (Ta.sum (xs.drop 4)) ++ xs.drop 4))) w1 (by kernel_rfl) (by kernel_rfl) (by kernel_rfl) (Pl.free 3 (by kernel_rfl)) (Pl.conv1 3 26 9 (.tmp 23) _ (by kernel_rfl) (by decide) (run_string_of be hbs1)) hS1 ?_
  refine Pl.H.take 6 27 (.bool true) (by kernel_rfl) (by kernel_rfl) (by kernel_rfl) (Pl.free 6 (by kernel_rfl)) (Pl.binV 6 .neq 9 9 (.tmp 24) (.tmp 26) (.string (bstr (fourB (Ta.sum (xs.drop 4)) ++ xs.drop 4))) (.string (bstr xs)) _ (by kernel_rfl) (by decide) (by decide) rfl rfl (fun w => by simp [go_sem, eqGuard, hne])) hS1 ?_
  refine Pl.H.done (by kernel_rfl) (fun A' hA' => ?_)
  rw [Pl.At.ext hA' (((((((hA.put 21 _).put 22 _).put 25 _).put 26 _).put 23 _).put 24 _).put 27 _)]
  exact hend (fun d => if d = 21 then .slice pa pl pc else if d = 22 then .slice (fromA pa pc 4) (pl - 4) (pc - 4) else if d = 25 then .slice pa pl pc else if d = 26 then .string (bstr xs) else if d = 23 then .slice ba (fourB (Ta.sum (xs.drop 4)) ++ xs.drop 4).length be else if d = 24 then .string (bstr (fourB (Ta.sum (xs.drop 4)) ++ xs.drop 4)) else undef) _ hS1

set_option maxHeartbeats 2000000 in
set_option maxRecDepth 100000 in
theorem rdt15 (w0 w : World) (b off c2 : Nat) (y1 y2 y3 : It) (hx1 : ItAt w0 b (off + (1) * 4) y1) (hx2 : ItAt w0 b (off + (2) * 4) y2) (hx3 : ItAt w0 b (off + (3) * 4) y3) (hW : Below w0.heap.size w0 w)
    {Q : Exit → Act → World → Prop} {A : Act} (hsz : A.tmps.size = 112) (hdf : A.defers = []) (s6 : A.tmps.getD 6 undef = .slice (some ⟨b, off, none⟩) 52 c2)
    (hend : ∀ (u : Nat → Value) w' g, (Below w0.heap.size w0 w' ∧ TbBlk w' g (Tb.mk y1.n y2.n y3.n []) Sl.nil ∧ w0.heap.size ≤ g) → Q .normal (((((((((((((((A).put (some 48) (u 48)).put (some 49) (u 49)).put (some 50) (u 50)).put (some 51) (u 51)).put (some 52) (u 52)).put (some 53) (u 53)).put (some 54) (u 54)).put (some 55) (u 55)).put (some 56) (u 56)).put (some 57) (u 57)).put (some 58) (u 58)).put (some 59) (u 59)).put (some 60) (u 60)).put (some 9) (.pointer (some ⟨g, 0, none⟩))) w') :
    (Code.region 15 (Pl.find 15 ((Try.f18.body).getD .skip)) true).wp Try.prog Q A w := by
  have hS0 : Below w0.heap.size w0 w.drew := hW.drew
  have hA := Pl.At.same (v := .slice (some ⟨b, off, none⟩) 52 c2) (d := 6) (Pl.At.here hsz hdf) s6
  refine Pl.H.start (S := fun w' => Below w0.heap.size w0 w') (by kernel_rfl) hA hS0 ?_
  rw [show (Pl.find 15 ((Try.f18.body).getD .skip)).size = 15 by kernel_rfl]
  refine Pl.H.take 0 48 (.slice (some ⟨b, off, none⟩) 52 c2) (by kernel_rfl) (by kernel_rfl) (by kernel_rfl) (Pl.free 0 (by kernel_rfl)) (Pl.move 0 (.tmp 6) (by kernel_rfl) (by decide)) hS0 ?_
  refine Pl.H.take 1 49 (.pointer (some ⟨b, off + (1) * 4, none⟩)) (by kernel_rfl) (by kernel_rfl) (by kernel_rfl) (Pl.free 1 (by kernel_rfl)) (Pl.index 1 54 (.tmp 48) (.const (.int .i64 1)) _ (by kernel_rfl) (by decide) (by decide) (index_item b off 52 c2 (1) (by omega))) hS0 ?_
  refine Pl.H.take 2 50 (.pointer (some ⟨b, off + (1) * 4 + 1, none⟩)) (by kernel_rfl) (by kernel_rfl) (by kernel_rfl) (Pl.free 2 (by kernel_rfl)) (Pl.field 2 67 (.tmp 49) 1 _ (by kernel_rfl) (by decide) (fdIt1 b (off + (1) * 4))) hS0 ?_
  refine Pl.H.take 3 51 (.int .i64 y1.n) (by kernel_rfl) (by kernel_rfl) (by kernel_rfl) (Pl.free 3 (by kernel_rfl)) (Pl.load 3 3 (.tmp 50) _ (by kernel_rfl) (by decide) (fun w' hS => ldInt b (off + (1) * 4 + 1) y1.n w' ((hS.cell (p := ⟨b, off + (1) * 4 + 1, none⟩) (World.block_lt_of_cell? w0 _ hx1.2.1)).trans hx1.2.1))) hS0 ?_
  refine Pl.H.take 4 52 (.slice (some ⟨b, off, none⟩) 52 c2) (by kernel_rfl) (by kernel_rfl) (by kernel_rfl) (Pl.free 4 (by kernel_rfl)) (Pl.move 4 (.tmp 6) (by kernel_rfl) (by decide)) hS0 ?_
  refine Pl.H.take 5 53 (.pointer (some ⟨b, off + (2) * 4, none⟩)) (by kernel_rfl) (by kernel_rfl) (by kernel_rfl) (Pl.free 5 (by kernel_rfl)) (Pl.index 5 54 (.tmp 52) (.const (.int .i64 2)) _ (by kernel_rfl) (by decide) (by decide) (index_item b off 52 c2 (2) (by omega))) hS0 ?_
  refine Pl.H.take 6 54 (.pointer (some ⟨b, off + (2) * 4 + 1, none⟩)) (by kernel_rfl) (by kernel_rfl) (by kernel_rfl) (Pl.free 6 (by kernel_rfl)) (Pl.field 6 67 (.tmp 53) 1 _ (by kernel_rfl) (by decide) (fdIt1 b (off + (2) * 4))) hS0 ?_
  refine Pl.H.take 7 55 (.int .i64 y2.n) (by kernel_rfl) (by kernel_rfl) (by kernel_rfl) (Pl.free 7 (by kernel_rfl)) (Pl.load 7 3 (.tmp 54) _ (by kernel_rfl) (by decide) (fun w' hS => ldInt b (off + (2) * 4 + 1) y2.n w' ((hS.cell (p := ⟨b, off + (2) * 4 + 1, none⟩) (World.block_lt_of_cell? w0 _ hx2.2.1)).trans hx2.2.1))) hS0 ?_
  refine Pl.H.take 8 56 (.slice (some ⟨b, off, none⟩) 52 c2) (by kernel_rfl) (by kernel_rfl) (by kernel_rfl) (Pl.free 8 (by kernel_rfl)) (Pl.move 8 (.tmp 6) (by kernel_rfl) (by decide)) hS0 ?_
  refine Pl.H.take 9 57 (.pointer (some ⟨b, off + (3) * 4, none⟩)) (by kernel_rfl) (by kernel_rfl) (by kernel_rfl) (Pl.free 9 (by kernel_rfl)) (Pl.index 9 54 (.tmp 56) (.const (.int .i64 3)) _ (by kernel_rfl) (by decide) (by decide) (index_item b off 52 c2 (3) (by omega))) hS0 ?_
  refine Pl.H.take 10 58 (.pointer (some ⟨b, off + (3) * 4 + 1, none⟩)) (by kernel_rfl) (by kernel_rfl) (by kernel_rfl) (Pl.free 10 (by kernel_rfl)) (Pl.field 10 67 (.tmp 57) 1 _ (by kernel_rfl) (by decide) (fdIt1 b (off + (3) * 4))) hS0 ?_
  refine Pl.H.take 11 59 (.int .i64 y3.n) (by kernel_rfl) (by kernel_rfl) (by kernel_rfl) (Pl.free 11 (by kernel_rfl)) (Pl.load 11 3 (.tmp 58) _ (by kernel_rfl) (by decide) (fun w' hS => ldInt b (off + (3) * 4 + 1) y3.n w' ((hS.cell (p := ⟨b, off + (3) * 4 + 1, none⟩) (World.block_lt_of_cell? w0 _ hx3.2.1)).trans hx3.2.1))) hS0 ?_
  refine Pl.H.take 12 60 ((Tb.mk y1.n y2.n y3.n []).val Sl.nil) (by kernel_rfl) (by kernel_rfl) (by kernel_rfl) (Pl.free 12 (by kernel_rfl)) (Pl.buildV 12 24 [(0, .tmp 51), (1, .tmp 55), (2, .tmp 59)] _ (by kernel_rfl) (by decide) (fun w => buildTb y1.n y2.n y3.n w)) hS0 ?_
  have hSa : Below w0.heap.size w0 (w.drew.alloc (.cells #[.int .i64 0, .int .i64 0, .int .i64 0, .slice none 0 0] 24)) := hS0.alloc hS0.size _
  have hz0 : TbBlk (w.drew.alloc (.cells #[.int .i64 0, .int .i64 0, .int .i64 0, .slice none 0 0] 24)) w.drew.heap.size Tb.zero Sl.nil := TbBlk.new w.drew Tb.zero Sl.nil
  refine Pl.H.make 13 9 (.pointer (some ⟨w.drew.heap.size, 0, none⟩)) (w.drew.alloc (.cells #[.int .i64 0, .int .i64 0, .int .i64 0, .slice none 0 0] 24)) (by kernel_rfl) (by kernel_rfl) (by kernel_rfl) (Pl.free 13 (by kernel_rfl)) (Pl.allocV 13 24 _ _ (by kernel_rfl) (allocTb w.drew)) hSa ?_
  obtain ⟨W2, hst2, hbk2, hfr2, hsz2⟩ := hz0.store (Tb.mk y1.n y2.n y3.n []) Sl.nil
  have hS2 : Below w0.heap.size w0 W2 := hSa.trans (hfr2.below hSa.size (fun k hk => by rw [hk]; exact hS0.size))
  refine Pl.H.store 14 W2 (by kernel_rfl) (by kernel_rfl) (by kernel_rfl) (Pl.free 14 (by kernel_rfl)) (Pl.storeV 14 24 (.tmp 9) (.tmp 60) _ (by kernel_rfl) (by decide) (by decide) hst2) hS2 ?_
  refine Pl.H.done (by kernel_rfl) (fun A' hA' => ?_)
  rw [Pl.At.ext hA' ((((((((((((((hA.put 48 _).put 49 _).put 50 _).put 51 _).put 52 _).put 53 _).put 54 _).put 55 _).put 56 _).put 57 _).put 58 _).put 59 _).put 60 _).put 9 _)]
  exact hend (fun d => if d = 48 then .slice (some ⟨b, off, none⟩) 52 c2 else if d = 49 then .pointer (some ⟨b, off + (1) * 4, none⟩) else if d = 50 then .pointer (some ⟨b, off + (1) * 4 + 1, none⟩) else if d = 51 then .int .i64 y1.n else if d = 52 then .slice (some ⟨b, off, none⟩) 52 c2 else if d = 53 then .pointer (some ⟨b, off + (2) * 4, none⟩) else if d = 54 then .pointer (some ⟨b, off + (2) * 4 + 1, none⟩) else if d = 55 then .int .i64 y2.n else if d = 56 then .slice (some ⟨b, off, none⟩) 52 c2 else if d = 57 then .pointer (some ⟨b, off + (3) * 4, none⟩) else if d = 58 then .pointer (some ⟨b, off + (3) * 4 + 1, none⟩) else if d = 59 then .int .i64 y3.n else if d = 60 then (Tb.mk y1.n y2.n y3.n []).val Sl.nil else undef) _ w.drew.heap.size ⟨hS2, hbk2, hS0.size⟩

set_option maxHeartbeats 2000000 in
set_option maxRecDepth 100000 in
theorem rdt19 (w : World) (b off c2 g i : Nat) (t : Tb) (v : Sl) (y0 y1 y2 y3 : It) (hi : i < 12) (hy0 : ItAt w b (off + (4 + 4 * i) * 4) y0) (hy1 : ItAt w b (off + (5 + 4 * i) * 4) y1) (hy2 : ItAt w b (off + (6 + 4 * i) * 4) y2) (hy3 : ItAt w b (off + (7 + 4 * i) * 4) y3) (hT : TbBlk w g t v) (hO : OwnE w v t.es) (hng : ¬ v.blk = some g) (hnb : ¬ (b = g ∨ v.blk = some b)) (hroom : v.len + 1 ≤ 1000000)
    {Q : Exit → Act → World → Prop} {A : Act} (hsz : A.tmps.size = 112) (hdf : A.defers = []) (s6 : A.tmps.getD 6 undef = .slice (some ⟨b, off, none⟩) 52 c2) (s9 : A.tmps.getD 9 undef = .pointer (some ⟨g, 0, none⟩)) (s10 : A.tmps.getD 10 undef = .int .i64 ((i : Nat) : Int))
    (hend : ∀ (u : Nat → Value) w' v', (TbBlk w' g { t with es := t.es ++ [(En.mk y1.n y0.n y2.n y3.n)] } v' ∧ OwnE w' v' (t.es ++ [(En.mk y1.n y0.n y2.n y3.n)]) ∧ Frm (fun k => k = g ∨ v.blk = some k) w w' ∧ (v'.blk = v.blk ∨ ∃ k, v'.blk = some k ∧ w.heap.size ≤ k)) → Q .normal (((((((((((((((((((((((((((((((((((A).put (some 65) (u 65)).put (some 67) (u 67)).put (some 68) (u 68)).put (some 69) (u 69)).put (some 70) (u 70)).put (some 71) (u 71)).put (some 72) (u 72)).put (some 73) (u 73)).put (some 74) (u 74)).put (some 75) (u 75)).put (some 76) (u 76)).put (some 77) (u 77)).put (some 78) (u 78)).put (some 79) (u 79)).put (some 80) (u 80)).put (some 81) (u 81)).put (some 82) (u 82)).put (some 83) (u 83)).put (some 84) (u 84)).put (some 85) (u 85)).put (some 86) (u 86)).put (some 87) (u 87)).put (some 88) (u 88)).put (some 89) (u 89)).put (some 90) (u 90)).put (some 91) (u 91)).put (some 92) (u 92)).put (some 93) (u 93)).put (some 94) (u 94)).put (some 95) (u 95)).put (some 66) (u 66)).put (some 96) (u 96)).put (some 97) (u 97)).put (some 98) (u 98)) w') :
    (Code.region 19 (Pl.find 19 ((Try.f18.body).getD .skip)) true).wp Try.prog Q A w := by
  have hS0 : Frm (fun k => k = g ∨ v.blk = some k) w w.drew := Frm.ofBelow (below_drew w)
  have hT0 : TbBlk w.drew g t v := hT.keep (below_drew w)
  have hO0 : OwnE w.drew v t.es := hO.keep (below_drew w)
  have hA := Pl.At.same (v := .int .i64 ((i : Nat) : Int)) (d := 10) (Pl.At.same (v := .pointer (some ⟨g, 0, none⟩)) (d := 9) (Pl.At.same (v := .slice (some ⟨b, off, none⟩) 52 c2) (d := 6) (Pl.At.here hsz hdf) s6) s9) s10
  refine Pl.H.start (S := fun w' => Frm (fun k => k = g ∨ v.blk = some k) w w') (by kernel_rfl) hA hS0 ?_
  rw [show (Pl.find 19 ((Try.f18.body).getD .skip)).size = 35 by kernel_rfl]
  refine Pl.H.take 0 65 (.pointer (some ⟨g, 3, none⟩)) (by kernel_rfl) (by kernel_rfl) (by kernel_rfl) (Pl.free 0 (by kernel_rfl)) (Pl.field 0 24 (.tmp 9) 3 _ (by kernel_rfl) (by decide) (fdTb3 g)) hS0 ?_
  refine Pl.H.take 2 67 (.slice (some ⟨b, off, none⟩) 52 c2) (by kernel_rfl) (by kernel_rfl) (by kernel_rfl) (Pl.free 2 (by kernel_rfl)) (Pl.move 2 (.tmp 6) (by kernel_rfl) (by decide)) hS0 ?_
  refine Pl.H.take 3 68 (.int .i64 ((i : Nat) : Int)) (by kernel_rfl) (by kernel_rfl) (by kernel_rfl) (Pl.free 3 (by kernel_rfl)) (Pl.move 3 (.tmp 10) (by kernel_rfl) (by decide)) hS0 ?_
  refine Pl.H.take 4 69 (.int .i64 ((4 * i : Nat) : Int)) (by kernel_rfl) (by kernel_rfl) (by kernel_rfl) (Pl.free 4 (by kernel_rfl)) (Pl.binV 4 .mul 3 3 (.const (.int .i64 4)) (.tmp 68) (.int .i64 4) (.int .i64 ((i : Nat) : Int)) _ (by kernel_rfl) (by decide) (by decide) rfl rfl (fun w => mulT4 i hi _ _ w)) hS0 ?_
  refine Pl.H.take 5 70 (.int .i64 ((4 + 4 * i : Nat) : Int)) (by kernel_rfl) (by kernel_rfl) (by kernel_rfl) (Pl.free 5 (by kernel_rfl)) (Pl.binV 5 .add 3 3 (.const (.int .i64 4)) (.tmp 69) (.int .i64 4) (.int .i64 ((4 * i : Nat) : Int)) _ (by kernel_rfl) (by decide) (by decide) rfl rfl (fun w => addT4 4 i (by decide) hi _ _ w)) hS0 ?_
  refine Pl.H.take 6 71 (.pointer (some ⟨b, off + (4 + 4 * i) * 4, none⟩)) (by kernel_rfl) (by kernel_rfl) (by kernel_rfl) (Pl.free 6 (by kernel_rfl)) (Pl.index 6 54 (.tmp 67) (.tmp 70) _ (by kernel_rfl) (by decide) (by decide) (index_item b off 52 c2 (4 + 4 * i) (by omega))) hS0 ?_
  refine Pl.H.take 7 72 (.pointer (some ⟨b, off + (4 + 4 * i) * 4 + 1, none⟩)) (by kernel_rfl) (by kernel_rfl) (by kernel_rfl) (Pl.free 7 (by kernel_rfl)) (Pl.field 7 67 (.tmp 71) 1 _ (by kernel_rfl) (by decide) (fdIt1 b (off + (4 + 4 * i) * 4))) hS0 ?_
  refine Pl.H.take 8 73 (.int .i64 y0.n) (by kernel_rfl) (by kernel_rfl) (by kernel_rfl) (Pl.free 8 (by kernel_rfl)) (Pl.load 8 3 (.tmp 72) _ (by kernel_rfl) (by decide) (fun w' hS => ldInt b (off + (4 + 4 * i) * 4 + 1) y0.n w' ((hS.cellT (p := ⟨b, off + (4 + 4 * i) * 4 + 1, none⟩) (World.block_lt_of_cell? w _ hy0.2.1) hnb).trans hy0.2.1))) hS0 ?_
  refine Pl.H.take 9 74 (.slice (some ⟨b, off, none⟩) 52 c2) (by kernel_rfl) (by kernel_rfl) (by kernel_rfl) (Pl.free 9 (by kernel_rfl)) (Pl.move 9 (.tmp 6) (by kernel_rfl) (by decide)) hS0 ?_
  refine Pl.H.take 10 75 (.int .i64 ((i : Nat) : Int)) (by kernel_rfl) (by kernel_rfl) (by kernel_rfl) (Pl.free 10 (by kernel_rfl)) (Pl.move 10 (.tmp 10) (by kernel_rfl) (by decide)) hS0 ?_
  refine Pl.H.take 11 76 (.int .i64 ((4 * i : Nat) : Int)) (by kernel_rfl) (by kernel_rfl) (by kernel_rfl) (Pl.free 11 (by kernel_rfl)) (Pl.binV 11 .mul 3 3 (.const (.int .i64 4)) (.tmp 75) (.int .i64 4) (.int .i64 ((i : Nat) : Int)) _ (by kernel_rfl) (by decide) (by decide) rfl rfl (fun w => mulT4 i hi _ _ w)) hS0 ?_
  refine Pl.H.take 12 77 (.int .i64 ((5 + 4 * i : Nat) : Int)) (by kernel_rfl) (by kernel_rfl) (by kernel_rfl) (Pl.free 12 (by kernel_rfl)) (Pl.binV 12 .add 3 3 (.const (.int .i64 5)) (.tmp 76) (.int .i64 5) (.int .i64 ((4 * i : Nat) : Int)) _ (by kernel_rfl) (by decide) (by decide) rfl rfl (fun w => addT4 5 i (by decide) hi _ _ w)) hS0 ?_
  refine Pl.H.take 13 78 (.pointer (some ⟨b, off + (5 + 4 * i) * 4, none⟩)) (by kernel_rfl) (by kernel_rfl) (by kernel_rfl) (Pl.free 13 (by kernel_rfl)) (Pl.index 13 54 (.tmp 74) (.tmp 77) _ (by kernel_rfl) (by decide) (by decide) (index_item b off 52 c2 (5 + 4 * i) (by omega))) hS0 ?_
  refine Pl.H.take 14 79 (.pointer (some ⟨b, off + (5 + 4 * i) * 4 + 1, none⟩)) (by kernel_rfl) (by kernel_rfl) (by kernel_rfl) (Pl.free 14 (by kernel_rfl)) (Pl.field 14 67 (.tmp 78) 1 _ (by kernel_rfl) (by decide) (fdIt1 b (off + (5 + 4 * i) * 4))) hS0 ?_
  refine Pl.H.take 15 80 (.int .i64 y1.n) (by kernel_rfl) (by kernel_rfl) (by kernel_rfl) (Pl.free 15 (by kernel_rfl)) (Pl.load 15 3 (.tmp 79) _ (by kernel_rfl) (by decide) (fun w' hS => ldInt b (off + (5 + 4 * i) * 4 + 1) y1.n w' ((hS.cellT (p := ⟨b, off + (5 + 4 * i) * 4 + 1, none⟩) (World.block_lt_of_cell? w _ hy1.2.1) hnb).trans hy1.2.1))) hS0 ?_
  refine Pl.H.take 16 81 (.slice (some ⟨b, off, none⟩) 52 c2) (by kernel_rfl) (by kernel_rfl) (by kernel_rfl) (Pl.free 16 (by kernel_rfl)) (Pl.move 16 (.tmp 6) (by kernel_rfl) (by decide)) hS0 ?_
  refine Pl.H.take 17 82 (.int .i64 ((i : Nat) : Int)) (by kernel_rfl) (by kernel_rfl) (by kernel_rfl) (Pl.free 17 (by kernel_rfl)) (Pl.move 17 (.tmp 10) (by kernel_rfl) (by decide)) hS0 ?_
  refine Pl.H.take 18 83 (.int .i64 ((4 * i : Nat) : Int)) (by kernel_rfl) (by kernel_rfl) (by kernel_rfl) (Pl.free 18 (by kernel_rfl)) (Pl.binV 18 .mul 3 3 (.const (.int .i64 4)) (.tmp 82) (.int .i64 4) (.int .i64 ((i : Nat) : Int)) _ (by kernel_rfl) (by decide) (by decide) rfl rfl (fun w => mulT4 i hi _ _ w)) hS0 ?_
  refine Pl.H.take 19 84 (.int .i64 ((6 + 4 * i : Nat) : Int)) (by kernel_rfl) (by kernel_rfl) (by kernel_rfl) (Pl.free 19 (by kernel_rfl)) (Pl.binV 19 .add 3 3 (.const (.int .i64 6)) (.tmp 83) (.int .i64 6) (.int .i64 ((4 * i : Nat) : Int)) _ (by kernel_rfl) (by decide) (by decide) rfl rfl (fun w => addT4 6 i (by decide) hi _ _ w)) hS0 ?_
  refine Pl.H.take 20 85 (.pointer (some ⟨b, off + (6 + 4 * i) * 4, none⟩)) (by kernel_rfl) (by kernel_rfl) (by kernel_rfl) (Pl.free 20 (by kernel_rfl)) (Pl.index 20 54 (.tmp 81) (.tmp 84) _ (by kernel_rfl) (by decide) (by decide) (index_item b off 52 c2 (6 + 4 * i) (by omega))) hS0 ?_
  refine Pl.H.take 21 86 (.pointer (some ⟨b, off + (6 + 4 * i) * 4 + 1, none⟩)) (by kernel_rfl) (by kernel_rfl) (by kernel_rfl) (Pl.free 21 (by kernel_rfl)) (Pl.field 21 67 (.tmp 85) 1 _ (by kernel_rfl) (by decide) (fdIt1 b (off + (6 + 4 * i) * 4))) hS0 ?_
  refine Pl.H.take 22 87 (.int .i64 y2.n) (by kernel_rfl) (by kernel_rfl) (by kernel_rfl) (Pl.free 22 (by kernel_rfl)) (Pl.load 22 3 (.tmp 86) _ (by kernel_rfl) (by decide) (fun w' hS => ldInt b (off + (6 + 4 * i) * 4 + 1) y2.n w' ((hS.cellT (p := ⟨b, off + (6 + 4 * i) * 4 + 1, none⟩) (World.block_lt_of_cell? w _ hy2.2.1) hnb).trans hy2.2.1))) hS0 ?_
  refine Pl.H.take 23 88 (.slice (some ⟨b, off, none⟩) 52 c2) (by kernel_rfl) (by kernel_rfl) (by kernel_rfl) (Pl.free 23 (by kernel_rfl)) (Pl.move 23 (.tmp 6) (by kernel_rfl) (by decide)) hS0 ?_
  refine Pl.H.take 24 89 (.int .i64 ((i : Nat) : Int)) (by kernel_rfl) (by kernel_rfl) (by kernel_rfl) (Pl.free 24 (by kernel_rfl)) (Pl.move 24 (.tmp 10) (by kernel_rfl) (by decide)) hS0 ?_
  refine Pl.H.take 25 90 (.int .i64 ((4 * i : Nat) : Int)) (by kernel_rfl) (by kernel_rfl) (by kernel_rfl) (Pl.free 25 (by kernel_rfl)) (Pl.binV 25 .mul 3 3 (.const (.int .i64 4)) (.tmp 89) (.int .i64 4) (.int .i64 ((i : Nat) : Int)) _ (by kernel_rfl) (by decide) (by decide) rfl rfl (fun w => mulT4 i hi _ _ w)) hS0 ?_
  refine Pl.H.take 26 91 (.int .i64 ((7 + 4 * i : Nat) : Int)) (by kernel_rfl) (by kernel_rfl) (by kernel_rfl) (Pl.free 26 (by kernel_rfl)) (Pl.binV 26 .add 3 3 (.const (.int .i64 7)) (.tmp 90) (.int .i64 7) (.int .i64 ((4 * i : Nat) : Int)) _ (by kernel_rfl) (by decide) (by decide) rfl rfl (fun w => addT4 7 i (by decide) hi _ _ w)) hS0 ?_
  refine Pl.H.take 27 92 (.pointer (some ⟨b, off + (7 + 4 * i) * 4, none⟩)) (by kernel_rfl) (by kernel_rfl) (by kernel_rfl) (Pl.free 27 (by kernel_rfl)) (Pl.index 27 54 (.tmp 88) (.tmp 91) _ (by kernel_rfl) (by decide) (by decide) (index_item b off 52 c2 (7 + 4 * i) (by omega))) hS0 ?_
  refine Pl.H.take 28 93 (.pointer (some ⟨b, off + (7 + 4 * i) * 4 + 1, none⟩)) (by kernel_rfl) (by kernel_rfl) (by kernel_rfl) (Pl.free 28 (by kernel_rfl)) (Pl.field 28 67 (.tmp 92) 1 _ (by kernel_rfl) (by decide) (fdIt1 b (off + (7 + 4 * i) * 4))) hS0 ?_
  refine Pl.H.take 29 94 (.int .i64 y3.n) (by kernel_rfl) (by kernel_rfl) (by kernel_rfl) (Pl.free 29 (by kernel_rfl)) (Pl.load 29 3 (.tmp 93) _ (by kernel_rfl) (by decide) (fun w' hS => ldInt b (off + (7 + 4 * i) * 4 + 1) y3.n w' ((hS.cellT (p := ⟨b, off + (7 + 4 * i) * 4 + 1, none⟩) (World.block_lt_of_cell? w _ hy3.2.1) hnb).trans hy3.2.1))) hS0 ?_
  refine Pl.H.take 30 95 ((En.mk y1.n y0.n y2.n y3.n).val) (by kernel_rfl) (by kernel_rfl) (by kernel_rfl) (Pl.free 30 (by kernel_rfl)) (Pl.buildV 30 58 [(1, .tmp 73), (0, .tmp 80), (2, .tmp 87), (3, .tmp 94)] _ (by kernel_rfl) (by decide) (fun w => buildEn y0.n y1.n y2.n y3.n w)) hS0 ?_
  refine Pl.H.two 1 31 (by kernel_rfl) ?_ ?_
  · refine Pl.HOp.value 1 66 (.slice v.a v.len v.cap) w.drew (by kernel_rfl) (by kernel_rfl) (by kernel_rfl) (Pl.load1 1 22 (.tmp 65) _ (by kernel_rfl) (by decide) (ldEs g 3 _ _ _ w.drew hT0.c3)) hS0 ?_
    have hba : Below w.drew.heap.size w.drew (w.drew.alloc (.cells #[.int .i64 y1.n, .int .i64 y0.n, .int .i64 y2.n, .int .i64 y3.n] 58)) := below_alloc w.drew _
    have hS1 : Frm (fun k => k = g ∨ v.blk = some k) w (w.drew.alloc (.cells #[.int .i64 y1.n, .int .i64 y0.n, .int .i64 y2.n, .int .i64 y3.n] 58)) := hS0.trans (G := fun _ => False) (Frm.ofBelow hba) (fun _ _ h => h.elim)
    have hT1 : TbBlk (w.drew.alloc (.cells #[.int .i64 y1.n, .int .i64 y0.n, .int .i64 y2.n, .int .i64 y3.n] 58)) g t v := hT0.keep hba
    have hO1 : OwnE (w.drew.alloc (.cells #[.int .i64 y1.n, .int .i64 y0.n, .int .i64 y2.n, .int .i64 y3.n] 58)) v t.es := hO0.keep hba
    have hU1 : OwnE (w.drew.alloc (.cells #[.int .i64 y1.n, .int .i64 y0.n, .int .i64 y2.n, .int .i64 y3.n] 58)) ⟨some ⟨w.drew.heap.size, 0, none⟩, 1, 1⟩ [(En.mk y1.n y0.n y2.n y3.n)] := own_oneE w.drew (En.mk y1.n y0.n y2.n y3.n)
    refine Pl.H.make 31 96 (.slice (some ⟨w.drew.heap.size, 0, none⟩) 1 1) (w.drew.alloc (.cells #[.int .i64 y1.n, .int .i64 y0.n, .int .i64 y2.n, .int .i64 y3.n] 58)) (by kernel_rfl) (by kernel_rfl) (by kernel_rfl) (Pl.free 31 (by kernel_rfl)) (Pl.bsV 31 22 1 [(0, .tmp 95)] _ _ (by kernel_rfl) (by decide) (bsEn (En.mk y1.n y0.n y2.n y3.n) w.drew)) hS1 ?_
    obtain ⟨v2, W2, hrun2, hO2, hl2, hfr2, hbk2⟩ := hO1.app hU1.es hroom
    have hS2 : Frm (fun k => k = g ∨ v.blk = some k) w W2 := hS1.trans hfr2 (fun k _ hk => .inr hk)
    have hT2 : TbBlk W2 g t v := hT1.other hfr2 hng
    refine Pl.H.make 32 97 (.slice v2.a v2.len v2.cap) W2 (by kernel_rfl) (by kernel_rfl) (by kernel_rfl) (Pl.free 32 (by kernel_rfl)) (Pl.appV 32 22 22 (.tmp 66) (.tmp 96) _ _ (by kernel_rfl) (by decide) (by decide) hrun2) hS2 ?_
    refine Pl.H.take 33 98 (.pointer (some ⟨g, 3, none⟩)) (by kernel_rfl) (by kernel_rfl) (by kernel_rfl) (Pl.free 33 (by kernel_rfl)) (Pl.field 33 24 (.tmp 9) 3 _ (by kernel_rfl) (by decide) (fdTb3 g)) hS2 ?_
    obtain ⟨W3, hst3, hT3, hfr3, hsz3⟩ := hT2.st3 v2 (t.es ++ [(En.mk y1.n y0.n y2.n y3.n)])
    have hS3 : Frm (fun k => k = g ∨ v.blk = some k) w W3 := hS2.trans hfr3 (fun k _ hk => .inl hk)
    have hnew : v2.blk = v.blk ∨ ∃ k, v2.blk = some k ∧ w.heap.size ≤ k := hbk2.elim (fun h => .inl h) (fun h => .inr ⟨_, h.1, hS1.size⟩)
    have hO3 : OwnE W3 v2 (t.es ++ [(En.mk y1.n y0.n y2.n y3.n)]) := hO2.other hfr3 (fun k hk e => by
    rcases hnew with h | ⟨j, h, hj⟩
    · exact hng (by rw [← h, hk, e])
    · rw [h] at hk
      have hjk := Option.some.inj hk
      have := hT.lt
      omega)
    refine Pl.H.store 34 W3 (by kernel_rfl) (by kernel_rfl) (by kernel_rfl) (Pl.free 34 (by kernel_rfl)) (Pl.storeV 34 22 (.tmp 98) (.tmp 97) _ (by kernel_rfl) (by decide) (by decide) hst3) hS3 ?_
    refine Pl.H.done (by kernel_rfl) (fun A' hA' => ?_)
    rw [Pl.At.ext hA' ((((((((((((((((((((((((((((((((((hA.put 65 _).put 67 _).put 68 _).put 69 _).put 70 _).put 71 _).put 72 _).put 73 _).put 74 _).put 75 _).put 76 _).put 77 _).put 78 _).put 79 _).put 80 _).put 81 _).put 82 _).put 83 _).put 84 _).put 85 _).put 86 _).put 87 _).put 88 _).put 89 _).put 90 _).put 91 _).put 92 _).put 93 _).put 94 _).put 95 _).put 66 _).put 96 _).put 97 _).put 98 _)]
    exact hend (fun d => if d = 65 then .pointer (some ⟨g, 3, none⟩) else if d = 67 then .slice (some ⟨b, off, none⟩) 52 c2 else if d = 68 then .int .i64 ((i : Nat) : Int) else if d = 69 then .int .i64 ((4 * i : Nat) : Int) else if d = 70 then .int .i64 ((4 + 4 * i : Nat) : Int) else if d = 71 then .pointer (some ⟨b, off + (4 + 4 * i) * 4, none⟩) else if d = 72 then .pointer (some ⟨b, off + (4 + 4 * i) * 4 + 1, none⟩) else if d = 73 then .int .i64 y0.n else if d = 74 then .slice (some ⟨b, off, none⟩) 52 c2 else if d = 75 then .int .i64 ((i : Nat) : Int) else if d = 76 then .int .i64 ((4 * i : Nat) : Int) else if d = 77 then .int .i64 ((5 + 4 * i : Nat) : Int) else if d = 78 then .pointer (some ⟨b, off + (5 + 4 * i) * 4, none⟩) else if d = 79 then .pointer (some ⟨b, off + (5 + 4 * i) * 4 + 1, none⟩) else if d = 80 then .int .i64 y1.n else if d = 81 then .slice (some ⟨b, off, none⟩) 52 c2 else if d = 82 then .int .i64 ((i : Nat) : Int) else if d = 83 then .int .i64 ((4 * i : Nat) : Int) else if d = 84 then .int .i64 ((6 + 4 * i : Nat) : Int) else if d = 85 then .pointer (some ⟨b, off + (6 + 4 * i) * 4, none⟩) else if d = 86 then .pointer (some ⟨b, off + (6 + 4 * i) * 4 + 1, none⟩) else if d = 87 then .int .i64 y2.n else if d = 88 then .slice (some ⟨b, off, none⟩) 52 c2 else if d = 89 then .int .i64 ((i : Nat) : Int) else if d = 90 then .int .i64 ((4 * i : Nat) : Int) else if d = 91 then .int .i64 ((7 + 4 * i : Nat) : Int) else if d = 92 then .pointer (some ⟨b, off + (7 + 4 * i) * 4, none⟩) else if d = 93 then .pointer (some ⟨b, off + (7 + 4 * i) * 4 + 1, none⟩) else if d = 94 then .int .i64 y3.n else if d = 95 then (En.mk y1.n y0.n y2.n y3.n).val else if d = 66 then .slice v.a v.len v.cap else if d = 96 then .slice (some ⟨w.drew.heap.size, 0, none⟩) 1 1 else if d = 97 then .slice v2.a v2.len v2.cap else if d = 98 then .pointer (some ⟨g, 3, none⟩) else undef) _ v2 ⟨hT3, hO3, hS3, hnew⟩
  · have hba : Below w.drew.heap.size w.drew (w.drew.alloc (.cells #[.int .i64 y1.n, .int .i64 y0.n, .int .i64 y2.n, .int .i64 y3.n] 58)) := below_alloc w.drew _
    have hS1 : Frm (fun k => k = g ∨ v.blk = some k) w (w.drew.alloc (.cells #[.int .i64 y1.n, .int .i64 y0.n, .int .i64 y2.n, .int .i64 y3.n] 58)) := hS0.trans (G := fun _ => False) (Frm.ofBelow hba) (fun _ _ h => h.elim)
    have hT1 : TbBlk (w.drew.alloc (.cells #[.int .i64 y1.n, .int .i64 y0.n, .int .i64 y2.n, .int .i64 y3.n] 58)) g t v := hT0.keep hba
    have hO1 : OwnE (w.drew.alloc (.cells #[.int .i64 y1.n, .int .i64 y0.n, .int .i64 y2.n, .int .i64 y3.n] 58)) v t.es := hO0.keep hba
    have hU1 : OwnE (w.drew.alloc (.cells #[.int .i64 y1.n, .int .i64 y0.n, .int .i64 y2.n, .int .i64 y3.n] 58)) ⟨some ⟨w.drew.heap.size, 0, none⟩, 1, 1⟩ [(En.mk y1.n y0.n y2.n y3.n)] := own_oneE w.drew (En.mk y1.n y0.n y2.n y3.n)
    refine Pl.HOp.value 31 96 (.slice (some ⟨w.drew.heap.size, 0, none⟩) 1 1) (w.drew.alloc (.cells #[.int .i64 y1.n, .int .i64 y0.n, .int .i64 y2.n, .int .i64 y3.n] 58)) (by kernel_rfl) (by kernel_rfl) (by kernel_rfl) (Pl.bsV 31 22 1 [(0, .tmp 95)] _ _ (by kernel_rfl) (by decide) (bsEn (En.mk y1.n y0.n y2.n y3.n) w.drew)) hS1 ?_
    refine Pl.H.solo 1 66 (.slice v.a v.len v.cap) (by kernel_rfl) (by kernel_rfl) (by kernel_rfl) (Pl.free 1 (by kernel_rfl)) (Pl.load1 1 22 (.tmp 65) _ (by kernel_rfl) (by decide) (ldEs g 3 _ _ _ ((w.drew.alloc (.cells #[.int .i64 y1.n, .int .i64 y0.n, .int .i64 y2.n, .int .i64 y3.n] 58))) hT1.c3)) hS1 ?_
    rw [Pl.upd_comm _ 96 66 _ _ (by decide)]
    obtain ⟨v2, W2, hrun2, hO2, hl2, hfr2, hbk2⟩ := hO1.app hU1.es hroom
    have hS2 : Frm (fun k => k = g ∨ v.blk = some k) w W2 := hS1.trans hfr2 (fun k _ hk => .inr hk)
    have hT2 : TbBlk W2 g t v := hT1.other hfr2 hng
    refine Pl.H.make 32 97 (.slice v2.a v2.len v2.cap) W2 (by kernel_rfl) (by kernel_rfl) (by kernel_rfl) (Pl.free 32 (by kernel_rfl)) (Pl.appV 32 22 22 (.tmp 66) (.tmp 96) _ _ (by kernel_rfl) (by decide) (by decide) hrun2) hS2 ?_
    refine Pl.H.take 33 98 (.pointer (some ⟨g, 3, none⟩)) (by kernel_rfl) (by kernel_rfl) (by kernel_rfl) (Pl.free 33 (by kernel_rfl)) (Pl.field 33 24 (.tmp 9) 3 _ (by kernel_rfl) (by decide) (fdTb3 g)) hS2 ?_
    obtain ⟨W3, hst3, hT3, hfr3, hsz3⟩ := hT2.st3 v2 (t.es ++ [(En.mk y1.n y0.n y2.n y3.n)])
    have hS3 : Frm (fun k => k = g ∨ v.blk = some k) w W3 := hS2.trans hfr3 (fun k _ hk => .inl hk)
    have hnew : v2.blk = v.blk ∨ ∃ k, v2.blk = some k ∧ w.heap.size ≤ k := hbk2.elim (fun h => .inl h) (fun h => .inr ⟨_, h.1, hS1.size⟩)
    have hO3 : OwnE W3 v2 (t.es ++ [(En.mk y1.n y0.n y2.n y3.n)]) := hO2.other hfr3 (fun k hk e => by
    rcases hnew with h | ⟨j, h, hj⟩
    · exact hng (by rw [← h, hk, e])
    · rw [h] at hk
      have hjk := Option.some.inj hk
      have := hT.lt
      omega)
    refine Pl.H.store 34 W3 (by kernel_rfl) (by kernel_rfl) (by kernel_rfl) (Pl.free 34 (by kernel_rfl)) (Pl.storeV 34 22 (.tmp 98) (.tmp 97) _ (by kernel_rfl) (by decide) (by decide) hst3) hS3 ?_
    refine Pl.H.done (by kernel_rfl) (fun A' hA' => ?_)
    rw [Pl.At.ext hA' ((((((((((((((((((((((((((((((((((hA.put 65 _).put 67 _).put 68 _).put 69 _).put 70 _).put 71 _).put 72 _).put 73 _).put 74 _).put 75 _).put 76 _).put 77 _).put 78 _).put 79 _).put 80 _).put 81 _).put 82 _).put 83 _).put 84 _).put 85 _).put 86 _).put 87 _).put 88 _).put 89 _).put 90 _).put 91 _).put 92 _).put 93 _).put 94 _).put 95 _).put 66 _).put 96 _).put 97 _).put 98 _)]
    exact hend (fun d => if d = 65 then .pointer (some ⟨g, 3, none⟩) else if d = 67 then .slice (some ⟨b, off, none⟩) 52 c2 else if d = 68 then .int .i64 ((i : Nat) : Int) else if d = 69 then .int .i64 ((4 * i : Nat) : Int) else if d = 70 then .int .i64 ((4 + 4 * i : Nat) : Int) else if d = 71 then .pointer (some ⟨b, off + (4 + 4 * i) * 4, none⟩) else if d = 72 then .pointer (some ⟨b, off + (4 + 4 * i) * 4 + 1, none⟩) else if d = 73 then .int .i64 y0.n else if d = 74 then .slice (some ⟨b, off, none⟩) 52 c2 else if d = 75 then .int .i64 ((i : Nat) : Int) else if d = 76 then .int .i64 ((4 * i : Nat) : Int) else if d = 77 then .int .i64 ((5 + 4 * i : Nat) : Int) else if d = 78 then .pointer (some ⟨b, off + (5 + 4 * i) * 4, none⟩) else if d = 79 then .pointer (some ⟨b, off + (5 + 4 * i) * 4 + 1, none⟩) else if d = 80 then .int .i64 y1.n else if d = 81 then .slice (some ⟨b, off, none⟩) 52 c2 else if d = 82 then .int .i64 ((i : Nat) : Int) else if d = 83 then .int .i64 ((4 * i : Nat) : Int) else if d = 84 then .int .i64 ((6 + 4 * i : Nat) : Int) else if d = 85 then .pointer (some ⟨b, off + (6 + 4 * i) * 4, none⟩) else if d = 86 then .pointer (some ⟨b, off + (6 + 4 * i) * 4 + 1, none⟩) else if d = 87 then .int .i64 y2.n else if d = 88 then .slice (some ⟨b, off, none⟩) 52 c2 else if d = 89 then .int .i64 ((i : Nat) : Int) else if d = 90 then .int .i64 ((4 * i : Nat) : Int) else if d = 91 then .int .i64 ((7 + 4 * i : Nat) : Int) else if d = 92 then .pointer (some ⟨b, off + (7 + 4 * i) * 4, none⟩) else if d = 93 then .pointer (some ⟨b, off + (7 + 4 * i) * 4 + 1, none⟩) else if d = 94 then .int .i64 y3.n else if d = 95 then (En.mk y1.n y0.n y2.n y3.n).val else if d = 66 then .slice v.a v.len v.cap else if d = 96 then .slice (some ⟨w.drew.heap.size, 0, none⟩) 1 1 else if d = 97 then .slice v2.a v2.len v2.cap else if d = 98 then .pointer (some ⟨g, 3, none⟩) else undef) _ v2 ⟨hT3, hO3, hS3, hnew⟩

set_option maxHeartbeats 2000000 in
set_option maxRecDepth 100000 in
theorem rdt20a (w0 w : World) (pa : Option Addr) (pl pc : Nat) (xs : List Nat) (hc : Came w0 pa pl pc xs) (g : Nat) (t : Tb) (v : Sl) (hT : TbBlk w0 g t v) (hE : Es w0 v t.es) (hm : mayB t = false) (hW : Below w0.heap.size w0 w)
    {Q : Exit → Act → World → Prop} {A : Act} (hsz : A.tmps.size = 112) (hdf : A.defers = []) (s0 : A.tmps.getD 0 undef = .slice pa pl pc) (s9 : A.tmps.getD 9 undef = .pointer (some ⟨g, 0, none⟩))
    (hend : ∀ (u : Nat → Value) w', Below w0.heap.size w0 w' → Q .normal ((((((((((((A).put (some 99) (u 99)).put (some 100) (u 100)).put (some 101) (u 101)).put (some 102) (u 102)).put (some 103) (u 103)).put (some 104) (u 104)).put (some 105) (u 105)).put (some 106) (u 106)).put (some 107) (u 107)).put (some 108) (u 108)).put (some 109) (.bool true)) w') :
    (Code.region 20 (Pl.find 20 ((Try.f18.body).getD .skip)) true).wp Try.prog Q A w := by
  have hS0 : Below w0.heap.size w0 w.drew := hW.drew
  have hA := Pl.At.same (v := .pointer (some ⟨g, 0, none⟩)) (d := 9) (Pl.At.same (v := .slice pa pl pc) (d := 0) (Pl.At.here hsz hdf) s0) s9
  refine Pl.H.start (S := fun w' => Below w0.heap.size w0 w') (by kernel_rfl) hA hS0 ?_
  rw [show (Pl.find 20 ((Try.f18.body).getD .skip)).size = 11 by kernel_rfl]
  refine Pl.H.take 0 99 (t.val v) (by kernel_rfl) (by kernel_rfl) (by kernel_rfl) (Pl.free 0 (by kernel_rfl)) (Pl.load 0 24 (.tmp 9) _ (by kernel_rfl) (by decide) (fun w' hS => load_tb g t v w' (hT.keep hS))) hS0 ?_
  refine Pl.H.call 1 100 10 [(.tmp 99)] #[24] (by kernel_rfl) (by kernel_rfl) (by kernel_rfl) (Pl.free 1 (by kernel_rfl)) (by kernel_rfl) (by decide) enters10 (Calls.mono (mayTIs hm v w.drew (hE.keep hS0 (Nat.le_refl _))) ?_)
  rintro e w1 ⟨rfl, hb1⟩
  have hS1 : Below w0.heap.size w0 w1 := rBelowT hS0 hb1
  refine ⟨.bool false, rfl, hS1, ?_⟩
  refine Pl.H.take 2 101 (.bool true) (by kernel_rfl) (by kernel_rfl) (by kernel_rfl) (Pl.free 2 (by kernel_rfl)) (Pl.neg 2 4 (.tmp 100) false (by kernel_rfl) (by decide) rfl) hS1 ?_
  refine Pl.H.take 3 102 (.bool true) (by kernel_rfl) (by kernel_rfl) (by kernel_rfl) (Pl.free 3 (by kernel_rfl)) (Pl.move 3 (.tmp 101) (by kernel_rfl) (by decide)) hS1 ?_
  refine Pl.H.skip 4 103 (by kernel_rfl) (by kernel_rfl) (by kernel_rfl) (Pl.unwanted 4 3 102 false (by kernel_rfl) (by kernel_rfl) (by decide) rfl) hS1 ?_
  refine Pl.H.skip 5 104 (by kernel_rfl) (by kernel_rfl) (by kernel_rfl) (Pl.unwanted 5 3 102 false (by kernel_rfl) (by kernel_rfl) (by decide) rfl) hS1 ?_
  refine Pl.H.skip 6 105 (by kernel_rfl) (by kernel_rfl) (by kernel_rfl) (Pl.unwanted 6 3 102 false (by kernel_rfl) (by kernel_rfl) (by decide) rfl) hS1 ?_
  refine Pl.H.skip 7 106 (by kernel_rfl) (by kernel_rfl) (by kernel_rfl) (Pl.unwanted 7 3 102 false (by kernel_rfl) (by kernel_rfl) (by decide) rfl) hS1 ?_
  refine Pl.H.skip 8 107 (by kernel_rfl) (by kernel_rfl) (by kernel_rfl) (Pl.unwanted 8 3 102 false (by kernel_rfl) (by kernel_rfl) (by decide) rfl) hS1 ?_
  refine Pl.H.skip 9 108 (by kernel_rfl) (by kernel_rfl) (by kernel_rfl) (Pl.unwanted 9 3 102 false (by kernel_rfl) (by kernel_rfl) (by decide) rfl) hS1 ?_
  refine Pl.H.take 10 109 (.bool true) (by kernel_rfl) (by kernel_rfl) (by kernel_rfl) (Pl.free 10 (by kernel_rfl)) (Pl.pick 10 (.tmp 102) (.const (.bool true)) (.tmp 108) (by kernel_rfl) (by decide) (by decide) rfl) hS1 ?_
  refine Pl.H.done (by kernel_rfl) (fun A' hA' => ?_)
  rw [Pl.At.ext hA' (((((((((((hA.put 99 _).put 100 _).put 101 _).put 102 _).put 103 _).put 104 _).put 105 _).put 106 _).put 107 _).put 108 _).put 109 _)]
  exact hend (fun d => if d = 99 then t.val v else if d = 100 then .bool false else if d = 101 then .bool true else if d = 102 then .bool true else if d = 103 then undef else if d = 104 then undef else if d = 105 then undef else if d = 106 then undef else if d = 107 then undef else if d = 108 then undef else undef) _ hS1

set_option maxHeartbeats 2000000 in
set_option maxRecDepth 100000 in
theorem rdt20b (w0 w : World) (pa : Option Addr) (pl pc : Nat) (xs : List Nat) (hc : Came w0 pa pl pc xs) (g : Nat) (t : Tb) (v : Sl) (hT : TbBlk w0 g t v) (hE : Es w0 v t.es) (hm : mayB t = true) (hne : ¬ (bstr (pageT t)).toList = (bstr xs).toList) (hW : Below w0.heap.size w0 w)
    {Q : Exit → Act → World → Prop} {A : Act} (hsz : A.tmps.size = 112) (hdf : A.defers = []) (s0 : A.tmps.getD 0 undef = .slice pa pl pc) (s9 : A.tmps.getD 9 undef = .pointer (some ⟨g, 0, none⟩))
    (hend : ∀ (u : Nat → Value) w', Below w0.heap.size w0 w' → Q .normal ((((((((((((A).put (some 99) (u 99)).put (some 100) (u 100)).put (some 101) (u 101)).put (some 102) (u 102)).put (some 103) (u 103)).put (some 106) (u 106)).put (some 107) (u 107)).put (some 104) (u 104)).put (some 105) (u 105)).put (some 108) (u 108)).put (some 109) (.bool true)) w') :
    (Code.region 20 (Pl.find 20 ((Try.f18.body).getD .skip)) true).wp Try.prog Q A w := by
  have hS0 : Below w0.heap.size w0 w.drew := hW.drew
  have hA := Pl.At.same (v := .pointer (some ⟨g, 0, none⟩)) (d := 9) (Pl.At.same (v := .slice pa pl pc) (d := 0) (Pl.At.here hsz hdf) s0) s9
  refine Pl.H.start (S := fun w' => Below w0.heap.size w0 w') (by kernel_rfl) hA hS0 ?_
  rw [show (Pl.find 20 ((Try.f18.body).getD .skip)).size = 11 by kernel_rfl]
  refine Pl.H.take 0 99 (t.val v) (by kernel_rfl) (by kernel_rfl) (by kernel_rfl) (Pl.free 0 (by kernel_rfl)) (Pl.load 0 24 (.tmp 9) _ (by kernel_rfl) (by decide) (fun w' hS => load_tb g t v w' (hT.keep hS))) hS0 ?_
  refine Pl.H.call 1 100 10 [(.tmp 99)] #[24] (by kernel_rfl) (by kernel_rfl) (by kernel_rfl) (Pl.free 1 (by kernel_rfl)) (by kernel_rfl) (by decide) enters10 (Calls.mono (mayTIs hm v w.drew (hE.keep hS0 (Nat.le_refl _))) ?_)
  rintro e w1 ⟨rfl, hb1⟩
  have hS1 : Below w0.heap.size w0 w1 := rBelowT hS0 hb1
  refine ⟨.bool true, rfl, hS1, ?_⟩
  refine Pl.H.take 2 101 (.bool false) (by kernel_rfl) (by kernel_rfl) (by kernel_rfl) (Pl.free 2 (by kernel_rfl)) (Pl.neg 2 4 (.tmp 100) true (by kernel_rfl) (by decide) rfl) hS1 ?_
  refine Pl.H.take 3 102 (.bool false) (by kernel_rfl) (by kernel_rfl) (by kernel_rfl) (Pl.free 3 (by kernel_rfl)) (Pl.move 3 (.tmp 101) (by kernel_rfl) (by decide)) hS1 ?_
  refine Pl.H.take 4 103 (t.val v) (by kernel_rfl) (by kernel_rfl) (by kernel_rfl) (Pl.guarded 4 3 102 false (by kernel_rfl) (by kernel_rfl) (by decide) rfl) (Pl.load 4 24 (.tmp 9) _ (by kernel_rfl) (by decide) (fun w' hS => load_tb g t v w' (hT.keep hS))) hS1 ?_
  refine Pl.H.take 7 106 (.slice pa pl pc) (by kernel_rfl) (by kernel_rfl) (by kernel_rfl) (Pl.guarded 7 3 102 false (by kernel_rfl) (by kernel_rfl) (by decide) rfl) (Pl.move 7 (.tmp 0) (by kernel_rfl) (by decide)) hS1 ?_
  refine Pl.H.take 8 107 (.string (bstr xs)) (by kernel_rfl) (by kernel_rfl) (by kernel_rfl) (Pl.guarded 8 3 102 false (by kernel_rfl) (by kernel_rfl) (by decide) rfl) (Pl.convV 8 26 9 (.tmp 106) (.slice pa pl pc) _ (by kernel_rfl) (by decide) rfl (fun w' hS => run_string_of pc (hc.bs.keep hS (Nat.le_refl _)))) hS1 ?_
  refine Pl.H.call 5 104 16 [(.tmp 103)] #[24] (by kernel_rfl) (by kernel_rfl) (by kernel_rfl) (Pl.guarded 5 3 102 false (by kernel_rfl) (by kernel_rfl) (by decide) rfl) (by kernel_rfl) (by decide) enters16 (Calls.mono (rpageT_any t v w1 (hE.keep hS1 (Nat.le_refl _)) (mayB_iff.1 hm)) ?_)
  rintro e w2 ⟨v2, rfl, ho2, hb2⟩
  have hS2 : Below w0.heap.size w0 w2 := rBelowT hS1 hb2
  obtain ⟨ba, be, rfl, hbs1, _⟩ := ho2.bs (sealed_bytes (bodyT_bytes (mayB_iff.1 hm)))
  refine ⟨.slice ba (pageT t).length be, rfl, hS2, ?_⟩
  refine Pl.H.make 6 105 (.string (bstr (pageT t))) w2 (by kernel_rfl) (by kernel_rfl) (by kernel_rfl) (Pl.guarded 6 3 102 false (by kernel_rfl) (by kernel_rfl) (by decide) rfl) (Pl.conv1 6 26 9 (.tmp 104) _ (by kernel_rfl) (by decide) (run_string_of be hbs1)) hS2 ?_
  refine Pl.H.take 9 108 (.bool true) (by kernel_rfl) (by kernel_rfl) (by kernel_rfl) (Pl.guarded 9 3 102 false (by kernel_rfl) (by kernel_rfl) (by decide) rfl) (Pl.binV 9 .neq 9 9 (.tmp 105) (.tmp 107) (.string (bstr (pageT t))) (.string (bstr xs)) _ (by kernel_rfl) (by decide) (by decide) rfl rfl (fun w => by simp [go_sem, eqGuard, hne])) hS2 ?_
  refine Pl.H.take 10 109 (.bool true) (by kernel_rfl) (by kernel_rfl) (by kernel_rfl) (Pl.free 10 (by kernel_rfl)) (Pl.pickF 10 (.tmp 102) (.const (.bool true)) (.tmp 108) (by kernel_rfl) (by decide) (by decide) rfl) hS2 ?_
  refine Pl.H.done (by kernel_rfl) (fun A' hA' => ?_)
  rw [Pl.At.ext hA' (((((((((((hA.put 99 _).put 100 _).put 101 _).put 102 _).put 103 _).put 106 _).put 107 _).put 104 _).put 105 _).put 108 _).put 109 _)]
  exact hend (fun d => if d = 99 then t.val v else if d = 100 then .bool true else if d = 101 then .bool false else if d = 102 then .bool false else if d = 103 then t.val v else if d = 106 then .slice pa pl pc else if d = 107 then .string (bstr xs) else if d = 104 then .slice ba (pageT t).length be else if d = 105 then .string (bstr (pageT t)) else if d = 108 then .bool true else undef) _ hS2

set_option maxHeartbeats 2000000 in
set_option maxRecDepth 100000 in
theorem rdt20c (w0 w : World) (pa : Option Addr) (pl pc : Nat) (xs : List Nat) (hc : Came w0 pa pl pc xs) (g : Nat) (t : Tb) (v : Sl) (hT : TbBlk w0 g t v) (hE : Es w0 v t.es) (hm : mayB t = true) (hpx : pageT t = xs) (hW : Below w0.heap.size w0 w)
    {Q : Exit → Act → World → Prop} {A : Act} (hsz : A.tmps.size = 112) (hdf : A.defers = []) (s0 : A.tmps.getD 0 undef = .slice pa pl pc) (s9 : A.tmps.getD 9 undef = .pointer (some ⟨g, 0, none⟩))
    (hend : ∀ (u : Nat → Value) w', Below w0.heap.size w0 w' → Q .normal ((((((((((((A).put (some 99) (u 99)).put (some 100) (u 100)).put (some 101) (u 101)).put (some 102) (u 102)).put (some 103) (u 103)).put (some 106) (u 106)).put (some 107) (u 107)).put (some 104) (u 104)).put (some 105) (u 105)).put (some 108) (u 108)).put (some 109) (.bool false)) w') :
    (Code.region 20 (Pl.find 20 ((Try.f18.body).getD .skip)) true).wp Try.prog Q A w := by
  have hS0 : Below w0.heap.size w0 w.drew := hW.drew
  have hA := Pl.At.same (v := .pointer (some ⟨g, 0, none⟩)) (d := 9) (Pl.At.same (v := .slice pa pl pc) (d := 0) (Pl.At.here hsz hdf) s0) s9
  refine Pl.H.start (S := fun w' => Below w0.heap.size w0 w') (by kernel_rfl) hA hS0 ?_
  rw [show (Pl.find 20 ((Try.f18.body).getD .skip)).size = 11 by kernel_rfl]
  refine Pl.H.take 0 99 (t.val v) (by kernel_rfl) (by kernel_rfl) (by kernel_rfl) (Pl.free 0 (by kernel_rfl)) (Pl.load 0 24 (.tmp 9) _ (by kernel_rfl) (by decide) (fun w' hS => load_tb g t v w' (hT.keep hS))) hS0 ?_
  refine Pl.H.call 1 100 10 [(.tmp 99)] #[24] (by kernel_rfl) (by kernel_rfl) (by kernel_rfl) (Pl.free 1 (by kernel_rfl)) (by kernel_rfl) (by decide) enters10 (Calls.mono (mayTIs hm v w.drew (hE.keep hS0 (Nat.le_refl _))) ?_)
  rintro e w1 ⟨rfl, hb1⟩
  have hS1 : Below w0.heap.size w0 w1 := rBelowT hS0 hb1
  refine ⟨.bool true, rfl, hS1, ?_⟩
  refine Pl.H.take 2 101 (.bool false) (by kernel_rfl) (by kernel_rfl) (by kernel_rfl) (Pl.free 2 (by kernel_rfl)) (Pl.neg 2 4 (.tmp 100) true (by kernel_rfl) (by decide) rfl) hS1 ?_
  refine Pl.H.take 3 102 (.bool false) (by kernel_rfl) (by kernel_rfl) (by kernel_rfl) (Pl.free 3 (by kernel_rfl)) (Pl.move 3 (.tmp 101) (by kernel_rfl) (by decide)) hS1 ?_
  refine Pl.H.take 4 103 (t.val v) (by kernel_rfl) (by kernel_rfl) (by kernel_rfl) (Pl.guarded 4 3 102 false (by kernel_rfl) (by kernel_rfl) (by decide) rfl) (Pl.load 4 24 (.tmp 9) _ (by kernel_rfl) (by decide) (fun w' hS => load_tb g t v w' (hT.keep hS))) hS1 ?_
  refine Pl.H.take 7 106 (.slice pa pl pc) (by kernel_rfl) (by kernel_rfl) (by kernel_rfl) (Pl.guarded 7 3 102 false (by kernel_rfl) (by kernel_rfl) (by decide) rfl) (Pl.move 7 (.tmp 0) (by kernel_rfl) (by decide)) hS1 ?_
  refine Pl.H.take 8 107 (.string (bstr xs)) (by kernel_rfl) (by kernel_rfl) (by kernel_rfl) (Pl.guarded 8 3 102 false (by kernel_rfl) (by kernel_rfl) (by decide) rfl) (Pl.convV 8 26 9 (.tmp 106) (.slice pa pl pc) _ (by kernel_rfl) (by decide) rfl (fun w' hS => run_string_of pc (hc.bs.keep hS (Nat.le_refl _)))) hS1 ?_
  refine Pl.H.call 5 104 16 [(.tmp 103)] #[24] (by kernel_rfl) (by kernel_rfl) (by kernel_rfl) (Pl.guarded 5 3 102 false (by kernel_rfl) (by kernel_rfl) (by decide) rfl) (by kernel_rfl) (by decide) enters16 (Calls.mono (rpageT_any t v w1 (hE.keep hS1 (Nat.le_refl _)) (mayB_iff.1 hm)) ?_)
  rintro e w2 ⟨v2, rfl, ho2, hb2⟩
  have hS2 : Below w0.heap.size w0 w2 := rBelowT hS1 hb2
  obtain ⟨ba, be, rfl, hbs1, _⟩ := ho2.bs (sealed_bytes (bodyT_bytes (mayB_iff.1 hm)))
  refine ⟨.slice ba (pageT t).length be, rfl, hS2, ?_⟩
  refine Pl.H.make 6 105 (.string (bstr xs)) w2 (by kernel_rfl) (by kernel_rfl) (by kernel_rfl) (Pl.guarded 6 3 102 false (by kernel_rfl) (by kernel_rfl) (by decide) rfl) (Pl.conv1 6 26 9 (.tmp 104) _ (by kernel_rfl) (by decide) (by rw [← hpx]; exact run_string_of be hbs1)) hS2 ?_
  refine Pl.H.take 9 108 (.bool false) (by kernel_rfl) (by kernel_rfl) (by kernel_rfl) (Pl.guarded 9 3 102 false (by kernel_rfl) (by kernel_rfl) (by decide) rfl) (Pl.binV 9 .neq 9 9 (.tmp 105) (.tmp 107) (.string (bstr xs)) (.string (bstr xs)) _ (by kernel_rfl) (by decide) (by decide) rfl rfl (fun w => by simp [go_sem, eqGuard])) hS2 ?_
  refine Pl.H.take 10 109 (.bool false) (by kernel_rfl) (by kernel_rfl) (by kernel_rfl) (Pl.free 10 (by kernel_rfl)) (Pl.pickF 10 (.tmp 102) (.const (.bool true)) (.tmp 108) (by kernel_rfl) (by decide) (by decide) rfl) hS2 ?_
  refine Pl.H.done (by kernel_rfl) (fun A' hA' => ?_)
  rw [Pl.At.ext hA' (((((((((((hA.put 99 _).put 100 _).put 101 _).put 102 _).put 103 _).put 106 _).put 107 _).put 104 _).put 105 _).put 108 _).put 109 _)]
  exact hend (fun d => if d = 99 then t.val v else if d = 100 then .bool true else if d = 101 then .bool false else if d = 102 then .bool false else if d = 103 then t.val v else if d = 106 then .slice pa pl pc else if d = 107 then .string (bstr xs) else if d = 104 then .slice ba (pageT t).length be else if d = 105 then .string (bstr xs) else if d = 108 then .bool false else undef) _ hS2

end Go.Proofs.Ytdbgbldmjgonjaa
