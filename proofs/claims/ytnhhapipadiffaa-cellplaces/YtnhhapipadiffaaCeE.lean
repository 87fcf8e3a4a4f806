/-
  Drawn statements of the document's List and Decode of cells; what a Decode of cells says.
-/
import Derived.Test.YtnhhapipadiffaaCeD
import Derived.Test.YtnhhapipadiffaaUrF
namespace Go.Proofs.Ytnhhapipadiffaa
open Go.RowKit
set_option linter.unusedVariables false

section
variable {ops : Array Oper} {rest : List Oper} {o : Oper} {a : Act} {Q : Exit → Act → World → Prop}
theorem wpList_slice (w : World) (hgd : o.guard = none) (t : TypeId) (x : Operand) (lo hi : Option Operand) (ho : o.op = .slice t x lo hi none) (v : Value) (hrun : (Instr.sliceAt t (a.eval x) (lo.map a.eval) (hi.map a.eval) none).run Try.prog w = .ok v w) (hK : wpList Try.prog ops Q rest (a.put o.dst v) w) : wpList Try.prog ops Q (o :: rest) a w := by
  refine wpList_val w hgd v w ?_ hK
  have e : execOp a.eval o = (do pure (.value (← Instr.sliceAt t (a.eval x) (lo.map a.eval) (hi.map a.eval) none))) := by
    unfold execOp
    rw [ho]
    rfl
  rw [e]
  simp [hrun]
theorem wpList_make (w : World) (hgd : o.guard = none) (t : TypeId) (x y : Operand) (ho : o.op = .makeSlice t x y) (u u' v : Value) (hu : a.eval x = u) (hu' : a.eval y = u') (w' : World) (hrun : (Instr.makeSlice t u u').run Try.prog w = .ok v w') (hK : wpList Try.prog ops Q rest (a.put o.dst v) w') : wpList Try.prog ops Q (o :: rest) a w := by
  refine wpList_val w hgd v w' ?_ hK
  have e : execOp a.eval o = (do pure (.value (← Instr.makeSlice t (a.eval x) (a.eval y)))) := by
    unfold execOp
    rw [ho]
  rw [e, hu, hu']
  simp [hrun]
end

theorem made_bytes (n : Nat) : madeCells (Value.int .u8 0).cells (n * 1) = (vals (List.replicate n 0)).toArray := by
  apply Array.ext
  · simp [size_madeCells, vals]
  · intro i h1 h2
    simp [madeCells, vals, Value.cells, Nat.mod_one]
theorem make_bytes (n : Nat) (hn : n ≤ 10000000) (w : World) : (Instr.makeSlice 32 (.int .i64 (n : Nat)) (.int .i64 (n : Nat))).run Try.prog w = .ok (.slice (some ⟨w.heap.size, 0, none⟩) n n) (w.alloc (.cells (vals (List.replicate n 0)).toArray 5)) := by
  obtain ⟨i0, hi, hz0, hz1, hz2⟩ := info_parts info5
  have h := run_makeSlice (P := Try.prog) w 32 5 i0 (.int .u8 0) Try.underlying32 hi hz0 .i64 .i64 (n : Nat) (n : Nat) (by omega) (by omega) (by rw [hz1]; simp; omega) (by rw [hz2]; simp; omega) (by omega)
  rw [hz1, show ((n : Nat) : Int).toNat = n by omega, made_bytes] at h
  exact h

/-- An empty page. -/
def nul512 : List Nat := List.replicate 512 0
theorem nul512_len : nul512.length = 512 := List.length_replicate
theorem nul512_bytes : Bytes nul512 := fun x hx => by rw [(List.mem_replicate.1 hx).2]; decide
theorem make512 (w : World) : (Instr.makeSlice 32 (.int .i64 512) (.int .i64 512)).run Try.prog w = .ok (.slice (some ⟨w.heap.size, 0, none⟩) 512 512) (w.alloc (.cells (vals nul512).toArray 5)) := make_bytes 512 (by decide) w

theorem enters26 : ∀ args w, (callFunc 26 args).run Try.prog w = .ok (.enter 26 args) w := Pl.enters Try.func26 (by kernel_rfl) (by kernel_rfl)

theorem enters9 : ∀ args w, (callFunc 9 args).run Try.prog w = .ok (.enter 9 args) w := Pl.enters Try.func9 (by kernel_rfl) (by kernel_rfl)

theorem enters11 : ∀ args w, (callFunc 11 args).run Try.prog w = .ok (.enter 11 args) w := Pl.enters Try.func11 (by kernel_rfl) (by kernel_rfl)

theorem enters25 : ∀ args w, (callFunc 25 args).run Try.prog w = .ok (.enter 25 args) w := Pl.enters Try.func25 (by kernel_rfl) (by kernel_rfl)

theorem sameU_yes {x y : Ux} (h : x.u = y.u) (w : World) (hx : Fs w x.a x.n x.c x.u.row.xs) (hy : Fs w y.a y.n y.c y.u.row.xs) :
    Calls Try.prog 26 #[x.val, y.val] w fun e w' => e = .returned (.bool true) ∧ Below w.heap.size w w' := by
  have := refUnSame_any x.u y.u x.a x.n x.c y.a y.n y.c w hx hy
  rw [h, Un.same_self] at this
  have e : x.val = y.u.val (.slice x.a x.n x.c) := by unfold Ux.val; rw [h]
  rw [e]
  exact this

theorem mayCIs {l : List Ux} {m : Bool} (hm : MayC (uns l) = m) (a : Option Addr) (len cap : Nat) (w : World) (h : Us w a len l) (hl : len ≤ 9223372036854775807) :
    Calls Try.prog 9 #[.slice a len cap] w fun e w' => e = .returned (.bool m) ∧ Below w.heap.size w w' := by
  have := refMayC_any a len cap l w h hl
  rw [hm] at this
  exact this

set_option maxHeartbeats 2000000 in
set_option maxRecDepth 100000 in
theorem lst6 (w0 w : World) (b1 o1 c1 b2 o2 c2 len k : Nat) (hk : k < len) (x y : Ux) (hx : UnAt w0 b1 (o1 + k * 12) x) (hy : UnAt w0 b2 (o2 + k * 12) y) (hu : x.u = y.u) (hfx : Fs w0 x.a x.n x.c x.u.row.xs) (hfy : Fs w0 y.a y.n y.c y.u.row.xs) (hW : Below w0.heap.size w0 w)
    {Q : Exit → Act → World → Prop} {A : Act} (hsz : A.tmps.size = 27) (hdf : A.defers = []) (s0 : A.tmps.getD 0 undef = .slice (some ⟨b1, o1, none⟩) len c1) (s1 : A.tmps.getD 1 undef = .slice (some ⟨b2, o2, none⟩) len c2) (s5 : A.tmps.getD 5 undef = .int .i64 ((k : Nat) : Int))
    (hend : ∀ (u : Nat → Value) w', Below w0.heap.size w0 w' → Q .normal (((((((((((A).put (some 17) (u 17)).put (some 18) (u 18)).put (some 19) (u 19)).put (some 20) (u 20)).put (some 21) (u 21)).put (some 22) (u 22)).put (some 23) (u 23)).put (some 24) (u 24)).put (some 25) (u 25)).put (some 26) (.bool false)) w') :
    (Code.region 6 (Pl.find 6 ((Try.f12.body).getD .skip)) true).wp Try.prog Q A w := by
  have hS0 : Below w0.heap.size w0 w.drew := hW.drew
  have hA := Pl.At.same (v := .int .i64 ((k : Nat) : Int)) (d := 5) (Pl.At.same (v := .slice (some ⟨b2, o2, none⟩) len c2) (d := 1) (Pl.At.same (v := .slice (some ⟨b1, o1, none⟩) len c1) (d := 0) (Pl.At.here hsz hdf) s0) s1) s5
  refine Pl.H.start (S := fun w' => Below w0.heap.size w0 w') (by kernel_rfl) hA hS0 ?_
  rw [show (Pl.find 6 ((Try.f12.body).getD .skip)).size = 10 by kernel_rfl]
  refine Pl.H.take 0 17 (.slice (some ⟨b1, o1, none⟩) len c1) (by kernel_rfl) (by kernel_rfl) (by kernel_rfl) (Pl.free 0 (by kernel_rfl)) (Pl.move 0 (.tmp 0) (by kernel_rfl) (by decide)) hS0 ?_
  refine Pl.H.take 1 18 (.int .i64 ((k : Nat) : Int)) (by kernel_rfl) (by kernel_rfl) (by kernel_rfl) (Pl.free 1 (by kernel_rfl)) (Pl.move 1 (.tmp 5) (by kernel_rfl) (by decide)) hS0 ?_
  refine Pl.H.take 2 19 (.pointer (some ⟨b1, o1 + k * 12, none⟩)) (by kernel_rfl) (by kernel_rfl) (by kernel_rfl) (Pl.free 2 (by kernel_rfl)) (Pl.index 2 22 (.tmp 17) (.tmp 18) _ (by kernel_rfl) (by decide) (by decide) (index_un b1 o1 len c1 k hk)) hS0 ?_
  refine Pl.H.take 3 20 (x.val) (by kernel_rfl) (by kernel_rfl) (by kernel_rfl) (Pl.free 3 (by kernel_rfl)) (Pl.load 3 30 (.tmp 19) _ (by kernel_rfl) (by decide) (fun w' hS => load_unAt b1 (o1 + k * 12) x w' (hx.keep hS (Nat.le_refl _)))) hS0 ?_
  refine Pl.H.take 4 21 (.slice (some ⟨b2, o2, none⟩) len c2) (by kernel_rfl) (by kernel_rfl) (by kernel_rfl) (Pl.free 4 (by kernel_rfl)) (Pl.move 4 (.tmp 1) (by kernel_rfl) (by decide)) hS0 ?_
  refine Pl.H.take 5 22 (.int .i64 ((k : Nat) : Int)) (by kernel_rfl) (by kernel_rfl) (by kernel_rfl) (Pl.free 5 (by kernel_rfl)) (Pl.move 5 (.tmp 5) (by kernel_rfl) (by decide)) hS0 ?_
  refine Pl.H.take 6 23 (.pointer (some ⟨b2, o2 + k * 12, none⟩)) (by kernel_rfl) (by kernel_rfl) (by kernel_rfl) (Pl.free 6 (by kernel_rfl)) (Pl.index 6 22 (.tmp 21) (.tmp 22) _ (by kernel_rfl) (by decide) (by decide) (index_un b2 o2 len c2 k hk)) hS0 ?_
  refine Pl.H.take 7 24 (y.val) (by kernel_rfl) (by kernel_rfl) (by kernel_rfl) (Pl.free 7 (by kernel_rfl)) (Pl.load 7 30 (.tmp 23) _ (by kernel_rfl) (by decide) (fun w' hS => load_unAt b2 (o2 + k * 12) y w' (hy.keep hS (Nat.le_refl _)))) hS0 ?_
  refine Pl.H.call 8 25 26 [(.tmp 20), (.tmp 24)] #[30, 30] (by kernel_rfl) (by kernel_rfl) (by kernel_rfl) (Pl.free 8 (by kernel_rfl)) (by kernel_rfl) (by decide) enters26 (Calls.mono (sameU_yes hu w.drew (hfx.keep hS0 (Nat.le_refl _)) (hfy.keep hS0 (Nat.le_refl _))) ?_)
  rintro e w1 ⟨rfl, hb1⟩
  have hS1 : Below w0.heap.size w0 w1 := rBelow' hS0 hb1
  refine ⟨.bool true, rfl, hS1, ?_⟩
  refine Pl.H.take 9 26 (.bool false) (by kernel_rfl) (by kernel_rfl) (by kernel_rfl) (Pl.free 9 (by kernel_rfl)) (Pl.neg 9 4 (.tmp 25) true (by kernel_rfl) (by decide) rfl) hS1 ?_
  refine Pl.H.done (by kernel_rfl) (fun A' hA' => ?_)
  rw [Pl.At.ext hA' ((((((((((hA.put 17 _).put 18 _).put 19 _).put 20 _).put 21 _).put 22 _).put 23 _).put 24 _).put 25 _).put 26 _)]
  exact hend (fun d => if d = 17 then .slice (some ⟨b1, o1, none⟩) len c1 else if d = 18 then .int .i64 ((k : Nat) : Int) else if d = 19 then .pointer (some ⟨b1, o1 + k * 12, none⟩) else if d = 20 then x.val else if d = 21 then .slice (some ⟨b2, o2, none⟩) len c2 else if d = 22 then .int .i64 ((k : Nat) : Int) else if d = 23 then .pointer (some ⟨b2, o2 + k * 12, none⟩) else if d = 24 then y.val else if d = 25 then .bool true else undef) _ hS1

set_option maxHeartbeats 4000000 in
set_option maxRecDepth 100000 in
/-- Lists that are alike. -/
theorem refListU_same (a : Option Addr) (len cap : Nat) (l : List Ux) (b : Option Addr) (cap' : Nat) (m : List Ux) (w : World) (h : Us w a len l) (h' : Us w b len m) (he : uns l = uns m) (hlen : len ≤ 9223372036854775807) :
    Calls Try.prog 12 #[.slice a len cap, .slice b len cap'] w fun e w' => e = .returned (.bool true) ∧ Below w.heap.size w w' := by
  have H := hide h
  have H' := hide h'
  have HU : Hid (∀ j, (l.getD j Ux.zero).u = (m.getD j Ux.zero).u) := fun j => by rw [← uns_get, ← uns_get, he]
  clear h h' he
  go_enter Try.func12, Try.ntmps12
  go_wp2_with fail
  go_loopw [5] (fun i wr => ∃ k : Nat, k ≤ len ∧ i = .int .i64 k ∧ Hid (Below w.heap.size w wr)) (fun i _ => len - (intOf i).toNat)
  case atStart => exact ⟨0, by omega, rfl, Below.refl _ _⟩
  case round =>
    obtain ⟨k, hk, rfl, hWr⟩ := hrel
    rcases Nat.lt_or_ge k len with hlt | hge
    · have hr := H.out.keep hWr.out (Nat.le_refl _)
      have hr' := H'.out.keep hWr.out (Nat.le_refl _)
      obtain ⟨b1, o1, rfl, c1⟩ := hr.at' k hlt
      obtain ⟨b2, o2, rfl, c2⟩ := hr'.at' k hlt
      have C1 := hide c1
      have C2 := hide c2
      have F1 := hide (hr.cols _ (hr.mem hlt))
      have F2 := hide (hr'.cols _ (hr'.mem hlt))
      clear c1 c2 hr hr'
      go_wp2_with fail
      refine Pl.region_is (ops := Pl.find 6 ((Try.f12.body).getD .skip)) (by kernel_rfl) ?_
      refine lst6 wr wr b1 o1 cap b2 o2 cap' len k hlt _ _ C1.out C2.out (HU.out k) F1.out F2.out (Below.refl _ _) (by rfl) (by rfl) (by rfl) (by rfl) (by rfl) ?_
      intro u w' hb
      have HB := hide (rBelow hWr.out hb)
      clear hb
      simp only [Act.put, List.setIfInBounds_toArray, List.set_cons_zero, List.set_cons_succ]
      go_wp2_with fail
      go_roundw
      case rel => exact ⟨k + 1, by omega, by go_num, HB⟩
      case measure => simp only [intOf]; omega
    · go_wp2_with fail
      go_ret
      exact ⟨rfl, hWr.out⟩

/-- What a Decode of cells says of bytes: which cells, which error. -/
inductive PgSays (xs : List Nat) : List Un → Int → Prop
  | arg (h : xs.length ≠ 512) : PgSays xs [] 1
  | none (h : xs = nul512) : PgSays xs (List.replicate 6 zeroU) 0
  | sum (h : xs.length = 512) (hz : xs ≠ nul512) (hs : ¬ Sealed xs) : PgSays xs [] 5
  | text (h : xs.length = 512) (hz : xs ≠ nul512) (hs : Sealed xs) (hr : ∀ l, ¬ ReadC (xs.drop 4) l) : PgSays xs [] 4
  | some (h : xs.length = 512) (hz : xs ≠ nul512) (hs : Sealed xs) (l : List Un) (hr : ReadC (xs.drop 4) l) : PgSays xs l 0

theorem PgSays.one {xs : List Nat} {l m : List Un} {c d : Int} (h : PgSays xs l c) (k : PgSays xs m d) : l = m ∧ c = d := by
  have hz : nul512.length = 512 := nul512_len
  cases h with
  | arg h => cases k with
    | arg _ => exact ⟨rfl, rfl⟩
    | none e => rw [e] at h; exact absurd hz h
    | sum e _ _ => exact absurd e h
    | text e _ _ _ => exact absurd e h
    | some e _ _ _ _ => exact absurd e h
  | none h => cases k with
    | arg e => rw [h] at e; exact absurd hz e
    | none _ => exact ⟨rfl, rfl⟩
    | sum _ e _ => exact absurd h e
    | text _ e _ _ => exact absurd h e
    | some _ e _ _ _ => exact absurd h e
  | sum h h2 h3 => cases k with
    | arg e => exact absurd h e
    | none e => exact absurd e h2
    | sum _ _ _ => exact ⟨rfl, rfl⟩
    | text _ _ e _ => exact absurd e h3
    | some _ _ e _ _ => exact absurd e h3
  | text h h2 h3 h4 => cases k with
    | arg e => exact absurd h e
    | none e => exact absurd e h2
    | sum _ _ e => exact absurd h3 e
    | text _ _ _ _ => exact ⟨rfl, rfl⟩
    | some _ _ _ _ e => exact absurd e (h4 _)
  | some h h2 h3 l h4 => cases k with
    | arg e => exact absurd h e
    | none e => exact absurd e h2
    | sum _ _ e => exact absurd h3 e
    | text _ _ _ e => exact absurd h4 (e _)
    | some _ _ _ m e => exact ⟨h4.one e, rfl⟩

/-- What a Decode of cells tells. -/
def CeTold (xs : List Nat) (w : World) (e : Ending) (w' : World) : Prop :=
  ∃ (s : Sl) (l : List Ux) (c : Int), e = .returned (.tuple #[.slice s.a s.len s.cap, .int .i64 c]) ∧ Ud w w' s l ∧ PgSays xs (uns l) c

theorem Ud.nil (w w' : World) (hb : Below w.heap.size w w') : Ud w w' Sl.nil [] := ⟨Own.nil _ _ _, (fun k hk => by cases hk), hb, (fun x hx => by cases hx), fun x hx => by cases hx⟩

set_option maxHeartbeats 2000000 in
set_option maxRecDepth 100000 in
theorem rdc3a (w0 w : World) (pa : Option Addr) (pl pc : Nat) (xs : List Nat) (hc : Came w0 pa pl pc xs) (hz : xs = nul512) (hW : Below w0.heap.size w0 w)
    {Q : Exit → Act → World → Prop} {A : Act} (hsz : A.tmps.size = 69) (hdf : A.defers = []) (s0 : A.tmps.getD 0 undef = .slice pa pl pc)
    (hend : ∀ (u : Nat → Value) w', Below w0.heap.size w0 w' → Q .normal ((((((A).put (some 12) (u 12)).put (some 13) (u 13)).put (some 14) (u 14)).put (some 15) (u 15)).put (some 16) (.bool true)) w') :
    (Code.region 3 (Pl.find 3 ((Try.f13.body).getD .skip)) true).wp Try.prog Q A w := by
  have hS0 : Below w0.heap.size w0 w.drew := hW.drew
  have hA := Pl.At.same (v := .slice pa pl pc) (d := 0) (Pl.At.here hsz hdf) s0
  refine Pl.H.start (S := fun w' => Below w0.heap.size w0 w') (by kernel_rfl) hA hS0 ?_
  rw [show (Pl.find 3 ((Try.f13.body).getD .skip)).size = 5 by kernel_rfl]
  refine Pl.H.take 0 12 (.slice pa pl pc) (by kernel_rfl) (by kernel_rfl) (by kernel_rfl) (Pl.free 0 (by kernel_rfl)) (Pl.move 0 (.tmp 0) (by kernel_rfl) (by decide)) hS0 ?_
  refine Pl.H.take 1 13 (.string (bstr xs)) (by kernel_rfl) (by kernel_rfl) (by kernel_rfl) (Pl.free 1 (by kernel_rfl)) (Pl.convV 1 32 9 (.tmp 12) (.slice pa pl pc) _ (by kernel_rfl) (by decide) rfl (fun w' hS => run_string_of pc (hc.bs.keep hS (Nat.le_refl _)))) hS0 ?_
  have hSm : Below w0.heap.size w0 (w.drew.alloc (.cells (vals (nul512)).toArray 5)) := hS0.alloc hS0.size _
  have hbm : Bs (w.drew.alloc (.cells (vals (nul512)).toArray 5)) (some ⟨w.drew.heap.size, 0, none⟩) 512 (nul512) := by
    have := bs_marked w.drew nul512 (0, 0) nul512_bytes
    rwa [nul512_len] at this
  refine Pl.H.make 2 14 (.slice (some ⟨w.drew.heap.size, 0, none⟩) 512 512) (w.drew.alloc (.cells (vals (nul512)).toArray 5)) (by kernel_rfl) (by kernel_rfl) (by kernel_rfl) (Pl.free 2 (by kernel_rfl)) (Pl.mkV 2 32 (.const (.int .i64 512)) (.const (.int .i64 512)) _ _ (by kernel_rfl) (by decide) (by decide) (make512 w.drew)) hSm ?_
  refine Pl.H.make 3 15 (.string (bstr xs)) (w.drew.alloc (.cells (vals (nul512)).toArray 5)) (by kernel_rfl) (by kernel_rfl) (by kernel_rfl) (Pl.free 3 (by kernel_rfl)) (Pl.conv1 3 32 9 (.tmp 14) _ (by kernel_rfl) (by decide) (by rw [hz]; exact run_string_of 512 hbm)) hSm ?_
  refine Pl.H.take 4 16 (.bool true) (by kernel_rfl) (by kernel_rfl) (by kernel_rfl) (Pl.free 4 (by kernel_rfl)) (Pl.eqlStr 4 9 9 (.tmp 13) (.tmp 15) _ (by kernel_rfl) (by decide) (by decide) rfl rfl) hSm ?_
  refine Pl.H.done (by kernel_rfl) (fun A' hA' => ?_)
  rw [Pl.At.ext hA' (((((hA.put 12 _).put 13 _).put 14 _).put 15 _).put 16 _)]
  exact hend (fun d => if d = 12 then .slice pa pl pc else if d = 13 then .string (bstr xs) else if d = 14 then .slice (some ⟨w.drew.heap.size, 0, none⟩) 512 512 else if d = 15 then .string (bstr xs) else undef) _ hSm

set_option maxHeartbeats 2000000 in
set_option maxRecDepth 100000 in
theorem rdc3b (w0 w : World) (pa : Option Addr) (pl pc : Nat) (xs : List Nat) (hc : Came w0 pa pl pc xs) (hne : ¬ (bstr xs).toList = (bstr (nul512)).toList) (hW : Below w0.heap.size w0 w)
    {Q : Exit → Act → World → Prop} {A : Act} (hsz : A.tmps.size = 69) (hdf : A.defers = []) (s0 : A.tmps.getD 0 undef = .slice pa pl pc)
    (hend : ∀ (u : Nat → Value) w', Below w0.heap.size w0 w' → Q .normal ((((((A).put (some 12) (u 12)).put (some 13) (u 13)).put (some 14) (u 14)).put (some 15) (u 15)).put (some 16) (.bool false)) w') :
    (Code.region 3 (Pl.find 3 ((Try.f13.body).getD .skip)) true).wp Try.prog Q A w := by
  have hS0 : Below w0.heap.size w0 w.drew := hW.drew
  have hA := Pl.At.same (v := .slice pa pl pc) (d := 0) (Pl.At.here hsz hdf) s0
  refine Pl.H.start (S := fun w' => Below w0.heap.size w0 w') (by kernel_rfl) hA hS0 ?_
  rw [show (Pl.find 3 ((Try.f13.body).getD .skip)).size = 5 by kernel_rfl]
  refine Pl.H.take 0 12 (.slice pa pl pc) (by kernel_rfl) (by kernel_rfl) (by kernel_rfl) (Pl.free 0 (by kernel_rfl)) (Pl.move 0 (.tmp 0) (by kernel_rfl) (by decide)) hS0 ?_
  refine Pl.H.take 1 13 (.string (bstr xs)) (by kernel_rfl) (by kernel_rfl) (by kernel_rfl) (Pl.free 1 (by kernel_rfl)) (Pl.convV 1 32 9 (.tmp 12) (.slice pa pl pc) _ (by kernel_rfl) (by decide) rfl (fun w' hS => run_string_of pc (hc.bs.keep hS (Nat.le_refl _)))) hS0 ?_
  have hSm : Below w0.heap.size w0 (w.drew.alloc (.cells (vals (nul512)).toArray 5)) := hS0.alloc hS0.size _
  have hbm : Bs (w.drew.alloc (.cells (vals (nul512)).toArray 5)) (some ⟨w.drew.heap.size, 0, none⟩) 512 (nul512) := by
    have := bs_marked w.drew nul512 (0, 0) nul512_bytes
    rwa [nul512_len] at this
  refine Pl.H.make 2 14 (.slice (some ⟨w.drew.heap.size, 0, none⟩) 512 512) (w.drew.alloc (.cells (vals (nul512)).toArray 5)) (by kernel_rfl) (by kernel_rfl) (by kernel_rfl) (Pl.free 2 (by kernel_rfl)) (Pl.mkV 2 32 (.const (.int .i64 512)) (.const (.int .i64 512)) _ _ (by kernel_rfl) (by decide) (by decide) (make512 w.drew)) hSm ?_
  refine Pl.H.make 3 15 (.string (bstr (nul512))) (w.drew.alloc (.cells (vals (nul512)).toArray 5)) (by kernel_rfl) (by kernel_rfl) (by kernel_rfl) (Pl.free 3 (by kernel_rfl)) (Pl.conv1 3 32 9 (.tmp 14) _ (by kernel_rfl) (by decide) (run_string_of 512 hbm)) hSm ?_
  refine Pl.H.take 4 16 (.bool false) (by kernel_rfl) (by kernel_rfl) (by kernel_rfl) (Pl.free 4 (by kernel_rfl)) (Pl.binV 4 .eql 9 9 (.tmp 13) (.tmp 15) (.string (bstr xs)) (.string (bstr (nul512))) _ (by kernel_rfl) (by decide) (by decide) rfl rfl (fun w => by simp [go_sem, eqGuard, hne])) hSm ?_
  refine Pl.H.done (by kernel_rfl) (fun A' hA' => ?_)
  rw [Pl.At.ext hA' (((((hA.put 12 _).put 13 _).put 14 _).put 15 _).put 16 _)]
  exact hend (fun d => if d = 12 then .slice pa pl pc else if d = 13 then .string (bstr xs) else if d = 14 then .slice (some ⟨w.drew.heap.size, 0, none⟩) 512 512 else if d = 15 then .string (bstr (nul512)) else undef) _ hSm

set_option maxHeartbeats 2000000 in
set_option maxRecDepth 100000 in
theorem rdc5a (w0 w : World) (pa : Option Addr) (pl pc : Nat) (xs : List Nat) (hc : Came w0 pa pl pc xs) (h4 : 4 ≤ pl) (hm : pl ≤ 100000) (hbx : Ta.Bytes (xs.drop 4)) (hsl : Sealed xs) (hW : Below w0.heap.size w0 w)
    {Q : Exit → Act → World → Prop} {A : Act} (hsz : A.tmps.size = 69) (hdf : A.defers = []) (s0 : A.tmps.getD 0 undef = .slice pa pl pc)
    (hend : ∀ (u : Nat → Value) w', Below w0.heap.size w0 w' → Q .normal ((((((((A).put (some 18) (u 18)).put (some 19) (u 19)).put (some 22) (u 22)).put (some 23) (u 23)).put (some 20) (u 20)).put (some 21) (u 21)).put (some 24) (.bool false)) w') :
    (Code.region 5 (Pl.find 5 ((Try.f13.body).getD .skip)) true).wp Try.prog Q A w := by
  have hS0 : Below w0.heap.size w0 w.drew := hW.drew
  have hA := Pl.At.same (v := .slice pa pl pc) (d := 0) (Pl.At.here hsz hdf) s0
  refine Pl.H.start (S := fun w' => Below w0.heap.size w0 w') (by kernel_rfl) hA hS0 ?_
  rw [show (Pl.find 5 ((Try.f13.body).getD .skip)).size = 7 by kernel_rfl]
  refine Pl.H.take 0 18 (.slice pa pl pc) (by kernel_rfl) (by kernel_rfl) (by kernel_rfl) (Pl.free 0 (by kernel_rfl)) (Pl.move 0 (.tmp 0) (by kernel_rfl) (by decide)) hS0 ?_
  refine Pl.H.take 1 19 (.slice (fromA pa pc 4) (pl - 4) (pc - 4)) (by kernel_rfl) (by kernel_rfl) (by kernel_rfl) (Pl.free 1 (by kernel_rfl)) (Pl.slice 1 32 (.tmp 18) (some (.const (.int .i64 4))) none _ (by kernel_rfl) (by decide) (by decide) (by decide) (fun w => slice_from pa pl pc 4 h4 w)) hS0 ?_
  refine Pl.H.take 4 22 (.slice pa pl pc) (by kernel_rfl) (by kernel_rfl) (by kernel_rfl) (Pl.free 4 (by kernel_rfl)) (Pl.move 4 (.tmp 0) (by kernel_rfl) (by decide)) hS0 ?_
  refine Pl.H.take 5 23 (.string (bstr xs)) (by kernel_rfl) (by kernel_rfl) (by kernel_rfl) (Pl.free 5 (by kernel_rfl)) (Pl.convV 5 32 9 (.tmp 22) (.slice pa pl pc) _ (by kernel_rfl) (by decide) rfl (fun w' hS => run_string_of pc (hc.bs.keep hS (Nat.le_refl _)))) hS0 ?_
  refine Pl.H.call 2 20 25 [(.tmp 19)] #[32] (by kernel_rfl) (by kernel_rfl) (by kernel_rfl) (Pl.free 2 (by kernel_rfl)) (by kernel_rfl) (by decide) enters25 (Calls.mono (rseal_any (fromA pa pc 4) (pl - 4) (pc - 4) (xs.drop 4) w.drew ((hc.keep hS0 (Nat.le_refl _)).from h4).bs ((hc.keep hS0 (Nat.le_refl _)).from h4).nil (by omega)) ?_)
  rintro e w1 ⟨v1, rfl, ho1, hb1⟩
  have hS1 : Below w0.heap.size w0 w1 := rBelow' hS0 hb1
  obtain ⟨ba, be, rfl, hbs1, _⟩ := ho1.bs (sealed_bytes hbx)
  refine ⟨.slice ba (fourB (Ta.sum (xs.drop 4)) ++ xs.drop 4).length be, rfl, hS1, ?_⟩
  refine Pl.H.make 3 21 (.string (bstr xs)) w1 (by kernel_rfl) (by kernel_rfl) (by kernel_rfl) (Pl.free 3 (by kernel_rfl)) (Pl.conv1 3 32 9 (.tmp 20) _ (by kernel_rfl) (by decide) (by have h := run_string_of be hbs1; unfold Sealed at hsl; rw [hsl] at h; rw [hsl]; exact h)) hS1 ?_
  refine Pl.H.take 6 24 (.bool false) (by kernel_rfl) (by kernel_rfl) (by kernel_rfl) (Pl.free 6 (by kernel_rfl)) (Pl.binV 6 .neq 9 9 (.tmp 21) (.tmp 23) (.string (bstr xs)) (.string (bstr xs)) _ (by kernel_rfl) (by decide) (by decide) rfl rfl (fun w => by simp [go_sem, eqGuard])) hS1 ?_
  refine Pl.H.done (by kernel_rfl) (fun A' hA' => ?_)
  rw [Pl.At.ext hA' (((((((hA.put 18 _).put 19 _).put 22 _).put 23 _).put 20 _).put 21 _).put 24 _)]
  exact hend (fun d => if d = 18 then .slice pa pl pc else if d = 19 then .slice (fromA pa pc 4) (pl - 4) (pc - 4) else if d = 22 then .slice pa pl pc else if d = 23 then .string (bstr xs) else if d = 20 then .slice ba (fourB (Ta.sum (xs.drop 4)) ++ xs.drop 4).length be else if d = 21 then .string (bstr xs) else undef) _ hS1

set_option maxHeartbeats 2000000 in
set_option maxRecDepth 100000 in
theorem rdc5b (w0 w : World) (pa : Option Addr) (pl pc : Nat) (xs : List Nat) (hc : Came w0 pa pl pc xs) (h4 : 4 ≤ pl) (hm : pl ≤ 100000) (hbx : Ta.Bytes (xs.drop 4)) (hne : ¬ (bstr (fourB (Ta.sum (xs.drop 4)) ++ xs.drop 4)).toList = (bstr xs).toList) (hW : Below w0.heap.size w0 w)
    {Q : Exit → Act → World → Prop} {A : Act} (hsz : A.tmps.size = 69) (hdf : A.defers = []) (s0 : A.tmps.getD 0 undef = .slice pa pl pc)
    (hend : ∀ (u : Nat → Value) w', Below w0.heap.size w0 w' → Q .normal ((((((((A).put (some 18) (u 18)).put (some 19) (u 19)).put (some 22) (u 22)).put (some 23) (u 23)).put (some 20) (u 20)).put (some 21) (u 21)).put (some 24) (.bool true)) w') :
    (Code.region 5 (Pl.find 5 ((Try.f13.body).getD .skip)) true).wp Try.prog Q A w := by
  have hS0 : Below w0.heap.size w0 w.drew := hW.drew
  have hA := Pl.At.same (v := .slice pa pl pc) (d := 0) (Pl.At.here hsz hdf) s0
  refine Pl.H.start (S := fun w' => Below w0.heap.size w0 w') (by kernel_rfl) hA hS0 ?_
  rw [show (Pl.find 5 ((Try.f13.body).getD .skip)).size = 7 by kernel_rfl]
  refine Pl.H.take 0 18 (.slice pa pl pc) (by kernel_rfl) (by kernel_rfl) (by kernel_rfl) (Pl.free 0 (by kernel_rfl)) (Pl.move 0 (.tmp 0) (by kernel_rfl) (by decide)) hS0 ?_
  refine Pl.H.take 1 19 (.slice (fromA pa pc 4) (pl - 4) (pc - 4)) (by kernel_rfl) (by kernel_rfl) (by kernel_rfl) (Pl.free 1 (by kernel_rfl)) (Pl.slice 1 32 (.tmp 18) (some (.const (.int .i64 4))) none _ (by kernel_rfl) (by decide) (by decide) (by decide) (fun w => slice_from pa pl pc 4 h4 w)) hS0 ?_
  refine Pl.H.take 4 22 (.slice pa pl pc) (by kernel_rfl) (by kernel_rfl) (by kernel_rfl) (Pl.free 4 (by kernel_rfl)) (Pl.move 4 (.tmp 0) (by kernel_rfl) (by decide)) hS0 ?_
  refine Pl.H.take 5 23 (.string (bstr xs)) (by kernel_rfl) (by kernel_rfl) (by kernel_rfl) (Pl.free 5 (by kernel_rfl)) (Pl.convV 5 32 9 (.tmp 22) (.slice pa pl pc) _ (by kernel_rfl) (by decide) rfl (fun w' hS => run_string_of pc (hc.bs.keep hS (Nat.le_refl _)))) hS0 ?_
  refine Pl.H.call 2 20 25 [(.tmp 19)] #[32] (by kernel_rfl) (by kernel_rfl) (by kernel_rfl) (Pl.free 2 (by kernel_rfl)) (by kernel_rfl) (by decide) enters25 (Calls.mono (rseal_any (fromA pa pc 4) (pl - 4) (pc - 4) (xs.drop 4) w.drew ((hc.keep hS0 (Nat.le_refl _)).from h4).bs ((hc.keep hS0 (Nat.le_refl _)).from h4).nil (by omega)) ?_)
  rintro e w1 ⟨v1, rfl, ho1, hb1⟩
  have hS1 : Below w0.heap.size w0 w1 := rBelow' hS0 hb1
  obtain ⟨ba, be, rfl, hbs1, _⟩ := ho1.bs (sealed_bytes hbx)
  refine ⟨.slice ba (fourB (Ta.sum (xs.drop 4)) ++ xs.drop 4).length be, rfl, hS1, ?_⟩
  refine Pl.H.make 3 21 (.string (bstr (fourB (Ta.sum (xs.drop 4)) ++ xs.drop 4))) w1 (by kernel_rfl) (by kernel_rfl) (by kernel_rfl) (Pl.free 3 (by kernel_rfl)) (Pl.conv1 3 32 9 (.tmp 20) _ (by kernel_rfl) (by decide) (run_string_of be hbs1)) hS1 ?_
  refine Pl.H.take 6 24 (.bool true) (by kernel_rfl) (by kernel_rfl) (by kernel_rfl) (Pl.free 6 (by kernel_rfl)) (Pl.binV 6 .neq 9 9 (.tmp 21) (.tmp 23) (.string (bstr (fourB (Ta.sum (xs.drop 4)) ++ xs.drop 4))) (.string (bstr xs)) _ (by kernel_rfl) (by decide) (by decide) rfl rfl (fun w => by simp [go_sem, eqGuard, hne])) hS1 ?_
  refine Pl.H.done (by kernel_rfl) (fun A' hA' => ?_)
  rw [Pl.At.ext hA' (((((((hA.put 18 _).put 19 _).put 22 _).put 23 _).put 20 _).put 21 _).put 24 _)]
  exact hend (fun d => if d = 18 then .slice pa pl pc else if d = 19 then .slice (fromA pa pc 4) (pl - 4) (pc - 4) else if d = 22 then .slice pa pl pc else if d = 23 then .string (bstr xs) else if d = 20 then .slice ba (fourB (Ta.sum (xs.drop 4)) ++ xs.drop 4).length be else if d = 21 then .string (bstr (fourB (Ta.sum (xs.drop 4)) ++ xs.drop 4)) else undef) _ hS1

set_option maxHeartbeats 2000000 in
set_option maxRecDepth 100000 in
theorem rdc16a (w0 w : World) (pa : Option Addr) (pl pc : Nat) (xs : List Nat) (hc : Came w0 pa pl pc xs) (ua : Option Addr) (uc : Nat) (l : List Ux) (hu : Us w0 ua 6 l) (hm : MayC (uns l) = false) (hW : Below w0.heap.size w0 w)
    {Q : Exit → Act → World → Prop} {A : Act} (hsz : A.tmps.size = 69) (hdf : A.defers = []) (s0 : A.tmps.getD 0 undef = .slice pa pl pc) (s4 : A.tmps.getD 4 undef = .slice ua 6 uc)
    (hend : ∀ (u : Nat → Value) w', Below w0.heap.size w0 w' → Q .normal ((((((((((((A).put (some 57) (u 57)).put (some 58) (u 58)).put (some 59) (u 59)).put (some 60) (u 60)).put (some 61) (u 61)).put (some 62) (u 62)).put (some 63) (u 63)).put (some 64) (u 64)).put (some 65) (u 65)).put (some 66) (u 66)).put (some 67) (.bool true)) w') :
    (Code.region 16 (Pl.find 16 ((Try.f13.body).getD .skip)) true).wp Try.prog Q A w := by
  have hS0 : Below w0.heap.size w0 w.drew := hW.drew
  have hA := Pl.At.same (v := .slice ua 6 uc) (d := 4) (Pl.At.same (v := .slice pa pl pc) (d := 0) (Pl.At.here hsz hdf) s0) s4
  refine Pl.H.start (S := fun w' => Below w0.heap.size w0 w') (by kernel_rfl) hA hS0 ?_
  rw [show (Pl.find 16 ((Try.f13.body).getD .skip)).size = 11 by kernel_rfl]
  refine Pl.H.take 0 57 (.slice ua 6 uc) (by kernel_rfl) (by kernel_rfl) (by kernel_rfl) (Pl.free 0 (by kernel_rfl)) (Pl.move 0 (.tmp 4) (by kernel_rfl) (by decide)) hS0 ?_
  refine Pl.H.call 1 58 9 [(.tmp 57)] #[22] (by kernel_rfl) (by kernel_rfl) (by kernel_rfl) (Pl.free 1 (by kernel_rfl)) (by kernel_rfl) (by decide) enters9 (Calls.mono (mayCIs hm ua 6 uc w.drew (hu.keep hS0 (Nat.le_refl _)) (by omega)) ?_)
  rintro e w1 ⟨rfl, hb1⟩
  have hS1 : Below w0.heap.size w0 w1 := rBelow' hS0 hb1
  refine ⟨.bool false, rfl, hS1, ?_⟩
  refine Pl.H.take 2 59 (.bool true) (by kernel_rfl) (by kernel_rfl) (by kernel_rfl) (Pl.free 2 (by kernel_rfl)) (Pl.neg 2 4 (.tmp 58) false (by kernel_rfl) (by decide) rfl) hS1 ?_
  refine Pl.H.take 3 60 (.bool true) (by kernel_rfl) (by kernel_rfl) (by kernel_rfl) (Pl.free 3 (by kernel_rfl)) (Pl.move 3 (.tmp 59) (by kernel_rfl) (by decide)) hS1 ?_
  refine Pl.H.skip 4 61 (by kernel_rfl) (by kernel_rfl) (by kernel_rfl) (Pl.unwanted 4 3 60 false (by kernel_rfl) (by kernel_rfl) (by decide) rfl) hS1 ?_
  refine Pl.H.skip 5 62 (by kernel_rfl) (by kernel_rfl) (by kernel_rfl) (Pl.unwanted 5 3 60 false (by kernel_rfl) (by kernel_rfl) (by decide) rfl) hS1 ?_
  refine Pl.H.skip 6 63 (by kernel_rfl) (by kernel_rfl) (by kernel_rfl) (Pl.unwanted 6 3 60 false (by kernel_rfl) (by kernel_rfl) (by decide) rfl) hS1 ?_
  refine Pl.H.skip 7 64 (by kernel_rfl) (by kernel_rfl) (by kernel_rfl) (Pl.unwanted 7 3 60 false (by kernel_rfl) (by kernel_rfl) (by decide) rfl) hS1 ?_
  refine Pl.H.skip 8 65 (by kernel_rfl) (by kernel_rfl) (by kernel_rfl) (Pl.unwanted 8 3 60 false (by kernel_rfl) (by kernel_rfl) (by decide) rfl) hS1 ?_
  refine Pl.H.skip 9 66 (by kernel_rfl) (by kernel_rfl) (by kernel_rfl) (Pl.unwanted 9 3 60 false (by kernel_rfl) (by kernel_rfl) (by decide) rfl) hS1 ?_
  refine Pl.H.take 10 67 (.bool true) (by kernel_rfl) (by kernel_rfl) (by kernel_rfl) (Pl.free 10 (by kernel_rfl)) (Pl.pick 10 (.tmp 60) (.const (.bool true)) (.tmp 66) (by kernel_rfl) (by decide) (by decide) rfl) hS1 ?_
  refine Pl.H.done (by kernel_rfl) (fun A' hA' => ?_)
  rw [Pl.At.ext hA' (((((((((((hA.put 57 _).put 58 _).put 59 _).put 60 _).put 61 _).put 62 _).put 63 _).put 64 _).put 65 _).put 66 _).put 67 _)]
  exact hend (fun d => if d = 57 then .slice ua 6 uc else if d = 58 then .bool false else if d = 59 then .bool true else if d = 60 then .bool true else if d = 61 then undef else if d = 62 then undef else if d = 63 then undef else if d = 64 then undef else if d = 65 then undef else if d = 66 then undef else undef) _ hS1

set_option maxHeartbeats 2000000 in
set_option maxRecDepth 100000 in
theorem rdc16b (w0 w : World) (pa : Option Addr) (pl pc : Nat) (xs : List Nat) (hc : Came w0 pa pl pc xs) (ua : Option Addr) (uc : Nat) (l : List Ux) (hu : Us w0 ua 6 l) (hm : MayC (uns l) = true) (hne : ¬ (bstr (fourB (Ta.sum (textC (uns l))) ++ textC (uns l))).toList = (bstr xs).toList) (hW : Below w0.heap.size w0 w)
    {Q : Exit → Act → World → Prop} {A : Act} (hsz : A.tmps.size = 69) (hdf : A.defers = []) (s0 : A.tmps.getD 0 undef = .slice pa pl pc) (s4 : A.tmps.getD 4 undef = .slice ua 6 uc)
    (hend : ∀ (u : Nat → Value) w', Below w0.heap.size w0 w' → Q .normal ((((((((((((A).put (some 57) (u 57)).put (some 58) (u 58)).put (some 59) (u 59)).put (some 60) (u 60)).put (some 61) (u 61)).put (some 64) (u 64)).put (some 65) (u 65)).put (some 62) (u 62)).put (some 63) (u 63)).put (some 66) (u 66)).put (some 67) (.bool true)) w') :
    (Code.region 16 (Pl.find 16 ((Try.f13.body).getD .skip)) true).wp Try.prog Q A w := by
  have hS0 : Below w0.heap.size w0 w.drew := hW.drew
  have hA := Pl.At.same (v := .slice ua 6 uc) (d := 4) (Pl.At.same (v := .slice pa pl pc) (d := 0) (Pl.At.here hsz hdf) s0) s4
  refine Pl.H.start (S := fun w' => Below w0.heap.size w0 w') (by kernel_rfl) hA hS0 ?_
  rw [show (Pl.find 16 ((Try.f13.body).getD .skip)).size = 11 by kernel_rfl]
  refine Pl.H.take 0 57 (.slice ua 6 uc) (by kernel_rfl) (by kernel_rfl) (by kernel_rfl) (Pl.free 0 (by kernel_rfl)) (Pl.move 0 (.tmp 4) (by kernel_rfl) (by decide)) hS0 ?_
  refine Pl.H.call 1 58 9 [(.tmp 57)] #[22] (by kernel_rfl) (by kernel_rfl) (by kernel_rfl) (Pl.free 1 (by kernel_rfl)) (by kernel_rfl) (by decide) enters9 (Calls.mono (mayCIs hm ua 6 uc w.drew (hu.keep hS0 (Nat.le_refl _)) (by omega)) ?_)
  rintro e w1 ⟨rfl, hb1⟩
  have hS1 : Below w0.heap.size w0 w1 := rBelow' hS0 hb1
  refine ⟨.bool true, rfl, hS1, ?_⟩
  refine Pl.H.take 2 59 (.bool false) (by kernel_rfl) (by kernel_rfl) (by kernel_rfl) (Pl.free 2 (by kernel_rfl)) (Pl.neg 2 4 (.tmp 58) true (by kernel_rfl) (by decide) rfl) hS1 ?_
  refine Pl.H.take 3 60 (.bool false) (by kernel_rfl) (by kernel_rfl) (by kernel_rfl) (Pl.free 3 (by kernel_rfl)) (Pl.move 3 (.tmp 59) (by kernel_rfl) (by decide)) hS1 ?_
  refine Pl.H.take 4 61 (.slice ua 6 uc) (by kernel_rfl) (by kernel_rfl) (by kernel_rfl) (Pl.guarded 4 3 60 false (by kernel_rfl) (by kernel_rfl) (by decide) rfl) (Pl.move 4 (.tmp 4) (by kernel_rfl) (by decide)) hS1 ?_
  refine Pl.H.take 7 64 (.slice pa pl pc) (by kernel_rfl) (by kernel_rfl) (by kernel_rfl) (Pl.guarded 7 3 60 false (by kernel_rfl) (by kernel_rfl) (by decide) rfl) (Pl.move 7 (.tmp 0) (by kernel_rfl) (by decide)) hS1 ?_
  refine Pl.H.take 8 65 (.string (bstr xs)) (by kernel_rfl) (by kernel_rfl) (by kernel_rfl) (Pl.guarded 8 3 60 false (by kernel_rfl) (by kernel_rfl) (by decide) rfl) (Pl.convV 8 32 9 (.tmp 64) (.slice pa pl pc) _ (by kernel_rfl) (by decide) rfl (fun w' hS => run_string_of pc (hc.bs.keep hS (Nat.le_refl _)))) hS1 ?_
  refine Pl.H.call 5 62 11 [(.tmp 61)] #[22] (by kernel_rfl) (by kernel_rfl) (by kernel_rfl) (Pl.guarded 5 3 60 false (by kernel_rfl) (by kernel_rfl) (by decide) rfl) (by kernel_rfl) (by decide) enters11 (Calls.mono (refPageC_any ua uc l w1 (hu.keep hS1 (Nat.le_refl _)) hm) ?_)
  rintro e w2 ⟨v2, rfl, ho2, hb2⟩
  have hS2 : Below w0.heap.size w0 w2 := rBelow' hS1 hb2
  obtain ⟨ba, be, rfl, hbs1, _⟩ := ho2.bs (sealed_bytes (textC_bytes hm))
  refine ⟨.slice ba (fourB (Ta.sum (textC (uns l))) ++ textC (uns l)).length be, rfl, hS2, ?_⟩
  refine Pl.H.make 6 63 (.string (bstr (fourB (Ta.sum (textC (uns l))) ++ textC (uns l)))) w2 (by kernel_rfl) (by kernel_rfl) (by kernel_rfl) (Pl.guarded 6 3 60 false (by kernel_rfl) (by kernel_rfl) (by decide) rfl) (Pl.conv1 6 32 9 (.tmp 62) _ (by kernel_rfl) (by decide) (run_string_of be hbs1)) hS2 ?_
  refine Pl.H.take 9 66 (.bool true) (by kernel_rfl) (by kernel_rfl) (by kernel_rfl) (Pl.guarded 9 3 60 false (by kernel_rfl) (by kernel_rfl) (by decide) rfl) (Pl.binV 9 .neq 9 9 (.tmp 63) (.tmp 65) (.string (bstr (fourB (Ta.sum (textC (uns l))) ++ textC (uns l)))) (.string (bstr xs)) _ (by kernel_rfl) (by decide) (by decide) rfl rfl (fun w => by simp [go_sem, eqGuard, hne])) hS2 ?_
  refine Pl.H.take 10 67 (.bool true) (by kernel_rfl) (by kernel_rfl) (by kernel_rfl) (Pl.free 10 (by kernel_rfl)) (Pl.pickF 10 (.tmp 60) (.const (.bool true)) (.tmp 66) (by kernel_rfl) (by decide) (by decide) rfl) hS2 ?_
  refine Pl.H.done (by kernel_rfl) (fun A' hA' => ?_)
  rw [Pl.At.ext hA' (((((((((((hA.put 57 _).put 58 _).put 59 _).put 60 _).put 61 _).put 64 _).put 65 _).put 62 _).put 63 _).put 66 _).put 67 _)]
  exact hend (fun d => if d = 57 then .slice ua 6 uc else if d = 58 then .bool true else if d = 59 then .bool false else if d = 60 then .bool false else if d = 61 then .slice ua 6 uc else if d = 64 then .slice pa pl pc else if d = 65 then .string (bstr xs) else if d = 62 then .slice ba (fourB (Ta.sum (textC (uns l))) ++ textC (uns l)).length be else if d = 63 then .string (bstr (fourB (Ta.sum (textC (uns l))) ++ textC (uns l))) else if d = 66 then .bool true else undef) _ hS2

set_option maxHeartbeats 2000000 in
set_option maxRecDepth 100000 in
theorem rdc16c (w0 w : World) (pa : Option Addr) (pl pc : Nat) (xs : List Nat) (hc : Came w0 pa pl pc xs) (ua : Option Addr) (uc : Nat) (l : List Ux) (hu : Us w0 ua 6 l) (hm : MayC (uns l) = true) (hpx : (fourB (Ta.sum (textC (uns l))) ++ textC (uns l)) = xs) (hW : Below w0.heap.size w0 w)
    {Q : Exit → Act → World → Prop} {A : Act} (hsz : A.tmps.size = 69) (hdf : A.defers = []) (s0 : A.tmps.getD 0 undef = .slice pa pl pc) (s4 : A.tmps.getD 4 undef = .slice ua 6 uc)
    (hend : ∀ (u : Nat → Value) w', Below w0.heap.size w0 w' → Q .normal ((((((((((((A).put (some 57) (u 57)).put (some 58) (u 58)).put (some 59) (u 59)).put (some 60) (u 60)).put (some 61) (u 61)).put (some 64) (u 64)).put (some 65) (u 65)).put (some 62) (u 62)).put (some 63) (u 63)).put (some 66) (u 66)).put (some 67) (.bool false)) w') :
    (Code.region 16 (Pl.find 16 ((Try.f13.body).getD .skip)) true).wp Try.prog Q A w := by
  have hS0 : Below w0.heap.size w0 w.drew := hW.drew
  have hA := Pl.At.same (v := .slice ua 6 uc) (d := 4) (Pl.At.same (v := .slice pa pl pc) (d := 0) (Pl.At.here hsz hdf) s0) s4
  refine Pl.H.start (S := fun w' => Below w0.heap.size w0 w') (by kernel_rfl) hA hS0 ?_
  rw [show (Pl.find 16 ((Try.f13.body).getD .skip)).size = 11 by kernel_rfl]
  refine Pl.H.take 0 57 (.slice ua 6 uc) (by kernel_rfl) (by kernel_rfl) (by kernel_rfl) (Pl.free 0 (by kernel_rfl)) (Pl.move 0 (.tmp 4) (by kernel_rfl) (by decide)) hS0 ?_
  refine Pl.H.call 1 58 9 [(.tmp 57)] #[22] (by kernel_rfl) (by kernel_rfl) (by kernel_rfl) (Pl.free 1 (by kernel_rfl)) (by kernel_rfl) (by decide) enters9 (Calls.mono (mayCIs hm ua 6 uc w.drew (hu.keep hS0 (Nat.le_refl _)) (by omega)) ?_)
  rintro e w1 ⟨rfl, hb1⟩
  have hS1 : Below w0.heap.size w0 w1 := rBelow' hS0 hb1
  refine ⟨.bool true, rfl, hS1, ?_⟩
  refine Pl.H.take 2 59 (.bool false) (by kernel_rfl) (by kernel_rfl) (by kernel_rfl) (Pl.free 2 (by kernel_rfl)) (Pl.neg 2 4 (.tmp 58) true (by kernel_rfl) (by decide) rfl) hS1 ?_
  refine Pl.H.take 3 60 (.bool false) (by kernel_rfl) (by kernel_rfl) (by kernel_rfl) (Pl.free 3 (by kernel_rfl)) (Pl.move 3 (.tmp 59) (by kernel_rfl) (by decide)) hS1 ?_
  refine Pl.H.take 4 61 (.slice ua 6 uc) (by kernel_rfl) (by kernel_rfl) (by kernel_rfl) (Pl.guarded 4 3 60 false (by kernel_rfl) (by kernel_rfl) (by decide) rfl) (Pl.move 4 (.tmp 4) (by kernel_rfl) (by decide)) hS1 ?_
  refine Pl.H.take 7 64 (.slice pa pl pc) (by kernel_rfl) (by kernel_rfl) (by kernel_rfl) (Pl.guarded 7 3 60 false (by kernel_rfl) (by kernel_rfl) (by decide) rfl) (Pl.move 7 (.tmp 0) (by kernel_rfl) (by decide)) hS1 ?_
  refine Pl.H.take 8 65 (.string (bstr xs)) (by kernel_rfl) (by kernel_rfl) (by kernel_rfl) (Pl.guarded 8 3 60 false (by kernel_rfl) (by kernel_rfl) (by decide) rfl) (Pl.convV 8 32 9 (.tmp 64) (.slice pa pl pc) _ (by kernel_rfl) (by decide) rfl (fun w' hS => run_string_of pc (hc.bs.keep hS (Nat.le_refl _)))) hS1 ?_
  refine Pl.H.call 5 62 11 [(.tmp 61)] #[22] (by kernel_rfl) (by kernel_rfl) (by kernel_rfl) (Pl.guarded 5 3 60 false (by kernel_rfl) (by kernel_rfl) (by decide) rfl) (by kernel_rfl) (by decide) enters11 (Calls.mono (refPageC_any ua uc l w1 (hu.keep hS1 (Nat.le_refl _)) hm) ?_)
  rintro e w2 ⟨v2, rfl, ho2, hb2⟩
  have hS2 : Below w0.heap.size w0 w2 := rBelow' hS1 hb2
  obtain ⟨ba, be, rfl, hbs1, _⟩ := ho2.bs (sealed_bytes (textC_bytes hm))
  refine ⟨.slice ba (fourB (Ta.sum (textC (uns l))) ++ textC (uns l)).length be, rfl, hS2, ?_⟩
  refine Pl.H.make 6 63 (.string (bstr xs)) w2 (by kernel_rfl) (by kernel_rfl) (by kernel_rfl) (Pl.guarded 6 3 60 false (by kernel_rfl) (by kernel_rfl) (by decide) rfl) (Pl.conv1 6 32 9 (.tmp 62) _ (by kernel_rfl) (by decide) (by rw [← hpx]; exact run_string_of be hbs1)) hS2 ?_
  refine Pl.H.take 9 66 (.bool false) (by kernel_rfl) (by kernel_rfl) (by kernel_rfl) (Pl.guarded 9 3 60 false (by kernel_rfl) (by kernel_rfl) (by decide) rfl) (Pl.binV 9 .neq 9 9 (.tmp 63) (.tmp 65) (.string (bstr xs)) (.string (bstr xs)) _ (by kernel_rfl) (by decide) (by decide) rfl rfl (fun w => by simp [go_sem, eqGuard])) hS2 ?_
  refine Pl.H.take 10 67 (.bool false) (by kernel_rfl) (by kernel_rfl) (by kernel_rfl) (Pl.free 10 (by kernel_rfl)) (Pl.pickF 10 (.tmp 60) (.const (.bool true)) (.tmp 66) (by kernel_rfl) (by decide) (by decide) rfl) hS2 ?_
  refine Pl.H.done (by kernel_rfl) (fun A' hA' => ?_)
  rw [Pl.At.ext hA' (((((((((((hA.put 57 _).put 58 _).put 59 _).put 60 _).put 61 _).put 64 _).put 65 _).put 62 _).put 63 _).put 66 _).put 67 _)]
  exact hend (fun d => if d = 57 then .slice ua 6 uc else if d = 58 then .bool true else if d = 59 then .bool false else if d = 60 then .bool false else if d = 61 then .slice ua 6 uc else if d = 64 then .slice pa pl pc else if d = 65 then .string (bstr xs) else if d = 62 then .slice ba (fourB (Ta.sum (textC (uns l))) ++ textC (uns l)).length be else if d = 63 then .string (bstr xs) else if d = 66 then .bool false else undef) _ hS2

end Go.Proofs.Ytnhhapipadiffaa
