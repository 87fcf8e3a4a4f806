/-
  Layer 12: a pool of a call's own, and blocks that are apart from it; drawn regions of the law of reading.
-/
import Derived.Test.YtenaonnijpnnaaaPoH
namespace Go.Proofs.Ytenaonnijpnnaaa
open Go.RowKit
set_option maxRecDepth 100000
set_option linter.unusedVariables false

/-! ### Blocks apart -/
def Oug (M : PoM) (w0 : World) (G : Nat → Prop) (w : World) (p d : Nat) (P : Po) : Prop := ∃ L X, Mp M w0 w p d P L X ∧ ∀ k, G k → k < w.heap.size ∧ ¬ (X k ∨ L.F d k)
def KeptG (G : Nat → Prop) (w w' : World) : Prop := ∀ k, G k → w'.heap[k]? = w.heap[k]?
theorem KeptG.trans {G : Nat → Prop} {a b c : World} (h : KeptG G a b) (h' : KeptG G b c) : KeptG G a c := fun k hk => (h' k hk).trans (h k hk)
theorem KeptG.cell {G : Nat → Prop} {a b : World} (h : KeptG G a b) {k o : Nat} (hk : G k) : b.cell? ⟨k, o, none⟩ = a.cell? ⟨k, o, none⟩ := by
  unfold World.cell?
  rw [h k hk]
theorem Oug.our {M : PoM} {w0 w : World} {G : Nat → Prop} {p d : Nat} {P : Po} (h : Oug M w0 G w p d P) : Our M w0 w p d P := by
  obtain ⟨L, X, h, _⟩ := h
  exact ⟨L, X, h⟩
theorem Our.oug {M : PoM} {w0 w : World} {p d : Nat} {P : Po} (h : Our M w0 w p d P) : Oug M w0 (fun _ => False) w p d P := by
  obtain ⟨L, X, h⟩ := h
  exact ⟨L, X, h, fun _ e => e.elim⟩
theorem Oug.below {M : PoM} {w0 w : World} {G : Nat → Prop} {p d : Nat} {P : Po} (h : Oug M w0 G w p d P) : Below w0.heap.size w0 w := h.our.below
theorem Oug.mono {M : PoM} {w0 w : World} {G G' : Nat → Prop} {p d : Nat} {P : Po} (h : Oug M w0 G w p d P) (hG : ∀ k, G' k → G k) : Oug M w0 G' w p d P := by
  obtain ⟨L, X, h, hg⟩ := h
  exact ⟨L, X, h, fun k hk => hg k (hG k hk)⟩
theorem Oug.keep {M : PoM} (S : PoolS M) {w0 w w' : World} {G : Nat → Prop} {p d : Nat} {P : Po} (h : Oug M w0 G w p d P) (hb : Below w.heap.size w w') : Oug M w0 G w' p d P ∧ KeptG G w w' := by
  obtain ⟨L, X, h, hg⟩ := h
  exact ⟨⟨L, X, h.keep S hb, fun k hk => ⟨Nat.lt_of_lt_of_le (hg k hk).1 hb.size, (hg k hk).2⟩⟩, fun k hk => hb.block k (hg k hk).1⟩
/-- One more, that was just made. -/
theorem Oug.more {M : PoM} (S : PoolS M) {w0 w w' : World} {G : Nat → Prop} {p d : Nat} {P : Po} (h : Oug M w0 G w p d P) (hb : Below w.heap.size w w') {g : Nat} (hg : w.heap.size ≤ g) (hg' : g < w'.heap.size) : Oug M w0 (fun k => G k ∨ k = g) w' p d P := by
  obtain ⟨L, X, h, hG⟩ := h
  refine ⟨L, X, h.keep S hb, fun k hk => ?_⟩
  rcases hk with hk | rfl
  · exact ⟨Nat.lt_of_lt_of_le (hG k hk).1 hb.size, (hG k hk).2⟩
  · refine ⟨hg', fun e => ?_⟩
    rcases e with e | e
    · have := S.lt h.m _ e; omega
    · have := (S.dev h.m).lt e; omega
/-- A cell of a block apart turns. -/
theorem Oug.store {M : PoM} (S : PoolS M) {w0 w : World} {G : Nat → Prop} {p d : Nat} {P : Po} (h : Oug M w0 G w p d P) {g i : Nat} (hg : G g) (hw : w0.heap.size ≤ g) (u : Value) : Oug M w0 G (w.setCell ⟨g, i, none⟩ u) p d P := by
  obtain ⟨L, X, h, hG⟩ := h
  have hf : Frm (fun k => k = g) w (w.setCell ⟨g, i, none⟩ u) := Frm.setCell (F := fun k => k = g) (p := ⟨g, i, none⟩) (Frm.refl _ _) rfl u
  refine ⟨L, X, ⟨S.frm h.m hf (fun k hk e => (hG g hg).2 (by rw [← e]; exact hk)), h.foot, h.below.trans (hf.below h.below.size (fun k hk => by rw [hk]; exact hw))⟩, fun k hk => ⟨Nat.lt_of_lt_of_le (hG k hk).1 hf.size, (hG k hk).2⟩⟩
theorem Mp.actG {M : PoM} {w0 w w' : World} {G : Nat → Prop} {p d : Nat} {P Q : Po} {L : Dl} {X : Nat → Prop} (h : Mp M w0 w p d P L X) (hG : ∀ k, G k → k < w.heap.size ∧ ¬ (X k ∨ L.F d k)) (a : Acted M w p d L X w' Q) : Oug M w0 G w' p d Q ∧ KeptG G w w' := by
  obtain ⟨L', X', hm, hf⟩ := a.ex
  refine ⟨⟨L', X', ⟨hm, fun k hk => (hf k hk).elim (h.foot k) (fun e => Nat.le_trans h.below.size e), h.below.trans (a.frm.below h.below.size h.foot)⟩, fun k hk => ⟨Nat.lt_of_lt_of_le (hG k hk).1 a.frm.size, fun e => ?_⟩⟩, fun k hk => a.frm.block k (hG k hk).1 (hG k hk).2⟩
  rcases hf k e with e | e
  · exact (hG k hk).2 e
  · have := (hG k hk).1
    omega
theorem Mp.turnG {M : PoM} (S : PoolS M) {w0 w w' : World} {G : Nat → Prop} {p d : Nat} {P : Po} {L L' : Dl} {D' : Ds} {X : Nat → Prop} (h : Mp M w0 w p d P L X) (hG : ∀ k, G k → k < w.heap.size ∧ ¬ (X k ∨ L.F d k)) (t : Turned w d L w' D' L') : Oug M w0 G w' p d { P with D := D' } ∧ KeptG G w w' := by
  refine ⟨⟨L', X, ⟨S.turn h.m t, fun k hk => hk.elim (fun e => h.foot k (.inl e)) (fun e => (t.foot k e).elim (fun g => h.foot k (.inr g)) (fun g => Nat.le_trans h.below.size g)), h.below.trans (t.frm.below h.below.size (fun k hk => h.foot k (.inr hk)))⟩, fun k hk => ⟨Nat.lt_of_lt_of_le (hG k hk).1 t.frm.size, fun e => ?_⟩⟩, fun k hk => t.frm.block k (hG k hk).1 (fun e => (hG k hk).2 (.inr e))⟩
  rcases e with e | e
  · exact (hG k hk).2 (.inl e)
  · rcases t.foot k e with e | e
    · exact (hG k hk).2 (.inr e)
    · have := (hG k hk).1
      omega
section
variable {M : PoM} {w0 w : World} {G : Nat → Prop} {p d : Nat} {P : Po} {n c : Nat}
theorem oug_read (S : PoolS M) (h : Oug M w0 G w p d P) (hP : P.Fine n c) (k : Nat) (hk : k < n) : Calls Try.prog 15 #[at0 p, .int .i64 ((k : Nat) : Int)] w fun e w' => (Oug M w0 G w' p d (P.letIn k) ∧ KeptG G w w') ∧ ∃ s : Sl, e = .returned (.tuple #[s.val, .int .i64 0]) ∧ Own 5 1 w' s (vals ((P.letIn k).con k)) ∧ s.len = 512 := by
  obtain ⟨L, X, h, hG⟩ := h
  refine (S.read w p d P L X n c k h.m hP hk).mono ?_
  rintro e w' ⟨ha, r⟩
  exact ⟨h.actG hG ha, r⟩
/-- A page of a block that was just made is put. -/
theorem oug_put (S : PoolS M) (h : Oug M w0 G w p d P) (hP : P.Fine n c) (k : Nat) (hk : k < n) (w2 : World) (hb : Below w.heap.size w w2) (g cap : Nat) (hg : w.heap.size ≤ g) (ys : List Nat) (hy : Came w2 (some ⟨g, 0, none⟩) 512 cap ys) (z : Int) (hz : (Lit.int .i64 z).wf = true) : Calls Try.prog 11 #[at0 p, .int .i64 ((k : Nat) : Int), .slice (some ⟨g, 0, none⟩) 512 cap, .int .i64 z] w2 fun e w' => e = .returned (.int .i64 0) ∧ Oug M w0 G w' p d (P.set k ys z) ∧ KeptG G w w' := by
  obtain ⟨L, X, h, hG⟩ := h
  have o2 := h.offNew S (o := 0) (len := 512) hg
  have k2 := h.keep S hb
  refine (S.put w2 p d P L X n c k _ cap ys z k2.m hP hk hy o2 hz).mono ?_
  rintro e w' ⟨ha, r⟩
  obtain ⟨x1, x2⟩ := k2.actG (G := G) (fun k hk => ⟨Nat.lt_of_lt_of_le (hG k hk).1 hb.size, (hG k hk).2⟩) ha
  exact ⟨r, x1, KeptG.trans (fun k hk => hb.block k (hG k hk).1) x2⟩
theorem oug_flush (S : PoolS M) (h : Oug M w0 G w p d P) (hP : P.Fine n c) : Calls Try.prog 13 #[at0 p] w fun e w' => (Oug M w0 G w' p d (P.flush n) ∧ KeptG G w w') ∧ ∃ r : Int, e = .returned (.int .i64 r) := by
  obtain ⟨L, X, h, hG⟩ := h
  refine (S.flush w p d P L X n c h.m hP).mono ?_
  rintro e w' ⟨ha, r⟩
  exact ⟨h.actG hG ha, _, r⟩
theorem oug_evict (S : PoolS M) (h : Oug M w0 G w p d P) (hP : P.Fine n c) (k : Int) (hw : (Lit.int .i64 k).wf = true) : Calls Try.prog 14 #[at0 p, .int .i64 k] w fun e w' => (Oug M w0 G w' p d (P.evictAny k) ∧ KeptG G w w') ∧ ∃ r : Int, e = .returned (.int .i64 r) := by
  obtain ⟨L, X, h, hG⟩ := h
  unfold Po.evictAny
  by_cases hk : 0 ≤ k ∧ (P.m k.toNat).isSome = true
  · rw [if_pos hk]
    obtain ⟨x, rfl⟩ : ∃ x : Nat, k = ((x : Nat) : Int) := ⟨k.toNat, by omega⟩
    rw [Int.toNat_natCast] at hk ⊢
    refine (S.evict w p d P L X n c x h.m hP hk.2).mono ?_
    rintro e w' ⟨ha, r⟩
    exact ⟨h.actG hG ha, _, r⟩
  · rw [if_neg hk]
    refine (S.evictNone w p d P L X n c k h.m hP hk hw).mono ?_
    rintro e w' ⟨hb, r⟩
    exact ⟨Oug.keep S ⟨L, X, h, hG⟩ hb, _, r⟩
/-- The stream grows. -/
theorem oug_append (S : PoolS M) (h : Oug M w0 G w p d P) (hP : P.Fine n c) (w2 : World) (hb : Below w.heap.size w w2) (g len cap : Nat) (hg : w.heap.size ≤ g) (ys : List Nat) (hy : Came w2 (some ⟨g, 0, none⟩) len cap ys) (hs : P.D.ss.length + len ≤ 65536) : Calls Try.prog 16 #[at0 d, .slice (some ⟨g, 0, none⟩) len cap] w2 fun e w' => e = .returned (.int .i64 0) ∧ Oug M w0 G w' p d { P with D := P.D.append ys } ∧ KeptG G w w' := by
  obtain ⟨L, X, h, hG⟩ := h
  have o2 := h.offNew S (o := 0) (len := len) hg
  have k2 := h.keep S hb
  refine (append_ok w2 d P.D L (S.dev k2.m) n hP.ok.sp hP.ok.n64 hP.wet.dev.n1 _ len cap ys hy (fun ad e hl hk => o2 ad e hl (.inr hk)) (fun e => by rw [hP.wet.dev.ar] at e; cases e) (by have := hP.wet.dev.ss; omega) hs).mono ?_
  rintro e w' ⟨r, L', ht⟩
  obtain ⟨x1, x2⟩ := k2.turnG S (G := G) (fun k hk => ⟨Nat.lt_of_lt_of_le (hG k hk).1 hb.size, (hG k hk).2⟩) ht
  exact ⟨r, x1, KeptG.trans (fun k hk => hb.block k (hG k hk).1) x2⟩
end

/-! ### An act in its box; strings in an array -/
theorem AcBlk.c0 {w : World} {p : Nat} {x : Ac} {b q : Sl} (h : AcBlk w p x b q) : w.cell? ⟨p, 0, none⟩ = some (.int .i64 x.do_) := (Addr.cell0 h).trans rfl
theorem AcBlk.c1 {w : World} {p : Nat} {x : Ac} {b q : Sl} (h : AcBlk w p x b q) : w.cell? ⟨p, 1, none⟩ = some (.int .i64 x.pg) := (Addr.cell0 h).trans rfl
theorem AcBlk.keepG {G : Nat → Prop} {w w' : World} {q : Nat} {x : Ac} {b s : Sl} (h : AcBlk w q x b s) (hk : KeptG G w w') (hg : G q) : AcBlk w' q x b s := (hk q hg).trans h
theorem store_acNew (x : Ac) (b q : Sl) (w : World) : (Instr.storeAt 36 (.pointer (some ⟨w.heap.size, 0, none⟩)) (.agg (x.cells b q))).run Try.prog (w.alloc (.cells #[.int .i64 0, .int .i64 0, .slice none 0 0, .int .i64 0, .slice none 0 0] 36)) = .ok () (w.alloc (.cells (x.cells b q) 36)) :=
  run_storeAt_new w 36 #[.int .i64 0, .int .i64 0, .slice none 0 0, .int .i64 0, .slice none 0 0] (x.cells b q) (by kernel_rfl) rfl (by simp [Ac.cells, Sl.val, Value.oneCell'])
theorem load_ao (b o : Nat) (t : Ao) (w : World) (h : AoAt w b o t) : (Instr.loadAt 36 (.pointer (some ⟨b, o, none⟩))).run Try.prog w = .ok (.agg (t.x.cells t.b t.q)) w := by
  obtain ⟨c0, c1, c2, c3, c4, _⟩ := h
  unfold Ac.cells Sl.val
  simp [go_sem, c0, c1, c2, c3, c4]


section
variable {ops : Array Oper} {rest : List Oper} {o : Oper} {a : Act} {Q : Exit → Act → World → Prop}
theorem wpList_convP (w : World) (hgd : o.guard = none) (s d : TypeId) (x : Operand) (ho : o.op = .convert s d x) (u v : Value) (hu : a.eval x = u) (w' : World) (hrun : (convert s d u).run Try.prog w = .ok v w') (hK : wpList Try.prog ops Q rest (a.put o.dst v) w') : wpList Try.prog ops Q (o :: rest) a w := by
  refine wpList_val w hgd v w' ?_ hK
  have e : execOp a.eval o = (do pure (.value (← convert s d (a.eval x)))) := by
    unfold execOp
    rw [ho]
  rw [e, hu]
  simp [hrun]
end
/-- Six strings. -/
def WasB (w : World) (g : Nat) (ss : List ByteArray) : Prop := ss.length = 6 ∧ w.heap[g]? = some (.cells (ss.map Value.string).toArray 32 (0, 0))
theorem WasB.at_ {w : World} {g : Nat} {ss : List ByteArray} (h : WasB w g ss) (k : Nat) (hk : k < 6) : w.cell? ⟨g, k, none⟩ = some (.string (ss.getD k ByteArray.empty)) := by
  rw [Addr.cell0 h.2]
  simp [List.getD, h.1, hk]
theorem WasB.set {w : World} {g : Nat} {ss : List ByteArray} (h : WasB w g ss) (k : Nat) (x : ByteArray) : WasB (w.setCell ⟨g, k, none⟩ (.string x)) g (ss.set k x) := by
  refine ⟨by rw [List.length_set]; exact h.1, ?_⟩
  rw [heap_setCell_same w g k _ 32 (.string x) h.2]
  congr 2
  rw [List.map_set]
  simp
theorem WasB.fz {w : World} {g : Nat} {ss : List ByteArray} (h : WasB w g ss) (k : Nat) : w.frozen? ⟨g, k, none⟩ = false := frozen_of_row w g _ _ 32 h.2
theorem ixWas (g k : Nat) (hk : k < 6) (w : World) : (Instr.indexAt 32 (.pointer (some ⟨g, 0, none⟩)) (.int .i64 ((k : Nat) : Int))).run Try.prog w = .ok (.pointer (some ⟨g, k, none⟩)) w := by
  simp [go_sem, Instr.indexAt]
  exact fun h => absurd h (by omega)
theorem ldStr (b o : Nat) (x : ByteArray) (w : World) (h : w.cell? ⟨b, o, none⟩ = some (.string x)) : (Instr.loadAt 9 (.pointer (some ⟨b, o, none⟩))).run Try.prog w = .ok (.string x) w := by simp [go_sem, h]
theorem stStr {w : World} {g : Nat} {ss : List ByteArray} (h : WasB w g ss) (k : Nat) (hk : k < 6) (x : ByteArray) : (Instr.storeAt 9 (.pointer (some ⟨g, k, none⟩)) (.string x)).run Try.prog w = .ok () (w.setCell ⟨g, k, none⟩ (.string x)) := by
  have hc := h.at_ k hk
  have hf := h.fz k
  simp [go_sem, hc, hf]
theorem neqStrP (x : ByteArray) (a b : Operand) (w : World) : (do eqGuard .neq 9 a b (.string x) (.string x); binOp .neq 9 (.string x) (.string x) : Sem Value).run Try.prog w = .ok (.bool false) w := by simp [go_sem, eqGuard]


set_option maxHeartbeats 2000000 in
set_option maxRecDepth 100000 in
theorem reads17 (w : World) (p q : Nat) (pg : Int) (ba : Option Addr) (bl bc : Nat) (pa : Option Addr) (P2 P3 : World → Prop) (h0 : BoxP q 1 2 pg ba bl bc w) (hp : Calls Try.prog 12 #[.slice ba bl bc] w.drew fun e w2 => e = .returned (.slice pa 512 512) ∧ P2 w2) (hPS : ∀ w2, P2 w2 → BoxP q 1 2 pg ba bl bc w2) (hw : ∀ w2, P2 w2 → Calls Try.prog 11 #[.pointer (some ⟨p, 0, none⟩), .int .i64 pg, .slice pa 512 512, .int .i64 0] w2 fun e w3 => e = .returned (.int .i64 0) ∧ P3 w3) (hQS : ∀ w3, P3 w3 → BoxP q 1 2 pg ba bl bc w3)
    {Q : Exit → Act → World → Prop} {A : Act} (hsz : A.tmps.size = 135) (hdf : A.defers = []) (s7 : A.tmps.getD 7 undef = .pointer (some ⟨p, 0, none⟩)) (s12 : A.tmps.getD 12 undef = .pointer (some ⟨q, 0, none⟩))
    (hend : ∀ (u : Nat → Value) w', P3 w' → Q .normal (((((((((A).put (some 91) (u 91)).put (some 92) (u 92)).put (some 93) (u 93)).put (some 94) (u 94)).put (some 95) (u 95)).put (some 96) (u 96)).put (some 97) (u 97)).put (some 98) (.bool false)) w') :
    (Code.region 17 (Pl.find 17 ((Try.f3.body).getD .skip)) true).wp Try.prog Q A w := by
  have hA := Pl.At.same (v := .pointer (some ⟨q, 0, none⟩)) (d := 12) (Pl.At.same (v := .pointer (some ⟨p, 0, none⟩)) (d := 7) (Pl.At.here hsz hdf) s7) s12
  refine Pl.H.start (S := BoxP q 1 2 pg ba bl bc) (by kernel_rfl) hA (show BoxP q 1 2 pg ba bl bc w.drew from h0) ?_
  rw [show (Pl.find 17 ((Try.f3.body).getD .skip)).size = 8 by kernel_rfl]
  refine Pl.H.take 0 91 (.pointer (some ⟨p, 0, none⟩)) (by kernel_rfl) (by kernel_rfl) (by kernel_rfl) (Pl.free 0 (by kernel_rfl)) (Pl.move 0 (.tmp 7) (by kernel_rfl) (by decide)) (show BoxP q 1 2 pg ba bl bc w.drew from h0) ?_
  refine Pl.H.take 1 92 (.pointer (some ⟨q, 1, none⟩)) (by kernel_rfl) (by kernel_rfl) (by kernel_rfl) (Pl.free 1 (by kernel_rfl)) (Pl.field 1 36 (.tmp 12) 1 _ (by kernel_rfl) (by decide) (fdAoB1 q)) (show BoxP q 1 2 pg ba bl bc w.drew from h0) ?_
  refine Pl.H.take 2 93 (.int .i64 pg) (by kernel_rfl) (by kernel_rfl) (by kernel_rfl) (Pl.free 2 (by kernel_rfl)) (Pl.load 2 3 (.tmp 92) _ (by kernel_rfl) (by decide) (fun w' hS => ldInt q _ _ w' hS.1)) (show BoxP q 1 2 pg ba bl bc w.drew from h0) ?_
  refine Pl.H.take 3 94 (.pointer (some ⟨q, 2, none⟩)) (by kernel_rfl) (by kernel_rfl) (by kernel_rfl) (Pl.free 3 (by kernel_rfl)) (Pl.field 3 36 (.tmp 12) 2 _ (by kernel_rfl) (by decide) (fdAoB2 q)) (show BoxP q 1 2 pg ba bl bc w.drew from h0) ?_
  refine Pl.H.take 4 95 (.slice ba bl bc) (by kernel_rfl) (by kernel_rfl) (by kernel_rfl) (Pl.free 4 (by kernel_rfl)) (Pl.load 4 33 (.tmp 94) _ (by kernel_rfl) (by decide) (fun w' hS => ldBs q _ _ _ _ w' hS.2)) (show BoxP q 1 2 pg ba bl bc w.drew from h0) ?_
  refine Pl.H.call 5 96 12 [(.tmp 95)] #[33] (by kernel_rfl) (by kernel_rfl) (by kernel_rfl) (Pl.free 5 (by kernel_rfl)) (by kernel_rfl) (by decide) entPageP (Calls.mono (hp) ?_)
  rintro e w2 ⟨rfl, hp2⟩
  refine ⟨.slice pa 512 512, rfl, (hPS w2 hp2), ?_⟩
  refine Pl.H.call 6 97 11 [(.tmp 91), (.tmp 93), (.tmp 96), (.const (.int .i64 0))] #[27, 3, 33, 3] (by kernel_rfl) (by kernel_rfl) (by kernel_rfl) (Pl.free 6 (by kernel_rfl)) (by kernel_rfl) (by decide) entPut (Calls.mono (hw w2 hp2) ?_)
  rintro e w3 ⟨rfl, hq3⟩
  refine ⟨.int .i64 0, rfl, (hQS w3 hq3), ?_⟩
  refine Pl.H.take 7 98 (.bool false) (by kernel_rfl) (by kernel_rfl) (by kernel_rfl) (Pl.free 7 (by kernel_rfl)) (Pl.binV 7 .neq 24 24 (.tmp 97) (.const (.int .i64 0)) (.int .i64 0) (.int .i64 0) _ (by kernel_rfl) (by decide) (by decide) rfl rfl (neqFE _ _ _ _ (by decide))) (hQS w3 hq3) ?_
  refine Pl.H.done (by kernel_rfl) (fun A' hA' => ?_)
  rw [Pl.At.ext hA' ((((((((hA.put 91 _).put 92 _).put 93 _).put 94 _).put 95 _).put 96 _).put 97 _).put 98 _)]
  exact hend (fun d => if d = 91 then .pointer (some ⟨p, 0, none⟩) else if d = 92 then .pointer (some ⟨q, 1, none⟩) else if d = 93 then .int .i64 pg else if d = 94 then .pointer (some ⟨q, 2, none⟩) else if d = 95 then .slice ba bl bc else if d = 96 then .slice pa 512 512 else if d = 97 then .int .i64 0 else undef) _ hq3

set_option maxHeartbeats 2000000 in
set_option maxRecDepth 100000 in
theorem reads19 (w : World) (g q k : Nat) (hk : k < 6) (ba : Option Addr) (bl bc : Nat) (pa : Option Addr) (ys : List Nat) (ss : List ByteArray) (P2 : World → Prop) (h0 : BoxP q 1 2 ((k : Nat) : Int) ba bl bc w) (hp : Calls Try.prog 12 #[.slice ba bl bc] w.drew fun e w2 => e = .returned (.slice pa 512 512) ∧ P2 w2) (hPS : ∀ w2, P2 w2 → BoxP q 1 2 ((k : Nat) : Int) ba bl bc w2 ∧ BoxP q 1 2 ((k : Nat) : Int) ba bl bc (w2.setCell ⟨g, k, none⟩ (.string (bstr ys))) ∧ Bs w2 pa 512 ys ∧ WasB w2 g ss)
    {Q : Exit → Act → World → Prop} {A : Act} (hsz : A.tmps.size = 135) (hdf : A.defers = []) (s9 : A.tmps.getD 9 undef = .pointer (some ⟨g, 0, none⟩)) (s12 : A.tmps.getD 12 undef = .pointer (some ⟨q, 0, none⟩))
    (hend : ∀ (u : Nat → Value) w' w2, (w' = w2.setCell ⟨g, k, none⟩ (.string (bstr ys)) ∧ P2 w2) → Q .normal ((((((((A).put (some 99) (u 99)).put (some 100) (u 100)).put (some 101) (u 101)).put (some 102) (u 102)).put (some 103) (u 103)).put (some 104) (u 104)).put (some 105) (u 105)) w') :
    (Code.region 19 (Pl.find 19 ((Try.f3.body).getD .skip)) true).wp Try.prog Q A w := by
  have hA := Pl.At.same (v := .pointer (some ⟨q, 0, none⟩)) (d := 12) (Pl.At.same (v := .pointer (some ⟨g, 0, none⟩)) (d := 9) (Pl.At.here hsz hdf) s9) s12
  refine Pl.H.start (S := BoxP q 1 2 ((k : Nat) : Int) ba bl bc) (by kernel_rfl) hA (show BoxP q 1 2 ((k : Nat) : Int) ba bl bc w.drew from h0) ?_
  rw [show (Pl.find 19 ((Try.f3.body).getD .skip)).size = 8 by kernel_rfl]
  refine Pl.H.take 0 99 (.pointer (some ⟨q, 1, none⟩)) (by kernel_rfl) (by kernel_rfl) (by kernel_rfl) (Pl.free 0 (by kernel_rfl)) (Pl.field 0 36 (.tmp 12) 1 _ (by kernel_rfl) (by decide) (fdAoB1 q)) (show BoxP q 1 2 ((k : Nat) : Int) ba bl bc w.drew from h0) ?_
  refine Pl.H.take 1 100 (.int .i64 ((k : Nat) : Int)) (by kernel_rfl) (by kernel_rfl) (by kernel_rfl) (Pl.free 1 (by kernel_rfl)) (Pl.load 1 3 (.tmp 99) _ (by kernel_rfl) (by decide) (fun w' hS => ldInt q _ _ w' hS.1)) (show BoxP q 1 2 ((k : Nat) : Int) ba bl bc w.drew from h0) ?_
  refine Pl.H.take 2 101 (.pointer (some ⟨q, 2, none⟩)) (by kernel_rfl) (by kernel_rfl) (by kernel_rfl) (Pl.free 2 (by kernel_rfl)) (Pl.field 2 36 (.tmp 12) 2 _ (by kernel_rfl) (by decide) (fdAoB2 q)) (show BoxP q 1 2 ((k : Nat) : Int) ba bl bc w.drew from h0) ?_
  refine Pl.H.take 3 102 (.slice ba bl bc) (by kernel_rfl) (by kernel_rfl) (by kernel_rfl) (Pl.free 3 (by kernel_rfl)) (Pl.load 3 33 (.tmp 101) _ (by kernel_rfl) (by decide) (fun w' hS => ldBs q _ _ _ _ w' hS.2)) (show BoxP q 1 2 ((k : Nat) : Int) ba bl bc w.drew from h0) ?_
  refine Pl.H.call 4 103 12 [(.tmp 102)] #[33] (by kernel_rfl) (by kernel_rfl) (by kernel_rfl) (Pl.free 4 (by kernel_rfl)) (by kernel_rfl) (by decide) entPageP (Calls.mono (hp) ?_)
  rintro e w2 ⟨rfl, hp2⟩
  refine ⟨.slice pa 512 512, rfl, (hPS w2 hp2).1, ?_⟩
  refine Pl.H.solo 5 104 (.string (bstr ys)) (by kernel_rfl) (by kernel_rfl) (by kernel_rfl) (Pl.free 5 (by kernel_rfl)) (Pl.conv1 5 33 9 (.tmp 103) _ (by kernel_rfl) (by decide) (run_string_of 512 (hPS w2 hp2).2.2.1)) (hPS w2 hp2).1 ?_
  refine Pl.H.take 6 105 (.pointer (some ⟨g, k, none⟩)) (by kernel_rfl) (by kernel_rfl) (by kernel_rfl) (Pl.free 6 (by kernel_rfl)) (Pl.index 6 32 (.tmp 9) (.tmp 100) _ (by kernel_rfl) (by decide) (by decide) (ixWas g k hk)) (hPS w2 hp2).1 ?_
  refine Pl.H.store 7 (w2.setCell ⟨g, k, none⟩ (.string (bstr ys))) (by kernel_rfl) (by kernel_rfl) (by kernel_rfl) (Pl.free 7 (by kernel_rfl)) (Pl.storeV 7 9 (.tmp 105) (.tmp 104) _ (by kernel_rfl) (by decide) (by decide) (stStr (hPS w2 hp2).2.2.2 k hk _)) (hPS w2 hp2).2.1 ?_
  refine Pl.H.done (by kernel_rfl) (fun A' hA' => ?_)
  rw [Pl.At.ext hA' (((((((hA.put 99 _).put 100 _).put 101 _).put 102 _).put 103 _).put 104 _).put 105 _)]
  exact hend (fun d => if d = 99 then .pointer (some ⟨q, 1, none⟩) else if d = 100 then .int .i64 ((k : Nat) : Int) else if d = 101 then .pointer (some ⟨q, 2, none⟩) else if d = 102 then .slice ba bl bc else if d = 103 then .slice pa 512 512 else if d = 104 then .string (bstr ys) else if d = 105 then .pointer (some ⟨g, k, none⟩) else undef) _ w2 ⟨rfl, hp2⟩

set_option maxHeartbeats 2000000 in
set_option maxRecDepth 100000 in
theorem reads25 (w : World) (g q k : Nat) (hk : k < 6) (a : Option Addr) (cap : Nat) (ys : List Nat) (h0 : w.cell? ⟨q, 1, none⟩ = some (.int .i64 ((k : Nat) : Int))) (h1 : Bs w a 512 ys) (h2 : w.cell? ⟨g, k, none⟩ = some (.string (bstr ys)))
    {Q : Exit → Act → World → Prop} {A : Act} (hsz : A.tmps.size = 135) (hdf : A.defers = []) (s9 : A.tmps.getD 9 undef = .pointer (some ⟨g, 0, none⟩)) (s12 : A.tmps.getD 12 undef = .pointer (some ⟨q, 0, none⟩)) (s13 : A.tmps.getD 13 undef = .slice a 512 cap) (s14 : A.tmps.getD 14 undef = .int .i64 0)
    (hend : ∀ (u : Nat → Value) w', w' = w.drew → Q .normal ((((((((((((A).put (some 123) (u 123)).put (some 124) (u 124)).put (some 125) (u 125)).put (some 126) (u 126)).put (some 127) (u 127)).put (some 128) (u 128)).put (some 129) (u 129)).put (some 130) (u 130)).put (some 131) (u 131)).put (some 132) (u 132)).put (some 133) (.bool false)) w') :
    (Code.region 25 (Pl.find 25 ((Try.f3.body).getD .skip)) true).wp Try.prog Q A w := by
  have hA := Pl.At.same (v := .int .i64 0) (d := 14) (Pl.At.same (v := .slice a 512 cap) (d := 13) (Pl.At.same (v := .pointer (some ⟨q, 0, none⟩)) (d := 12) (Pl.At.same (v := .pointer (some ⟨g, 0, none⟩)) (d := 9) (Pl.At.here hsz hdf) s9) s12) s13) s14
  refine Pl.H.start (S := fun w' => w'.cell? ⟨q, 1, none⟩ = some (.int .i64 ((k : Nat) : Int)) ∧ Bs w' a 512 ys ∧ w'.cell? ⟨g, k, none⟩ = some (.string (bstr ys))) (by kernel_rfl) hA (show (fun (w' : World) => w'.cell? ⟨q, 1, none⟩ = some (.int .i64 ((k : Nat) : Int)) ∧ Bs w' a 512 ys ∧ w'.cell? ⟨g, k, none⟩ = some (.string (bstr ys))) w.drew from ⟨h0, h1, h2⟩) ?_
  rw [show (Pl.find 25 ((Try.f3.body).getD .skip)).size = 11 by kernel_rfl]
  refine Pl.H.take 0 123 (.int .i64 0) (by kernel_rfl) (by kernel_rfl) (by kernel_rfl) (Pl.free 0 (by kernel_rfl)) (Pl.move 0 (.tmp 14) (by kernel_rfl) (by decide)) (show (fun (w' : World) => w'.cell? ⟨q, 1, none⟩ = some (.int .i64 ((k : Nat) : Int)) ∧ Bs w' a 512 ys ∧ w'.cell? ⟨g, k, none⟩ = some (.string (bstr ys))) w.drew from ⟨h0, h1, h2⟩) ?_
  refine Pl.H.take 1 124 (.bool false) (by kernel_rfl) (by kernel_rfl) (by kernel_rfl) (Pl.free 1 (by kernel_rfl)) (Pl.binV 1 .neq 24 24 (.tmp 123) (.const (.int .i64 0)) (.int .i64 0) (.int .i64 0) _ (by kernel_rfl) (by decide) (by decide) rfl rfl (neqFE _ _ _ _ (by decide))) (show (fun (w' : World) => w'.cell? ⟨q, 1, none⟩ = some (.int .i64 ((k : Nat) : Int)) ∧ Bs w' a 512 ys ∧ w'.cell? ⟨g, k, none⟩ = some (.string (bstr ys))) w.drew from ⟨h0, h1, h2⟩) ?_
  refine Pl.H.take 2 125 (.bool false) (by kernel_rfl) (by kernel_rfl) (by kernel_rfl) (Pl.free 2 (by kernel_rfl)) (Pl.move 2 (.tmp 124) (by kernel_rfl) (by decide)) (show (fun (w' : World) => w'.cell? ⟨q, 1, none⟩ = some (.int .i64 ((k : Nat) : Int)) ∧ Bs w' a 512 ys ∧ w'.cell? ⟨g, k, none⟩ = some (.string (bstr ys))) w.drew from ⟨h0, h1, h2⟩) ?_
  refine Pl.H.take 3 126 (.slice a 512 cap) (by kernel_rfl) (by kernel_rfl) (by kernel_rfl) (Pl.guarded 3 2 125 false (by kernel_rfl) (by kernel_rfl) (by decide) rfl) (Pl.move 3 (.tmp 13) (by kernel_rfl) (by decide)) (show (fun (w' : World) => w'.cell? ⟨q, 1, none⟩ = some (.int .i64 ((k : Nat) : Int)) ∧ Bs w' a 512 ys ∧ w'.cell? ⟨g, k, none⟩ = some (.string (bstr ys))) w.drew from ⟨h0, h1, h2⟩) ?_
  refine Pl.H.take 4 127 (.string (bstr ys)) (by kernel_rfl) (by kernel_rfl) (by kernel_rfl) (Pl.guarded 4 2 125 false (by kernel_rfl) (by kernel_rfl) (by decide) rfl) (Pl.convV 4 33 9 (.tmp 126) (.slice a 512 cap) _ (by kernel_rfl) (by decide) rfl (fun w' hS => run_string_of _ hS.2.1)) (show (fun (w' : World) => w'.cell? ⟨q, 1, none⟩ = some (.int .i64 ((k : Nat) : Int)) ∧ Bs w' a 512 ys ∧ w'.cell? ⟨g, k, none⟩ = some (.string (bstr ys))) w.drew from ⟨h0, h1, h2⟩) ?_
  refine Pl.H.take 5 128 (.pointer (some ⟨q, 1, none⟩)) (by kernel_rfl) (by kernel_rfl) (by kernel_rfl) (Pl.guarded 5 2 125 false (by kernel_rfl) (by kernel_rfl) (by decide) rfl) (Pl.field 5 36 (.tmp 12) 1 _ (by kernel_rfl) (by decide) (fdAoB1 q)) (show (fun (w' : World) => w'.cell? ⟨q, 1, none⟩ = some (.int .i64 ((k : Nat) : Int)) ∧ Bs w' a 512 ys ∧ w'.cell? ⟨g, k, none⟩ = some (.string (bstr ys))) w.drew from ⟨h0, h1, h2⟩) ?_
  refine Pl.H.take 6 129 (.int .i64 ((k : Nat) : Int)) (by kernel_rfl) (by kernel_rfl) (by kernel_rfl) (Pl.guarded 6 2 125 false (by kernel_rfl) (by kernel_rfl) (by decide) rfl) (Pl.load 6 3 (.tmp 128) _ (by kernel_rfl) (by decide) (fun w' hS => ldInt q _ _ w' hS.1)) (show (fun (w' : World) => w'.cell? ⟨q, 1, none⟩ = some (.int .i64 ((k : Nat) : Int)) ∧ Bs w' a 512 ys ∧ w'.cell? ⟨g, k, none⟩ = some (.string (bstr ys))) w.drew from ⟨h0, h1, h2⟩) ?_
  refine Pl.H.take 7 130 (.pointer (some ⟨g, k, none⟩)) (by kernel_rfl) (by kernel_rfl) (by kernel_rfl) (Pl.guarded 7 2 125 false (by kernel_rfl) (by kernel_rfl) (by decide) rfl) (Pl.index 7 32 (.tmp 9) (.tmp 129) _ (by kernel_rfl) (by decide) (by decide) (ixWas g k hk)) (show (fun (w' : World) => w'.cell? ⟨q, 1, none⟩ = some (.int .i64 ((k : Nat) : Int)) ∧ Bs w' a 512 ys ∧ w'.cell? ⟨g, k, none⟩ = some (.string (bstr ys))) w.drew from ⟨h0, h1, h2⟩) ?_
  refine Pl.H.take 8 131 (.string (bstr ys)) (by kernel_rfl) (by kernel_rfl) (by kernel_rfl) (Pl.guarded 8 2 125 false (by kernel_rfl) (by kernel_rfl) (by decide) rfl) (Pl.load 8 9 (.tmp 130) _ (by kernel_rfl) (by decide) (fun w' hS => ldStr g _ _ w' hS.2.2)) (show (fun (w' : World) => w'.cell? ⟨q, 1, none⟩ = some (.int .i64 ((k : Nat) : Int)) ∧ Bs w' a 512 ys ∧ w'.cell? ⟨g, k, none⟩ = some (.string (bstr ys))) w.drew from ⟨h0, h1, h2⟩) ?_
  refine Pl.H.take 9 132 (.bool false) (by kernel_rfl) (by kernel_rfl) (by kernel_rfl) (Pl.guarded 9 2 125 false (by kernel_rfl) (by kernel_rfl) (by decide) rfl) (Pl.binV 9 .neq 9 9 (.tmp 127) (.tmp 131) (.string (bstr ys)) (.string (bstr ys)) _ (by kernel_rfl) (by decide) (by decide) rfl rfl (neqStrP _ _ _)) (show (fun (w' : World) => w'.cell? ⟨q, 1, none⟩ = some (.int .i64 ((k : Nat) : Int)) ∧ Bs w' a 512 ys ∧ w'.cell? ⟨g, k, none⟩ = some (.string (bstr ys))) w.drew from ⟨h0, h1, h2⟩) ?_
  refine Pl.H.take 10 133 (.bool false) (by kernel_rfl) (by kernel_rfl) (by kernel_rfl) (Pl.free 10 (by kernel_rfl)) (Pl.pickF 10 (.tmp 125) (.const (.bool true)) (.tmp 132) (by kernel_rfl) (by decide) (by decide) rfl) (show (fun (w' : World) => w'.cell? ⟨q, 1, none⟩ = some (.int .i64 ((k : Nat) : Int)) ∧ Bs w' a 512 ys ∧ w'.cell? ⟨g, k, none⟩ = some (.string (bstr ys))) w.drew from ⟨h0, h1, h2⟩) ?_
  refine Pl.H.done (by kernel_rfl) (fun A' hA' => ?_)
  rw [Pl.At.ext hA' (((((((((((hA.put 123 _).put 124 _).put 125 _).put 126 _).put 127 _).put 128 _).put 129 _).put 130 _).put 131 _).put 132 _).put 133 _)]
  exact hend (fun d => if d = 123 then .int .i64 0 else if d = 124 then .bool false else if d = 125 then .bool false else if d = 126 then .slice a 512 cap else if d = 127 then .string (bstr ys) else if d = 128 then .pointer (some ⟨q, 1, none⟩) else if d = 129 then .int .i64 ((k : Nat) : Int) else if d = 130 then .pointer (some ⟨g, k, none⟩) else if d = 131 then .string (bstr ys) else if d = 132 then .bool false else undef) _ rfl

end Go.Proofs.Ytenaonnijpnnaaa
