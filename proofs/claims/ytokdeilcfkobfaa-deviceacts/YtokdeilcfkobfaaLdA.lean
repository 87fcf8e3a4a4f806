/-
  The landed device: how it lies in memory, and its small functions.
-/
import Derived.Test.YtokdeilcfkobfaaOwnA
import Derived.Test.YtokdeilcfkobfaaPlanE
namespace Go.Proofs.Ytokdeilcfkobfaa
open Go.RowKit

/-- A sector's write; a trimming. -/
structure Sw where
  at_ : Nat
  b : List Nat
structure Tm where
  ahead : Nat
  place : Nat
def Sw.cells (x : Sw) : List Value := .int .i64 ((x.at_ : Nat) : Int) :: vals x.b
def swCells (l : List Sw) : List Value := l.flatMap Sw.cells
def Tm.cells (x : Tm) : List Value := [.int .i64 ((x.ahead : Nat) : Int), .int .i64 ((x.place : Nat) : Int)]
def tmCells (l : List Tm) : List Value := l.flatMap Tm.cells

/-- A device, without a word on memory. -/
structure Ds where
  sp : List Nat
  sb : Nat
  ss : List Nat
  kp : List Nat
  kb : Nat
  ks : List Nat
  wr : List Sw
  ap : List Nat
  tr : List Tm
  armed : Bool
  left : Int
  gone : Bool
/-- Its slices. -/
structure Dl where
  sp : Sl
  ss : Sl
  kp : Sl
  ks : Sl
  wr : Sl
  ap : Sl
  tr : Sl
inductive Fld where | sp | ss | kp | ks | ap
def Ds.b (D : Ds) : Fld → List Nat | .sp => D.sp | .ss => D.ss | .kp => D.kp | .ks => D.ks | .ap => D.ap
def Dl.s (L : Dl) : Fld → Sl | .sp => L.sp | .ss => L.ss | .kp => L.kp | .ks => L.ks | .ap => L.ap

def dvCells (D : Ds) (L : Dl) : Array Value := #[L.sp.val, .int .i64 ((D.sb : Nat) : Int), L.ss.val, L.kp.val, .int .i64 ((D.kb : Nat) : Int), L.ks.val, L.wr.val, L.ap.val, L.tr.val, .bool D.armed, .int .i64 D.left, .bool D.gone]

/-- A device in memory: its block, and what it keeps, each in a block of its own. -/
structure DevM (w : World) (p : Nat) (D : Ds) (L : Dl) : Prop where
  blk : w.heap[p]? = some (.cells (dvCells D L) 69 (0, 0))
  own : ∀ f, Own 5 1 w (L.s f) (vals (D.b f))
  byt : ∀ f, Bytes (D.b f)
  apart : ∀ f g k, (L.s f).blk = some k → (L.s g).blk = some k → f = g
  wr : Own 78 129 w L.wr (swCells D.wr)
  tr : Own 83 2 w L.tr (tmCells D.tr)

/-- The blocks of a device. -/
def Dl.F (L : Dl) (p : Nat) (k : Nat) : Prop := k = p ∨ (∃ f, (L.s f).blk = some k) ∨ L.wr.blk = some k ∨ L.tr.blk = some k

theorem DevM.lt {w : World} {p : Nat} {D : Ds} {L : Dl} (h : DevM w p D L) {k : Nat} (hk : L.F p k) : k < w.heap.size := by
  rcases hk with rfl | ⟨f, hf⟩ | hk | hk
  · exact (Array.getElem?_eq_some_iff.1 h.blk).1
  · exact (h.own f).lt hf
  · exact h.wr.lt hk
  · exact h.tr.lt hk

theorem DevM.frm {w w' : World} {p : Nat} {D : Ds} {L : Dl} {F : Nat → Prop} (h : DevM w p D L) (hf : Frm F w w') (hF : ∀ k, L.F p k → ¬ F k) : DevM w' p D L := by
  have hb : ∀ k, L.F p k → w'.heap[k]? = w.heap[k]? := fun k hk => hf.block k (h.lt hk) (hF k hk)
  exact ⟨(hb p (.inl rfl)).trans h.blk, fun f => (h.own f).frame fun k hk => hb k (.inr (.inl ⟨f, hk⟩)), h.byt, h.apart, h.wr.frame fun k hk => hb k (.inr (.inr (.inl hk))), h.tr.frame fun k hk => hb k (.inr (.inr (.inr hk)))⟩
theorem DevM.keep {w w' : World} {p : Nat} {D : Ds} {L : Dl} (h : DevM w p D L) (hb : Below w.heap.size w w') : DevM w' p D L := h.frm (F := fun _ => False) (Frm.ofBelow hb) (fun _ _ e => e)

theorem Addr.cell0 {w : World} {p i : Nat} {C : Array Value} {t : TypeId} (h : w.heap[p]? = some (.cells C t (0, 0))) : w.cell? ⟨p, i, none⟩ = C[i]? := by simp [World.cell?, h]

theorem DevM.c0 {w : World} {p : Nat} {D : Ds} {L : Dl} (h : DevM w p D L) : w.cell? ⟨p, 0, none⟩ = some (.slice L.sp.a L.sp.len L.sp.cap) := (Addr.cell0 h.blk).trans rfl
theorem DevM.c1 {w : World} {p : Nat} {D : Ds} {L : Dl} (h : DevM w p D L) : w.cell? ⟨p, 1, none⟩ = some (.int .i64 ((D.sb : Nat) : Int)) := (Addr.cell0 h.blk).trans rfl
theorem DevM.c2 {w : World} {p : Nat} {D : Ds} {L : Dl} (h : DevM w p D L) : w.cell? ⟨p, 2, none⟩ = some (.slice L.ss.a L.ss.len L.ss.cap) := (Addr.cell0 h.blk).trans rfl
theorem DevM.c3 {w : World} {p : Nat} {D : Ds} {L : Dl} (h : DevM w p D L) : w.cell? ⟨p, 3, none⟩ = some (.slice L.kp.a L.kp.len L.kp.cap) := (Addr.cell0 h.blk).trans rfl
theorem DevM.c4 {w : World} {p : Nat} {D : Ds} {L : Dl} (h : DevM w p D L) : w.cell? ⟨p, 4, none⟩ = some (.int .i64 ((D.kb : Nat) : Int)) := (Addr.cell0 h.blk).trans rfl
theorem DevM.c5 {w : World} {p : Nat} {D : Ds} {L : Dl} (h : DevM w p D L) : w.cell? ⟨p, 5, none⟩ = some (.slice L.ks.a L.ks.len L.ks.cap) := (Addr.cell0 h.blk).trans rfl
theorem DevM.c6 {w : World} {p : Nat} {D : Ds} {L : Dl} (h : DevM w p D L) : w.cell? ⟨p, 6, none⟩ = some (.slice L.wr.a L.wr.len L.wr.cap) := (Addr.cell0 h.blk).trans rfl
theorem DevM.c7 {w : World} {p : Nat} {D : Ds} {L : Dl} (h : DevM w p D L) : w.cell? ⟨p, 7, none⟩ = some (.slice L.ap.a L.ap.len L.ap.cap) := (Addr.cell0 h.blk).trans rfl
theorem DevM.c8 {w : World} {p : Nat} {D : Ds} {L : Dl} (h : DevM w p D L) : w.cell? ⟨p, 8, none⟩ = some (.slice L.tr.a L.tr.len L.tr.cap) := (Addr.cell0 h.blk).trans rfl
theorem DevM.c9 {w : World} {p : Nat} {D : Ds} {L : Dl} (h : DevM w p D L) : w.cell? ⟨p, 9, none⟩ = some (.bool D.armed) := (Addr.cell0 h.blk).trans rfl
theorem DevM.c10 {w : World} {p : Nat} {D : Ds} {L : Dl} (h : DevM w p D L) : w.cell? ⟨p, 10, none⟩ = some (.int .i64 D.left) := (Addr.cell0 h.blk).trans rfl
theorem DevM.c11 {w : World} {p : Nat} {D : Ds} {L : Dl} (h : DevM w p D L) : w.cell? ⟨p, 11, none⟩ = some (.bool D.gone) := (Addr.cell0 h.blk).trans rfl
theorem DevM.fz {w : World} {p : Nat} {D : Ds} {L : Dl} (h : DevM w p D L) (o : Nat) : w.frozen? ⟨p, o, none⟩ = false := frozen_of_row w p _ _ 69 h.blk

theorem DevM.ne {w : World} {p : Nat} {D : Ds} {L : Dl} (h : DevM w p D L) (f : Fld) : (L.s f).blk ≠ some p := by
  intro e
  obtain ⟨cur, hc⟩ := (h.own f).kind e
  rw [h.blk] at hc
  simp only [Option.some.injEq, Obj.cells.injEq] at hc
  exact absurd hc.2.1 (by decide)
theorem DevM.neW {w : World} {p : Nat} {D : Ds} {L : Dl} (h : DevM w p D L) : L.wr.blk ≠ some p := by
  intro e
  obtain ⟨cur, hc⟩ := h.wr.kind e
  rw [h.blk] at hc
  simp only [Option.some.injEq, Obj.cells.injEq] at hc
  exact absurd hc.2.1 (by decide)
theorem DevM.neT {w : World} {p : Nat} {D : Ds} {L : Dl} (h : DevM w p D L) : L.tr.blk ≠ some p := by
  intro e
  obtain ⟨cur, hc⟩ := h.tr.kind e
  rw [h.blk] at hc
  simp only [Option.some.injEq, Obj.cells.injEq] at hc
  exact absurd hc.2.1 (by decide)
theorem DevM.neWf {w : World} {p : Nat} {D : Ds} {L : Dl} (h : DevM w p D L) (f : Fld) {k : Nat} (hk : L.wr.blk = some k) : (L.s f).blk ≠ some k := by
  intro e
  obtain ⟨cur, hc⟩ := h.wr.kind hk
  obtain ⟨cur', hc'⟩ := (h.own f).kind e
  rw [hc] at hc'
  simp only [Option.some.injEq, Obj.cells.injEq] at hc'
  exact absurd hc'.2.1 (by decide)
theorem DevM.neTf {w : World} {p : Nat} {D : Ds} {L : Dl} (h : DevM w p D L) (f : Fld) {k : Nat} (hk : L.tr.blk = some k) : (L.s f).blk ≠ some k := by
  intro e
  obtain ⟨cur, hc⟩ := h.tr.kind hk
  obtain ⟨cur', hc'⟩ := (h.own f).kind e
  rw [hc] at hc'
  simp only [Option.some.injEq, Obj.cells.injEq] at hc'
  exact absurd hc'.2.1 (by decide)
theorem DevM.neTW {w : World} {p : Nat} {D : Ds} {L : Dl} (h : DevM w p D L) {k : Nat} (hk : L.tr.blk = some k) : L.wr.blk ≠ some k := by
  intro e
  obtain ⟨cur, hc⟩ := h.tr.kind hk
  obtain ⟨cur', hc'⟩ := h.wr.kind e
  rw [hc] at hc'
  simp only [Option.some.injEq, Obj.cells.injEq] at hc'
  exact absurd hc'.2.1 (by decide)

/-- A cell of the device's own block turns. -/
theorem DevM.turn {w : World} {p : Nat} {D : Ds} {L : Dl} (h : DevM w p D L) (D' : Ds) (L' : Dl) (i : Nat) (u : Value) (he : (dvCells D L).setIfInBounds i u = dvCells D' L') (hb : ∀ f, L'.s f = L.s f ∧ D'.b f = D.b f) (hw : L'.wr = L.wr ∧ D'.wr = D.wr) (ht : L'.tr = L.tr ∧ D'.tr = D.tr) :
    DevM (w.setCell ⟨p, i, none⟩ u) p D' L' := by
  have hsame := heap_setCell_same w p i _ 69 u h.blk
  have ho : ∀ k, k ≠ p → (w.setCell ⟨p, i, none⟩ u).heap[k]? = w.heap[k]? := fun k hk => Below.heap_setCell w ⟨p, i, none⟩ u k hk
  refine ⟨by rw [hsame, he], fun f => ?_, fun f => ?_, fun f g k => ?_, ?_, ?_⟩
  · rw [(hb f).1, (hb f).2]
    exact (h.own f).frame fun k hk => ho k (fun e => h.ne f (by rw [← e]; exact hk))
  · rw [(hb f).2]; exact h.byt f
  · rw [(hb f).1, (hb g).1]; exact h.apart f g k
  · rw [hw.1, hw.2]
    exact h.wr.frame fun k hk => ho k (fun e => h.neW (by rw [← e]; exact hk))
  · rw [ht.1, ht.2]
    exact h.tr.frame fun k hk => ho k (fun e => h.neT (by rw [← e]; exact hk))

/-- The device behind a pointer. -/
def at0 (p : Nat) : Value := .pointer (some ⟨p, 0, none⟩)

set_option maxHeartbeats 1000000 in
theorem pages_any (w : World) (p : Nat) (D : Ds) (L : Dl) (h : DevM w p D L) (n : Nat) (hn : D.sp.length = 512 * n) (hn2 : n ≤ 64) : Calls Try.prog 11 #[at0 p] w fun e w' => e = .returned (.int .i64 (n : Nat)) ∧ w' = w := by
  have hl : L.sp.len = 512 * n := by have := (h.own .sp).1; rw [vals_length, Nat.mul_one] at this; rw [← hn]; exact this.symm
  have c0 := h.c0
  rw [hl] at c0
  have hd : IntKind.i64.wrap (Int.tdiv ((512 * n : Nat) : Int) 512) = ((n : Nat) : Int) := by
    rw [IntKind.wrap_i64]
    have : Int.tdiv ((512 * n : Nat) : Int) 512 = (n : Int) := by
      rw [Int.tdiv_eq_ediv_of_nonneg (by omega)]; omega
    omega
  clear h
  unfold at0
  go_enter Try.func11, Try.ntmps11
  go_wp2_with fail
  go_ret
  exact ⟨rfl, rfl⟩

set_option maxHeartbeats 1000000 in
theorem given_any (w : World) (p : Nat) (D : Ds) (L : Dl) (h : DevM w p D L) (n : Nat) (hn : D.sp.length = 512 * n) (hn2 : n ≤ 64) (hn1 : 1 ≤ n) : Calls Try.prog 35 #[at0 p] w fun e w' => e = .returned (.bool true) ∧ w' = w := by
  have HP := hide (pages_any w p D L h n hn hn2)
  clear h hn
  unfold at0 at *
  have h0 : decide (0 < n) = true := decide_eq_true (by omega)
  go_enter Try.func35, Try.ntmps35
  go_wp2_with fail
  refine HP.out.mono ?_
  rintro e w' ⟨rfl, hw⟩
  obtain rfl := hw.symm
  go_wp2_with fail
  go_ret
  exact ⟨rfl, rfl⟩

set_option maxHeartbeats 1000000 in
theorem has_any (w : World) (p : Nat) (D : Ds) (L : Dl) (h : DevM w p D L) (n : Nat) (hn : D.sp.length = 512 * n) (hn2 : n ≤ 64) (k : Int) : Calls Try.prog 32 #[at0 p, .int .i64 k] w fun e w' => e = .returned (.bool (decide (0 ≤ k ∧ k < (n : Nat)))) ∧ w' = w := by
  have HP := hide (pages_any w p D L h n hn hn2)
  clear h hn
  unfold at0 at *
  by_cases h0 : 0 ≤ k
  · by_cases h1 : k < ((n : Nat) : Int)
    · have h2 : decide (k < ((n : Nat) : Int)) = true := decide_eq_true h1
      rw [decide_eq_true (show 0 ≤ k ∧ k < ((n : Nat) : Int) from ⟨h0, h1⟩)]
      go_enter Try.func32, Try.ntmps32
      go_wp2_with fail
      refine HP.out.mono ?_
      rintro e w' ⟨rfl, hw⟩
      obtain rfl := hw.symm
      go_wp2_with fail
      go_ret
      exact ⟨rfl, rfl⟩
    · have h2 : decide (k < ((n : Nat) : Int)) = false := decide_eq_false h1
      rw [decide_eq_false (show ¬ (0 ≤ k ∧ k < ((n : Nat) : Int)) from fun e => h1 e.2)]
      go_enter Try.func32, Try.ntmps32
      go_wp2_with fail
      refine HP.out.mono ?_
      rintro e w' ⟨rfl, hw⟩
      obtain rfl := hw.symm
      go_wp2_with fail
      go_ret
      exact ⟨rfl, rfl⟩
  · rw [decide_eq_false (show ¬ (0 ≤ k ∧ k < ((n : Nat) : Int)) from fun e => h0 e.1)]
    go_enter Try.func32, Try.ntmps32
    go_wp2_with fail
    go_ret
    exact ⟨rfl, rfl⟩

/-- How many of the next units are of account, and the device behind that. -/
def Ds.spent (D : Ds) (n : Nat) : Nat := if D.gone = true then 0 else if D.armed = false then n else if D.left < (n : Int) then D.left.toNat else n
def Ds.spend (D : Ds) (n : Nat) : Ds := if D.gone = true then D else if D.armed = false then D else if D.left < (n : Int) then { D with left := 0, gone := true } else { D with left := D.left - (n : Int) }

theorem DevM.setLeft {w : World} {p : Nat} {D : Ds} {L : Dl} (h : DevM w p D L) (x : Int) : DevM (w.setCell ⟨p, 10, none⟩ (.int .i64 x)) p { D with left := x } L :=
  h.turn _ _ 10 _ (by rfl) (fun f => by cases f <;> exact ⟨rfl, rfl⟩) ⟨rfl, rfl⟩ ⟨rfl, rfl⟩
theorem DevM.setGone {w : World} {p : Nat} {D : Ds} {L : Dl} (h : DevM w p D L) (x : Bool) : DevM (w.setCell ⟨p, 11, none⟩ (.bool x)) p { D with gone := x } L :=
  h.turn _ _ 11 _ (by rfl) (fun f => by cases f <;> exact ⟨rfl, rfl⟩) ⟨rfl, rfl⟩ ⟨rfl, rfl⟩
theorem DevM.setArmed {w : World} {p : Nat} {D : Ds} {L : Dl} (h : DevM w p D L) (x : Bool) : DevM (w.setCell ⟨p, 9, none⟩ (.bool x)) p { D with armed := x } L :=
  h.turn _ _ 9 _ (by rfl) (fun f => by cases f <;> exact ⟨rfl, rfl⟩) ⟨rfl, rfl⟩ ⟨rfl, rfl⟩

set_option maxHeartbeats 2000000 in
theorem spend_any (w : World) (p : Nat) (D : Ds) (L : Dl) (h : DevM w p D L) (n : Nat) (hl : D.armed = true → 0 ≤ D.left ∧ D.left ≤ 9223372036854775807) (hn : n ≤ 1000000) : Calls Try.prog 33 #[at0 p, .int .i64 (n : Nat)] w fun e w' => e = .returned (.int .i64 ((D.spent n : Nat) : Int)) ∧ DevM w' p (D.spend n) L ∧ Frm (fun k => k = p) w w' ∧ w'.heap.size = w.heap.size := by
  have c9 := h.c9
  have c10 := h.c10
  have c11 := h.c11
  have hf := h.fz
  have H := hide h
  clear h
  unfold at0
  cases hg : D.gone
  · cases ha : D.armed
    · have e1 : D.spent n = n := by simp [Ds.spent, hg, ha]
      have e2 : D.spend n = D := by simp [Ds.spend, hg, ha]
      rw [e1, e2]
      rw [hg] at c11
      rw [ha] at c9
      clear hl hg ha e1 e2
      go_enter Try.func33, Try.ntmps33
      go_wp2_with fail
      go_ret
      exact ⟨rfl, H.out, Frm.refl _ _, rfl⟩
    · obtain ⟨hl1, hl2⟩ := hl ha
      rw [hg] at c11
      rw [ha] at c9
      by_cases hc : D.left < (n : Int)
      · have e1 : ((D.spent n : Nat) : Int) = D.left := by simp [Ds.spent, hg, ha, hc]; omega
        have e2 : D.spend n = { D with left := 0, gone := true } := by simp [Ds.spend, hg, ha, hc]
        rw [e1, e2]
        have H2 := hide ((H.out.setGone true).setLeft 0)
        have d10 := (H.out.setGone true).c10
        have df := (H.out.setGone true).fz
        simp only at d10
        clear hl hg ha e1 e2
        have hw0 : IntKind.i64.wrap (D.left - D.left) = 0 := by rw [IntKind.wrap_i64]; omega
        go_enter Try.func33, Try.ntmps33
        go_wp2_with fail
        go_ret
        exact ⟨rfl, H2.out, (((Frm.refl (fun k => k = p) _).setCell (p := ⟨p, 11, none⟩) rfl _).setCell (p := ⟨p, 10, none⟩) rfl _), by simp [World.setCell]⟩
      · have e1 : D.spent n = n := by simp [Ds.spent, hg, ha, hc]
        have e2 : D.spend n = { D with left := D.left - (n : Int) } := by simp [Ds.spend, hg, ha, hc]
        rw [e1, e2]
        have H2 := hide (H.out.setLeft (D.left - (n : Int)))
        clear hl hg ha e1 e2
        have hw0 : IntKind.i64.wrap (D.left - (n : Int)) = D.left - (n : Int) := by rw [IntKind.wrap_i64]; omega
        have hc' : D.left ≥ (n : Int) := by omega
        go_enter Try.func33, Try.ntmps33
        go_wp2_with fail
        go_ret
        exact ⟨rfl, H2.out, ((Frm.refl (fun k => k = p) _).setCell (p := ⟨p, 10, none⟩) rfl _), by simp [World.setCell]⟩
  · have e1 : D.spent n = 0 := by simp [Ds.spent, hg]
    have e2 : D.spend n = D := by simp [Ds.spend, hg]
    rw [e1, e2]
    rw [hg] at c11
    clear hl hg e1 e2
    go_enter Try.func33, Try.ntmps33
    go_wp2_with fail
    go_ret
    exact ⟨rfl, H.out, Frm.refl _ _, rfl⟩

set_option maxHeartbeats 1000000 in
theorem gone_any (w : World) (p : Nat) (D : Ds) (L : Dl) (h : DevM w p D L) (n : Nat) (hn : D.sp.length = 512 * n) (hn2 : n ≤ 64) (hn1 : 1 ≤ n) : Calls Try.prog 31 #[at0 p] w fun e w' => e = .returned (.bool D.gone) ∧ w' = w := by
  have HP := hide (given_any w p D L h n hn hn2 hn1)
  have c11 := h.c11
  clear h hn
  unfold at0 at *
  go_enter Try.func31, Try.ntmps31
  go_wp2_with fail
  refine HP.out.mono ?_
  rintro e w' ⟨rfl, hw⟩
  obtain rfl := hw.symm
  go_wp2_with fail
  go_ret
  exact ⟨rfl, rfl⟩

def Ds.arm (D : Ds) (n : Int) : Ds := if D.gone = true then D else { D with armed := decide (0 ≤ n), left := n }

set_option maxHeartbeats 1000000 in
theorem arm_any (w : World) (p : Nat) (D : Ds) (L : Dl) (h : DevM w p D L) (n : Nat) (hn : D.sp.length = 512 * n) (hn2 : n ≤ 64) (hn1 : 1 ≤ n) (k : Int) : Calls Try.prog 22 #[at0 p, .int .i64 k] w fun e w' => e = .returned (.tuple #[]) ∧ DevM w' p (D.arm k) L ∧ Frm (fun k => k = p) w w' ∧ w'.heap.size = w.heap.size := by
  have HP := hide (given_any w p D L h n hn hn2 hn1)
  have c9 := h.c9
  have c10 := h.c10
  have c11 := h.c11
  have hf := h.fz
  have H := hide h
  clear h hn
  unfold at0 at *
  cases hg : D.gone
  · have e2 : D.arm k = { D with armed := decide (0 ≤ k), left := k } := by simp [Ds.arm, hg]
    rw [e2]
    rw [hg] at c11
    have H2 := hide ((H.out.setArmed (decide (0 ≤ k))).setLeft k)
    have d10 := (H.out.setArmed (decide (0 ≤ k))).c10
    have df := (H.out.setArmed (decide (0 ≤ k))).fz
    simp only at d10
    clear hg e2
    go_enter Try.func22, Try.ntmps22
    go_wp2_with fail
    refine HP.out.mono ?_
    rintro e w' ⟨rfl, hw⟩
    obtain rfl := hw.symm
    go_wp2_with fail
    go_end0
    exact ⟨rfl, H2.out, (((Frm.refl (fun k => k = p) _).setCell (p := ⟨p, 9, none⟩) rfl _).setCell (p := ⟨p, 10, none⟩) rfl _), by simp [World.setCell]⟩
  · have e2 : D.arm k = D := by simp [Ds.arm, hg]
    rw [e2]
    rw [hg] at c11
    clear hg e2
    go_enter Try.func22, Try.ntmps22
    go_wp2_with fail
    refine HP.out.mono ?_
    rintro e w' ⟨rfl, hw⟩
    obtain rfl := hw.symm
    go_wp2_with fail
    refine bodyPost_ret (results_none rfl _ _ _) rfl ?_
    exact ⟨rfl, H.out, Frm.refl _ _, rfl⟩

end Go.Proofs.Ytokdeilcfkobfaa
