/-
  What the landed cell promises, as contracts; an undoing laid into a row; awake; the laws of any bytes' cells and of places, over the contracts.
-/
import Derived.Test.YtnhhapipadiffaaCeF
namespace Go.Proofs.Ytnhhapipadiffaa
open Go.RowKit

def pageC (l : List Un) : List Nat := fourB (Ta.sum (textC l)) ++ textC l

theorem pageC_len {l : List Un} (h : MayC l = true) : (pageC l).length = 512 := by
  unfold pageC
  rw [List.length_append, textC_len h]
  rfl
theorem pageC_bytes {l : List Un} (h : MayC l = true) : Bytes (pageC l) := sealed_bytes (textC_bytes h)

theorem page_says {l : List Un} (h : MayC l = true) (hf : ∀ u ∈ l, u.fits) : PgSays (pageC l) l 0 := by
  have hd : (pageC l).drop 4 = textC l := rfl
  refine PgSays.some (pageC_len h) ?_ ?_ l ?_
  · intro e
    have : (pageC l).getD 4 0 = 85 := rfl
    rw [e] at this
    have hz : nul512.getD 4 0 = 0 := rfl
    rw [hz] at this
    cases this
  · unfold Sealed
    rw [hd]
    rfl
  · rw [hd]
    exact text_read h hf

theorem PgSays.few {xs : List Nat} {l : List Un} {c : Int} (h : PgSays xs l c) : l.length ≤ 6 := by
  cases h with
  | arg _ => exact Nat.zero_le _
  | none _ => exact Nat.le_refl _
  | sum _ _ _ => exact Nat.zero_le _
  | text _ _ _ _ => exact Nat.zero_le _
  | some _ _ _ l hr => exact Nat.le_of_eq hr.six

/-- Encode of cells. -/
def EncC : Prop := ∀ (a : Option Addr) (len cap : Nat) (l : List Ux) (w : World), Us w a len l → len ≤ 1000 →
  Calls Try.prog 8 #[.slice a len cap] w fun e w' => ∃ v, e = .returned (.tuple #[v, .int .i64 (chk (MayC (uns l)))]) ∧ Below w.heap.size w w' ∧ (MayC (uns l) = true → Owns w' w.heap.size v (pageC (uns l))) ∧ (MayC (uns l) = false → v = .slice none 0 0)

/-- Decode of cells. -/
def DecC : Prop := ∀ (a : Option Addr) (len cap : Nat) (xs : List Nat) (w : World), Came w a len cap xs → len ≤ 100000 →
  Calls Try.prog 10 #[.slice a len cap] w (CeTold xs w)

def plP (n : Int) : Int := if 1 ≤ n ∧ n ≤ 65535 then (n - 1) / 6 else -1
def plA (n : Int) : Int := if 1 ≤ n ∧ n ≤ 65535 then (n - 1) % 6 else -1
def nuC (p a : Int) : Int := if 0 ≤ p ∧ p ≤ 10922 ∧ 0 ≤ a ∧ a ≤ 5 ∧ 6 * p + a ≤ 65534 then 6 * p + a + 1 else 0

/-- Place, and Number. -/
def PlaC : Prop := ∀ (n : Int) (w : World), -9223372036854775808 ≤ n ∧ n ≤ 9223372036854775807 → Calls Try.prog 14 #[.int .i64 n] w fun e w' => e = .returned (.tuple #[.int .i64 (plP n), .int .i64 (plA n)]) ∧ Below w.heap.size w w'
def NuC : Prop := ∀ (p a : Int) (w : World), -9223372036854775808 ≤ p ∧ p ≤ 9223372036854775807 → -9223372036854775808 ≤ a ∧ a ≤ 9223372036854775807 → Calls Try.prog 15 #[.int .i64 p, .int .i64 a] w fun e w' => e = .returned (.int .i64 (nuC p a)) ∧ Below w.heap.size w w'

theorem encC_yes (HE : EncC) (a : Option Addr) (len cap : Nat) (l : List Ux) (w : World) (h : Us w a len l) (hl : len ≤ 1000) (hm : MayC (uns l) = true) :
    Calls Try.prog 8 #[.slice a len cap] w fun e w' => ∃ (x : Option Addr) (c : Nat), e = .returned (.tuple #[.slice x 512 c, .int .i64 0]) ∧ Below w.heap.size w w' ∧ Came w' x 512 c (pageC (uns l)) := by
  refine (HE a len cap l w h hl).mono ?_
  rintro e w' ⟨v, rfl, hb, ho, _⟩
  obtain ⟨x, c, rfl, hc⟩ := (ho hm).cameN (pageC_bytes hm) (pageC_len hm) (by decide)
  rw [hm]
  exact ⟨x, c, rfl, hb, hc⟩

theorem encC_no (HE : EncC) (a : Option Addr) (len cap : Nat) (l : List Ux) (w : World) (h : Us w a len l) (hl : len ≤ 1000) (hm : MayC (uns l) = false) :
    Calls Try.prog 8 #[.slice a len cap] w fun e w' => e = .returned (.tuple #[.slice none 0 0, .int .i64 1]) ∧ Below w.heap.size w w' := by
  refine (HE a len cap l w h hl).mono ?_
  rintro e w' ⟨v, rfl, hb, _, hn⟩
  rw [hm, hn hm]
  exact ⟨rfl, hb⟩

/-- A page of cells, decoded. -/
theorem decC_yes (HD : DecC) (x : Option Addr) (c : Nat) (l : List Un) (w : World) (h : Came w x 512 c (pageC l)) (hm : MayC l = true) (hf : ∀ u ∈ l, u.fits) :
    Calls Try.prog 10 #[.slice x 512 c] w fun e w' => ∃ (s : Sl) (m : List Ux), e = .returned (.tuple #[.slice s.a 6 s.cap, .int .i64 0]) ∧ Below w.heap.size w w' ∧ Us w' s.a 6 m ∧ uns m = l := by
  refine (HD x 512 c _ w h (by decide)).mono ?_
  rintro e w' ⟨s, m, k, rfl, hu, hs⟩
  obtain ⟨e1, e2⟩ := hs.one (page_says hm hf)
  have h6 : s.len = 6 := by
    rw [← hu.len, ← uns_len, e1]
    exact (MayC.parts hm).2
  have hus := hu.us
  rw [h6] at hus
  rw [h6, e2]
  exact ⟨s, m, rfl, hu.below, hus, e1⟩

theorem Own.setC {e : TypeId} {z : Nat} {w : World} {s : Sl} {vs : List Value} (h : Own e z w s vs) {g off : Nat} (ha : s.a = some ⟨g, off, none⟩) (j : Nat) (u : Value) : Own e z (w.setCell ⟨g, off + j, none⟩ u) s (vs.set j u) := by
  refine ⟨by rw [List.length_set]; exact h.1, ?_⟩
  rcases h.2 with ⟨h0, _⟩ | ⟨g', off', cur, ha', hg, hoc, hlc, hcm, ht⟩
  · rw [h0] at ha; cases ha
  · rw [ha] at ha'
    simp only [Option.some.injEq, Addr.mk.injEq, and_true] at ha'
    obtain ⟨rfl, rfl⟩ := ha'
    refine .inr ⟨g, off, _, ha, heap_setCell_same w g (off + j) cur e u hg, by simpa using hoc, hlc, hcm, ?_⟩
    rw [Array.toList_setIfInBounds, List.drop_set, if_neg (by omega), Nat.add_sub_cancel_left, List.take_set, ht]

/-- An undoing laid over twelve cells. -/
def setAt (w : World) (g o : Nat) (x : Ux) : World := (((((((((((w.setCell ⟨g, o, none⟩ (.int .i64 x.u.tx)).setCell ⟨g, o + 1, none⟩ (.int .i64 x.u.no)).setCell ⟨g, o + 2, none⟩ (.int .i64 x.u.prev)).setCell ⟨g, o + 3, none⟩ (.int .i64 x.u.kind)).setCell ⟨g, o + 4, none⟩ (.int .i64 x.u.page)).setCell ⟨g, o + 5, none⟩ (.int .i64 x.u.slot)).setCell ⟨g, o + 6, none⟩ (.float .f64 x.u.row.key)).setCell ⟨g, o + 7, none⟩ (.bool x.u.row.dead)).setCell ⟨g, o + 8, none⟩ (.slice x.a x.n x.c)).setCell ⟨g, o + 9, none⟩ (.int .i64 x.u.row.wr)).setCell ⟨g, o + 10, none⟩ (.int .i64 x.u.row.cell)).setCell ⟨g, o + 11, none⟩ (.int .i64 x.u.row.no)

theorem setAt_frm (w : World) (g o : Nat) (x : Ux) : Frm (fun k => k = g) w (setAt w g o x) :=
  ((((((((((((Frm.refl (fun k => k = g) w).setCell (p := ⟨g, o, none⟩) rfl _).setCell (p := ⟨g, o + 1, none⟩) rfl _).setCell (p := ⟨g, o + 2, none⟩) rfl _).setCell (p := ⟨g, o + 3, none⟩) rfl _).setCell (p := ⟨g, o + 4, none⟩) rfl _).setCell (p := ⟨g, o + 5, none⟩) rfl _).setCell (p := ⟨g, o + 6, none⟩) rfl _).setCell (p := ⟨g, o + 7, none⟩) rfl _).setCell (p := ⟨g, o + 8, none⟩) rfl _).setCell (p := ⟨g, o + 9, none⟩) rfl _).setCell (p := ⟨g, o + 10, none⟩) rfl _).setCell (p := ⟨g, o + 11, none⟩) rfl _

/-- The cells of a row with one undoing turned, one by one. -/
def cellsSet (vs : List Value) (p : Nat) (x : Ux) : List Value := (((((((((((vs.set (p) (.int .i64 x.u.tx)).set (p + 1) (.int .i64 x.u.no)).set (p + 2) (.int .i64 x.u.prev)).set (p + 3) (.int .i64 x.u.kind)).set (p + 4) (.int .i64 x.u.page)).set (p + 5) (.int .i64 x.u.slot)).set (p + 6) (.float .f64 x.u.row.key)).set (p + 7) (.bool x.u.row.dead)).set (p + 8) (.slice x.a x.n x.c)).set (p + 9) (.int .i64 x.u.row.wr)).set (p + 10) (.int .i64 x.u.row.cell)).set (p + 11) (.int .i64 x.u.row.no)

theorem cellsU_cons (x : Ux) (l : List Ux) : cellsU (x :: l) = x.cells ++ cellsU l := rfl

theorem cellsU_set : ∀ (l : List Ux) (i : Nat) (x : Ux), i < l.length → cellsU (l.set i x) = cellsSet (cellsU l) (i * 12) x
  | [], i, x, hi => by simp at hi
  | y :: l, 0, x, _ => by
    rw [List.set_cons_zero, cellsU_cons, cellsU_cons]
    simp [cellsSet, Ux.cells]
  | y :: l, i + 1, x, hi => by
    rw [List.set_cons_succ, cellsU_cons, cellsU_cons, cellsU_set l i x (by simpa using hi)]
    have hy : y.cells.length = 12 := rfl
    have e : ∀ (vs : List Value) (p : Nat) (u : Value), (y.cells ++ vs).set (12 + p) u = y.cells ++ vs.set p u := fun vs p u => by
      rw [List.set_append_right _ _ (by omega), hy, Nat.add_sub_cancel_left]
    unfold cellsSet
    rw [show (i + 1) * 12 = 12 + i * 12 by omega]
    simp only [Nat.add_assoc, e]

theorem Own.frozenAt {e : TypeId} {z : Nat} {w : World} {s : Sl} {vs : List Value} (h : Own e z w s vs) {g off : Nat} (ha : s.a = some ⟨g, off, none⟩) (p : Nat) : w.frozen? ⟨g, p, none⟩ = false := by
  rcases h.2 with ⟨h0, _⟩ | ⟨g', off', cur, ha', hg, _⟩
  · rw [h0] at ha; cases ha
  · rw [ha] at ha'
    simp only [Option.some.injEq, Addr.mk.injEq, and_true] at ha'
    obtain ⟨rfl, rfl⟩ := ha'
    exact frozen_of_row w g _ _ e hg

/-- l[i] = u, told without its words. -/
theorem Ud.set {w0 w : World} {s : Sl} {l : List Ux} (h : Ud w0 w s l) {g off : Nat} (ha : s.a = some ⟨g, off, none⟩) (i : Nat) (hi : i < l.length) (x : Ux) (hx : Col w0 w x) (hf : x.u.fits) :
    ∃ W, (Instr.storeAt 30 (.pointer (some ⟨g, off + i * 12, none⟩)) x.val).run Try.prog w = .ok () W ∧ Ud w0 W s (l.set i x) ∧ Frm (fun k => k = g) w W := by
  have hsf : ∀ (w : World) (a : Addr) (m : Mode) (x : Nat), (store a (.float .f64 x) m).run Try.prog w = stored Try.prog w a (.float .f64 x) m := fun w a m x => run_store Try.prog w a _ m rfl
  have hat := h.own.unAt ha i hi
  have c0 := hat.c0
  have c1 := hat.c1
  have c2 := hat.c2
  have c3 := hat.c3
  have c4 := hat.c4
  have c5 := hat.c5
  have c6 := hat.c6
  have c7 := hat.c7
  have c8 := hat.c8
  have c9 := hat.c9
  have c10 := hat.c10
  have c11 := hat.c11
  have f0 := h.own.frozenAt ha
  have hB : s.blk = some g := by rw [Sl.blk, ha]; rfl
  have hfr := setAt_frm w g (off + i * 12) x
  have hcol : ∀ y, Col w0 w y → Col w0 (setAt w g (off + i * 12) x) y := by
    intro y hy
    have hsame : ∀ b o', y.a = some ⟨b, o', none⟩ → 0 < y.n → (setAt w g (off + i * 12) x).heap[b]? = w.heap[b]? := by
      intro b o' ha' hn
      obtain ⟨b', o'', ha'', hc, _, _⟩ := hy.fs.at 0 hn
      rw [ha''] at ha'
      cases ha'
      refine hfr.block b (World.block_lt_of_cell? _ _ hc) ?_
      rintro rfl
      rcases hy.home b o' ha'' hn with k | ⟨C, fr, k⟩
      · have := h.new b hB
        omega
      · obtain ⟨cur, hcur⟩ := h.own.kind hB
        rw [k] at hcur
        simp only [Option.some.injEq, Obj.cells.injEq] at hcur
        exact absurd hcur.2.1 (by decide)
    refine ⟨hy.fs.same hsame, fun b o' ha' hn => ?_⟩
    rcases hy.home b o' ha' hn with k | ⟨C, fr, k⟩
    · exact .inl k
    · exact .inr ⟨C, fr, (hsame b o' ha' hn).trans k⟩
  refine ⟨setAt w g (off + i * 12) x, by simp [go_sem, Instr.storeAt, hsf, stored, c0, c1, c2, c3, c4, c5, c6, c7, c8, c9, c10, c11, f0, Ux.val, Un.val, setAt], ⟨?_, h.new, h.below.trans (hfr.below h.below.size (fun k hk => by rw [hk]; exact h.new g hB)), fun y hy => ?_, fun y hy => ?_⟩, hfr⟩
  · rw [cellsU_set l i x hi]
    unfold cellsSet setAt
    have h0 := h.own.setC ha (i * 12) (.int .i64 x.u.tx)
    have h1 := h0.setC ha (i * 12 + 1) (.int .i64 x.u.no)
    have h2 := h1.setC ha (i * 12 + 2) (.int .i64 x.u.prev)
    have h3 := h2.setC ha (i * 12 + 3) (.int .i64 x.u.kind)
    have h4 := h3.setC ha (i * 12 + 4) (.int .i64 x.u.page)
    have h5 := h4.setC ha (i * 12 + 5) (.int .i64 x.u.slot)
    have h6 := h5.setC ha (i * 12 + 6) (.float .f64 x.u.row.key)
    have h7 := h6.setC ha (i * 12 + 7) (.bool x.u.row.dead)
    have h8 := h7.setC ha (i * 12 + 8) (.slice x.a x.n x.c)
    have h9 := h8.setC ha (i * 12 + 9) (.int .i64 x.u.row.wr)
    have h10 := h9.setC ha (i * 12 + 10) (.int .i64 x.u.row.cell)
    have h11 := h10.setC ha (i * 12 + 11) (.int .i64 x.u.row.no)
    simp only [← Nat.add_assoc] at h11
    exact h11
  · rcases List.mem_or_eq_of_mem_set hy with hy | rfl
    · exact hcol y (h.cols y hy)
    · exact hcol y hx
  · rcases List.mem_or_eq_of_mem_set hy with hy | rfl
    · exact h.fits y hy
    · exact hf

/-- The undoing of awake. -/
def oneC : Un := ⟨1, 2, 0, 1, 0, 0, zeroR⟩
theorem oneC_may : oneC.may = true := by decide
theorem oneC_fits : oneC.fits := ⟨by decide, by decide, by decide, by decide, by decide, by decide, zeroR_fits⟩
def sixX : List Ux := (List.replicate 6 Ux.zero).set 2 ⟨oneC, none, 0, 0⟩
theorem sixX_may : MayC (uns sixX) = true := by decide
theorem sixX_fits : ∀ u ∈ uns sixX, u.fits := by
  intro u hu
  have : uns sixX = [zeroU, zeroU, oneC, zeroU, zeroU, zeroU] := rfl
  rw [this] at hu
  simp only [List.mem_cons, List.not_mem_nil, or_false] at hu
  rcases hu with rfl | rfl | rfl | rfl | rfl | rfl
  · exact zeroU_fits
  · exact zeroU_fits
  · exact oneC_fits
  · exact zeroU_fits
  · exact zeroU_fits
  · exact zeroU_fits

set_option maxHeartbeats 4000000 in
set_option maxRecDepth 100000 in
theorem awakeC_any (HEnc : EncC) (HDec : DecC) (HPla : PlaC) (w : World) : Calls Try.prog 7 #[] w fun e w' => e = .returned (.bool true) ∧ Below w.heap.size w w' := by
  have HMk := hide (make_six w)
  have hu0 := Ud.six w w (Below.refl _ _)
  have hsz : ∀ o, (w.alloc o).heap.size = w.heap.size + 1 := fun o => by simp
  obtain ⟨W1, hst, hu1, _⟩ := hu0.set (g := w.heap.size) (off := 0) rfl 2 (by decide) ⟨oneC, none, 0, 0⟩ ⟨fs_nil _, fun _ _ _ hn => absurd hn (Nat.lt_irrefl 0)⟩ oneC_fits
  have hus : Us W1 (some ⟨w.heap.size, 0, none⟩) 6 sixX := hu1.us
  have HE := hide (encC_yes HEnc (some ⟨w.heap.size, 0, none⟩) 6 6 sixX W1 hus (by decide) sixX_may)
  have HW1 := hide hu1.below
  have HST : Hid ((Instr.storeAt 30 (.pointer (some ⟨w.heap.size, 24, none⟩)) (.agg #[.int .i64 1, .int .i64 2, .int .i64 0, .int .i64 1, .int .i64 0, .int .i64 0, .float .f64 0, .bool false, .slice none 0 0, .int .i64 0, .int .i64 0, .int .i64 0])).run Try.prog (w.alloc (.cells (cellsU (List.replicate 6 Ux.zero)).toArray 30)) = .ok () W1) := by
    have := hst
    simp only [Nat.zero_add, Nat.reduceMul] at this
    exact this
  have HD := hide (fun x c w' h => decC_yes HDec x c (uns sixX) w' h sixX_may sixX_fits)
  have HP : Hid (∀ w', Calls Try.prog 14 #[.int .i64 7] w' fun e w'' => e = .returned (.tuple #[.int .i64 1, .int .i64 0]) ∧ Below w'.heap.size w' w'') := fun w' => HPla 7 w' (by decide)
  clear hu0 hst hu1 hus hsz HEnc HDec HPla
  generalize w.alloc (.cells (cellsU (List.replicate 6 Ux.zero)).toArray 30) = W0 at *
  go_enter Try.func7, Try.ntmps7
  go_wp2_with (first | refine wpList_make _ rfl 22 (.const (.int .i64 6)) (.const (.int .i64 6)) rfl (.int .i64 6) (.int .i64 6) (.slice (some ⟨w.heap.size, 0, none⟩) 6 6) rfl rfl W0 HMk.out ?_ | refine wpList_store _ rfl rfl 30 (.tmp 11) (.tmp 10) rfl (.pointer (some ⟨w.heap.size, 24, none⟩)) (.agg #[.int .i64 1, .int .i64 2, .int .i64 0, .int .i64 1, .int .i64 0, .int .i64 0, .float .f64 0, .bool false, .slice none 0 0, .int .i64 0, .int .i64 0, .int .i64 0]) rfl rfl W1 HST.out ?_)
  refine HE.out.mono ?_
  rintro e w2 ⟨x, c, rfl, hb2, hc2⟩
  have HW2 := hide (rBelow HW1.out hb2)
  have HD2 := hide (HD.out x c w2 hc2)
  clear hb2 hc2 HE HD HMk HST
  go_wp2_with fail
  refine HD2.out.mono ?_
  rintro e w3 ⟨s, m, rfl, hb3, hu3, he3⟩
  have HW3 := hide (rBelow HW2.out hb3)
  have HU3 := hide hu3
  have HE3 := hide he3
  clear hb3 hu3 he3 HD2
  go_wp2_with fail
  refine (HP.out _).mono ?_
  rintro e w4 ⟨rfl, hb4⟩
  have HW4 := hide (rBelow HW3.out hb4)
  have hu4 := HU3.out.keep hb4 (Nat.le_refl _)
  obtain ⟨sa, sn, sc⟩ := s
  obtain ⟨b, off, rfl, hat2⟩ := hu4.at' 2 (by decide)
  obtain ⟨b', off', hbo, hat3⟩ := hu4.at' 3 (by decide)
  simp only [Option.some.injEq, Addr.mk.injEq, and_true] at hbo
  obtain ⟨rfl, rfl⟩ := hbo
  have g2 : (m.getD 2 Ux.zero).u = oneC := by rw [← uns_get, HE3.out]; rfl
  have g3 : (m.getD 3 Ux.zero).u = zeroU := by rw [← uns_get, HE3.out]; rfl
  have x2 := hat2.c1
  have x3 := hat3.c1
  rw [g2] at x2
  rw [g3] at x3
  simp only [Nat.reduceMul] at x2 x3
  unfold oneC at x2
  unfold zeroU at x3
  simp only at x2 x3
  clear hb4 hu4 hat2 hat3 g2 g3
  go_wp2_with fail
  go_ret
  exact ⟨by simp, HW4.out⟩

set_option maxHeartbeats 2000000 in
theorem decodesC_far (HA : ∀ w, Calls Try.prog 7 #[] w fun e w' => e = .returned (.bool true) ∧ Below w.heap.size w w') (a : Option Addr) (len cap : Nat) (w : World) (h1 : len ≤ 9223372036854775807) (hd : 2000 < len) :
    Calls Try.prog 4 #[.slice a len cap] w fun e w' => e = .returned (.bool true) ∧ Below w.heap.size w w' := by
  have HA := hide (HA w)
  have i1 : (2000 : Int) < (len : Int) := by omega
  go_enter Try.func4, Try.ntmps4
  go_wp2_with fail
  refine HA.out.mono ?_
  rintro e w' ⟨rfl, hb⟩
  go_wp2_with fail
  go_ret
  exact ⟨rfl, hb⟩

set_option maxHeartbeats 4000000 in
set_option maxRecDepth 100000 in
theorem decodesC_walk (HDec : DecC) (HA : ∀ w, Calls Try.prog 7 #[] w fun e w' => e = .returned (.bool true) ∧ Below w.heap.size w w') (a0 : Option Addr) (len0 cap0 : Nat) (xs : List Nat) (w : World) (hc : Came w a0 len0 cap0 xs) (h1 : len0 ≤ 2000) :
    Calls Try.prog 4 #[.slice a0 len0 cap0] w fun e w' => e = .returned (.bool true) ∧ Below w.heap.size w w' := by
  have HO := hide (own_new w)
  have HW := hide (below_alloc w (.cells #[] 5))
  have HB := hide (hc.bs.keep (below_alloc w (.cells #[] 5)) (Nat.le_refl _))
  have HC := hide hc
  have HX : Hid (Bytes xs) := hc.bs.2.1
  have HXL : Hid (xs.length = len0) := hc.bs.1
  have HN : Hid (a0 = none → cap0 = 0) := hc.nil
  have HLL : Hid (([] : List Nat).length + len0 ≤ 1000000) := by show _ ≤ _; simp; omega
  have HAW := hide HA
  have HDC := hide HDec
  have i1 : ¬ (2000 : Int) < (len0 : Int) := by omega
  clear hc HA HDec
  go_enter Try.func4, Try.ntmps4
  go_wp2_with (at_builtin; refine wpList_append_bytes _ rfl (.tmp 12) (.tmp 13) rfl w.heap.size _ [] rfl HO.out _ _ _ xs rfl HB.out HN.out HLL.out HW.out.size ?_)
  intro v1 w1 ho1 hb1
  have ho1' : Owns w1 w.heap.size v1 xs := ho1
  obtain ⟨pa, pc, rfl, hcm⟩ := ho1'.cameN HX.out HXL.out (by omega)
  have HW1 := hide (HW.out.trans hb1)
  have HD := hide (HDC.out pa len0 pc xs w1 hcm (by omega))
  clear ho1 ho1' hb1 hcm HO HB
  go_wp2_with fail
  refine HD.out.mono ?_
  rintro e w2 ⟨s, l, c, rfl, hu2, hs2⟩
  have HW2 := hide (rBelow HW1.out hu2.below)
  have HR := hide (refDecodeC_any a0 len0 cap0 xs w2 (HC.out.keep HW2.out (Nat.le_refl _)) (by omega))
  have HU2 := hide hu2.us
  have HS2 := hide hs2
  clear hu2 hs2 HD
  go_wp2_with fail
  refine HR.out.mono ?_
  rintro e w3 ⟨s', l', c', rfl, hu3, hs3⟩
  obtain ⟨el, ec⟩ := HS2.out.one hs3
  subst ec
  have HW3 := hide (rBelow HW2.out hu3.below)
  have hlen : s'.len = s.len := by rw [← hu3.len, ← HU2.out.len, ← uns_len, ← uns_len, el]
  have hus := hu3.us
  rw [hlen] at hus ⊢
  have hbig : s.len ≤ 1000 := by
    rw [← HU2.out.len, ← uns_len]
    exact Nat.le_trans HS2.out.few (by decide)
  have HLs := hide (refListU_same s.a s.len s.cap l s'.a s'.cap l' w3 (HU2.out.keep hu3.below (Nat.le_refl _)) hus el (by omega))
  clear hu3 hs3 el hlen hus hbig HR
  go_wp2_with fail
  refine HLs.out.mono ?_
  rintro e w4 ⟨rfl, hb4⟩
  have HW4 := hide (rBelow HW3.out hb4)
  clear hb4 HLs
  go_wp2_with fail
  refine (HAW.out _).mono ?_
  rintro e w5 ⟨rfl, hb5⟩
  have HW5 := hide (rBelow HW4.out hb5)
  clear hb5
  go_wp2_with fail
  go_ret
  exact ⟨by simp, HW5.out⟩

end Go.Proofs.Ytnhhapipadiffaa
