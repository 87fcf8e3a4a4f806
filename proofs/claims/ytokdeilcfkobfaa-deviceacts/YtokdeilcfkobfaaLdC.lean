/-
  The landed device: how it turns; its readers.
-/
import Derived.Test.YtokdeilcfkobfaaLdB
namespace Go.Proofs.Ytokdeilcfkobfaa
open Go.RowKit

/-- A device that has turned: it stands; nothing but its own blocks, and new ones, has turned; its blocks are old ones of its own, or new. -/
structure Turned (w : World) (p : Nat) (L : Dl) (w' : World) (D' : Ds) (L' : Dl) : Prop where
  dev : DevM w' p D' L'
  frm : Frm (L.F p) w w'
  foot : ∀ k, L'.F p k → L.F p k ∨ w.heap.size ≤ k
theorem Turned.same {w w' : World} {p : Nat} {D : Ds} {L : Dl} (h : DevM w p D L) (hb : Below w.heap.size w w') : Turned w p L w' D L := ⟨h.keep hb, Frm.ofBelow hb, fun _ hk => .inl hk⟩
theorem Turned.trans {w w1 w2 : World} {p : Nat} {D1 D2 : Ds} {L L1 L2 : Dl} (h : Turned w p L w1 D1 L1) (k : Turned w1 p L1 w2 D2 L2) : Turned w p L w2 D2 L2 := by
  refine ⟨k.dev, h.frm.trans k.frm (fun i hi hf => ?_), fun i hi => ?_⟩
  · rcases h.foot i hf with h1 | h1
    · exact h1
    · omega
  · rcases k.foot i hi with h1 | h1
    · exact h.foot i h1
    · exact .inr (Nat.le_trans h.frm.size h1)
theorem Turned.cell {w w' : World} {p : Nat} {D' : Ds} {L : Dl} (hd : DevM w' p D' L) (hf : Frm (fun k => k = p) w w') : Turned w p L w' D' L := ⟨hd, hf.mono (fun _ _ e => .inl e), fun _ hk => .inl hk⟩

/-- A field's bytes turn, and the field. -/
theorem DevM.swap {w w1 : World} {p : Nat} {D : Ds} {L : Dl} (h : DevM w p D L) (f0 : Fld) (s' : Sl) (xs : List Nat) (hf : Frm (fun k => (L.s f0).blk = some k) w w1) (ho : Own 5 1 w1 s' (vals xs)) (hx : Bytes xs)
    (hb : ∀ k, s'.blk = some k → (L.s f0).blk = some k ∨ w.heap.size ≤ k) (i : Nat) (D' : Ds) (L' : Dl) (he : (dvCells D L).setIfInBounds i s'.val = dvCells D' L') (h0 : L'.s f0 = s' ∧ D'.b f0 = xs)
    (hL : ∀ f, f ≠ f0 → L'.s f = L.s f ∧ D'.b f = D.b f) (hw : L'.wr = L.wr ∧ D'.wr = D.wr) (ht : L'.tr = L.tr ∧ D'.tr = D.tr) : Turned w p L (w1.setCell ⟨p, i, none⟩ s'.val) D' L' := by
  have hp1 : w1.heap[p]? = some (.cells (dvCells D L) 69 (0, 0)) := (hf.block p (h.lt (.inl rfl)) (h.ne f0)).trans h.blk
  have hsame := heap_setCell_same w1 p i _ 69 s'.val hp1
  have hoff : ∀ k, k ≠ p → (w1.setCell ⟨p, i, none⟩ s'.val).heap[k]? = w1.heap[k]? := fun k hk => Below.heap_setCell w1 ⟨p, i, none⟩ _ k hk
  have hkp : ∀ k, L.F p k → k ≠ p → (L.s f0).blk ≠ some k → (w1.setCell ⟨p, i, none⟩ s'.val).heap[k]? = w.heap[k]? := fun k hk h1 h2 => (hoff k h1).trans (hf.block k (h.lt hk) h2)
  have hsp : ∀ k, s'.blk = some k → k ≠ p := by
    intro k hk e
    rcases hb k hk with h1 | h1
    · exact h.ne f0 (by rw [← e]; exact h1)
    · have := h.lt (L := L) (k := p) (.inl rfl); omega
  refine ⟨⟨by rw [hsame, he], fun f => ?_, fun f => ?_, fun f g k hf1 hg1 => ?_, ?_, ?_⟩, (hf.mono (fun k _ e => .inr (.inl ⟨f0, e⟩))).setCell (p := ⟨p, i, none⟩) (.inl rfl) _, ?_⟩
  · by_cases e : f = f0
    · subst e
      rw [h0.1, h0.2]
      exact ho.frame fun k hk => hoff k (hsp k hk)
    · rw [(hL f e).1, (hL f e).2]
      refine (h.own f).frame fun k hk => hkp k (.inr (.inl ⟨f, hk⟩)) (fun e' => h.ne f (by rw [← e']; exact hk)) (fun e' => e (h.apart f f0 k hk e'))
  · by_cases e : f = f0
    · subst e; rw [h0.2]; exact hx
    · rw [(hL f e).2]; exact h.byt f
  · by_cases e : f = f0
    · by_cases e2 : g = f0
      · rw [e, e2]
      · rw [e, h0.1] at hf1
        rw [(hL g e2).1] at hg1
        rcases hb k hf1 with h1 | h1
        · rw [e]; exact h.apart f0 g k h1 hg1
        · have := (h.own g).lt hg1; omega
    · by_cases e2 : g = f0
      · rw [e2, h0.1] at hg1
        rw [(hL f e).1] at hf1
        rcases hb k hg1 with h1 | h1
        · rw [e2]; exact h.apart f f0 k hf1 h1
        · have := (h.own f).lt hf1; omega
      · rw [(hL f e).1] at hf1
        rw [(hL g e2).1] at hg1
        exact h.apart f g k hf1 hg1
  · rw [hw.1, hw.2]
    exact h.wr.frame fun k hk => hkp k (.inr (.inr (.inl hk))) (fun e => h.neW (by rw [← e]; exact hk)) (h.neWf f0 hk)
  · rw [ht.1, ht.2]
    exact h.tr.frame fun k hk => hkp k (.inr (.inr (.inr hk))) (fun e => h.neT (by rw [← e]; exact hk)) (h.neTf f0 hk)
  · intro k hk
    rcases hk with h1 | ⟨f, h1⟩ | h1 | h1
    · exact .inl (.inl h1)
    · by_cases e : f = f0
      · rw [e, h0.1] at h1
        rcases hb k h1 with h2 | h2
        · exact .inl (.inr (.inl ⟨f0, h2⟩))
        · exact .inr h2
      · rw [(hL f e).1] at h1
        exact .inl (.inr (.inl ⟨f, h1⟩))
    · rw [hw.1] at h1; exact .inl (.inr (.inr (.inl h1)))
    · rw [ht.1] at h1; exact .inl (.inr (.inr (.inr h1)))

/-- A field's bytes turn where they lie. -/
theorem DevM.over {w w1 : World} {p : Nat} {D : Ds} {L : Dl} (h : DevM w p D L) (f0 : Fld) (xs : List Nat) (hf : Frm (fun k => (L.s f0).blk = some k) w w1) (ho : Own 5 1 w1 (L.s f0) (vals xs)) (hx : Bytes xs)
    (D' : Ds) (he : dvCells D L = dvCells D' L) (h0 : D'.b f0 = xs) (hL : ∀ f, f ≠ f0 → D'.b f = D.b f) (hw : D'.wr = D.wr) (ht : D'.tr = D.tr) : Turned w p L w1 D' L := by
  have hkp : ∀ k, L.F p k → (L.s f0).blk ≠ some k → w1.heap[k]? = w.heap[k]? := fun k hk h2 => hf.block k (h.lt hk) h2
  refine ⟨⟨by rw [← he]; exact (hkp p (.inl rfl) (h.ne f0)).trans h.blk, fun f => ?_, fun f => ?_, h.apart, ?_, ?_⟩, hf.mono (fun k _ e => .inr (.inl ⟨f0, e⟩)), fun k hk => .inl hk⟩
  · by_cases e : f = f0
    · subst e; rw [h0]; exact ho
    · rw [hL f e]
      exact (h.own f).frame fun k hk => hkp k (.inr (.inl ⟨f, hk⟩)) (fun e' => e (h.apart f f0 k hk e'))
  · by_cases e : f = f0
    · subst e; rw [h0]; exact hx
    · rw [hL f e]; exact h.byt f
  · rw [hw]; exact h.wr.frame fun k hk => hkp k (.inr (.inr (.inl hk))) (h.neWf f0 hk)
  · rw [ht]; exact h.tr.frame fun k hk => hkp k (.inr (.inr (.inr hk))) (h.neTf f0 hk)

theorem DevM.swapW {w w1 : World} {p : Nat} {D : Ds} {L : Dl} (h : DevM w p D L) (s' : Sl) (xs : List Sw) (hf : Frm (fun k => L.wr.blk = some k) w w1) (ho : Own 78 129 w1 s' (swCells xs))
    (hb : ∀ k, s'.blk = some k → L.wr.blk = some k ∨ w.heap.size ≤ k) : Turned w p L (w1.setCell ⟨p, 6, none⟩ s'.val) { D with wr := xs } { L with wr := s' } := by
  have hp1 : w1.heap[p]? = some (.cells (dvCells D L) 69 (0, 0)) := (hf.block p (h.lt (.inl rfl)) h.neW).trans h.blk
  have hsame := heap_setCell_same w1 p 6 _ 69 s'.val hp1
  have hoff : ∀ k, k ≠ p → (w1.setCell ⟨p, 6, none⟩ s'.val).heap[k]? = w1.heap[k]? := fun k hk => Below.heap_setCell w1 ⟨p, 6, none⟩ _ k hk
  have hkp : ∀ k, L.F p k → k ≠ p → L.wr.blk ≠ some k → (w1.setCell ⟨p, 6, none⟩ s'.val).heap[k]? = w.heap[k]? := fun k hk h1 h2 => (hoff k h1).trans (hf.block k (h.lt hk) h2)
  have hsp : ∀ k, s'.blk = some k → k ≠ p := by
    intro k hk e
    rcases hb k hk with h1 | h1
    · exact h.neW (by rw [← e]; exact h1)
    · have := h.lt (L := L) (k := p) (.inl rfl); omega
  refine ⟨⟨by rw [hsame]; rfl, fun f => ?_, fun f => by cases f <;> first | exact h.byt .sp | exact h.byt .ss | exact h.byt .kp | exact h.byt .ks | exact h.byt .ap, ?_, ho.frame fun k hk => hoff k (hsp k hk), ?_⟩, (hf.mono (fun k _ e => .inr (.inr (.inl e)))).setCell (p := ⟨p, 6, none⟩) (.inl rfl) _, ?_⟩
  · have hs : Dl.s { L with wr := s' } f = L.s f := by cases f <;> rfl
    have hd : Ds.b { D with wr := xs } f = D.b f := by cases f <;> rfl
    rw [hs, hd]
    exact (h.own f).frame fun k hk => hkp k (.inr (.inl ⟨f, hk⟩)) (fun e' => h.ne f (by rw [← e']; exact hk)) (fun e => h.neWf f e hk)
  · intro f g k h1 h2
    have e1 : Dl.s { L with wr := s' } f = L.s f := by cases f <;> rfl
    have e2 : Dl.s { L with wr := s' } g = L.s g := by cases g <;> rfl
    rw [e1] at h1
    rw [e2] at h2
    exact h.apart f g k h1 h2
  · exact h.tr.frame fun k hk => hkp k (.inr (.inr (.inr hk))) (fun e => h.neT (by rw [← e]; exact hk)) (h.neTW hk)
  · intro k hk
    rcases hk with h1 | ⟨f, h1⟩ | h1 | h1
    · exact .inl (.inl h1)
    · have e1 : Dl.s { L with wr := s' } f = L.s f := by cases f <;> rfl
      rw [e1] at h1
      exact .inl (.inr (.inl ⟨f, h1⟩))
    · rcases hb k h1 with h2 | h2
      · exact .inl (.inr (.inr (.inl h2)))
      · exact .inr h2
    · exact .inl (.inr (.inr (.inr h1)))

theorem DevM.swapT {w w1 : World} {p : Nat} {D : Ds} {L : Dl} (h : DevM w p D L) (s' : Sl) (xs : List Tm) (hf : Frm (fun k => L.tr.blk = some k) w w1) (ho : Own 83 2 w1 s' (tmCells xs))
    (hb : ∀ k, s'.blk = some k → L.tr.blk = some k ∨ w.heap.size ≤ k) : Turned w p L (w1.setCell ⟨p, 8, none⟩ s'.val) { D with tr := xs } { L with tr := s' } := by
  have hp1 : w1.heap[p]? = some (.cells (dvCells D L) 69 (0, 0)) := (hf.block p (h.lt (.inl rfl)) h.neT).trans h.blk
  have hsame := heap_setCell_same w1 p 8 _ 69 s'.val hp1
  have hoff : ∀ k, k ≠ p → (w1.setCell ⟨p, 8, none⟩ s'.val).heap[k]? = w1.heap[k]? := fun k hk => Below.heap_setCell w1 ⟨p, 8, none⟩ _ k hk
  have hkp : ∀ k, L.F p k → k ≠ p → L.tr.blk ≠ some k → (w1.setCell ⟨p, 8, none⟩ s'.val).heap[k]? = w.heap[k]? := fun k hk h1 h2 => (hoff k h1).trans (hf.block k (h.lt hk) h2)
  have hsp : ∀ k, s'.blk = some k → k ≠ p := by
    intro k hk e
    rcases hb k hk with h1 | h1
    · exact h.neT (by rw [← e]; exact h1)
    · have := h.lt (L := L) (k := p) (.inl rfl); omega
  refine ⟨⟨by rw [hsame]; rfl, fun f => ?_, fun f => by cases f <;> first | exact h.byt .sp | exact h.byt .ss | exact h.byt .kp | exact h.byt .ks | exact h.byt .ap, ?_, ?_, ho.frame fun k hk => hoff k (hsp k hk)⟩, (hf.mono (fun k _ e => .inr (.inr (.inr e)))).setCell (p := ⟨p, 8, none⟩) (.inl rfl) _, ?_⟩
  · have hs : Dl.s { L with tr := s' } f = L.s f := by cases f <;> rfl
    have hd : Ds.b { D with tr := xs } f = D.b f := by cases f <;> rfl
    rw [hs, hd]
    exact (h.own f).frame fun k hk => hkp k (.inr (.inl ⟨f, hk⟩)) (fun e' => h.ne f (by rw [← e']; exact hk)) (fun e => h.neTf f e hk)
  · intro f g k h1 h2
    have e1 : Dl.s { L with tr := s' } f = L.s f := by cases f <;> rfl
    have e2 : Dl.s { L with tr := s' } g = L.s g := by cases g <;> rfl
    rw [e1] at h1
    rw [e2] at h2
    exact h.apart f g k h1 h2
  · exact h.wr.frame fun k hk => hkp k (.inr (.inr (.inl hk))) (fun e => h.neW (by rw [← e]; exact hk)) (fun e => h.neTW e hk)
  · intro k hk
    rcases hk with h1 | ⟨f, h1⟩ | h1 | h1
    · exact .inl (.inl h1)
    · have e1 : Dl.s { L with tr := s' } f = L.s f := by cases f <;> rfl
      rw [e1] at h1
      exact .inl (.inr (.inl ⟨f, h1⟩))
    · exact .inl (.inr (.inr (.inl h1)))
    · rcases hb k h1 with h2 | h2
      · exact .inl (.inr (.inr (.inr h2)))
      · exact .inr h2

theorem DevM.len {w : World} {p : Nat} {D : Ds} {L : Dl} (h : DevM w p D L) (f : Fld) : (D.b f).length = (L.s f).len := by have := (h.own f).1; rw [vals_length, Nat.mul_one] at this; exact this
theorem tmCells_length : ∀ l, (tmCells l).length = l.length * 2
  | [] => rfl
  | x :: r => by
    have := tmCells_length r
    simp only [tmCells, List.flatMap_cons, List.length_append, List.length_cons, Tm.cells, List.length_nil] at *
    omega
theorem DevM.lenT {w : World} {p : Nat} {D : Ds} {L : Dl} (h : DevM w p D L) : D.tr.length = L.tr.len := by have := h.tr.1; rw [tmCells_length] at this; omega
def Ds.units (D : Ds) : Nat := D.ap.length + D.tr.length

set_option maxHeartbeats 1000000 in
theorem units_any (w : World) (p : Nat) (D : Ds) (L : Dl) (h : DevM w p D L) (hu : D.units ≤ 1000000000) : Calls Try.prog 38 #[at0 p] w fun e w' => e = .returned (.int .i64 ((D.units : Nat) : Int)) ∧ Below w.heap.size w w' := by
  have e1 : D.units = L.ap.len + L.tr.len := by
    have := h.len .ap
    have h2 := h.lenT
    show D.ap.length + D.tr.length = _
    rw [h2]; congr 1
  rw [e1] at hu ⊢
  have HR : Hid (∀ {Q : Exit → Act → World → Prop} {A : Act}, _) := fun {Q A} => units1 w p D L h (by rw [IntKind.wrap_i64]; omega) (Q := Q) (A := A)
  have HW := hide ((Below.refl w.heap.size w).drew)
  clear h e1 hu
  unfold at0
  go_enter Try.func38, Try.ntmps38
  go_wp2_with fail
  refine Pl.region_is (ops := Pl.find 1 ((Try.f38.body).getD .skip)) (by kernel_rfl) ?_
  refine HR.out (by rfl) rfl (by rfl) ?_
  rintro u w' rfl
  simp only [Act.put, List.setIfInBounds_toArray, List.set_cons_zero, List.set_cons_succ]
  go_wp2_with fail
  go_ret
  exact ⟨rfl, HW.out⟩

set_option maxHeartbeats 1000000 in
theorem end_any (w : World) (p : Nat) (D : Ds) (L : Dl) (h : DevM w p D L) (hu : D.sb + D.ss.length ≤ 1000000000000) : Calls Try.prog 36 #[at0 p] w fun e w' => e = .returned (.int .i64 ((D.sb + D.ss.length : Nat) : Int)) ∧ Below w.heap.size w w' := by
  have e1 : D.ss.length = L.ss.len := h.len .ss
  rw [e1] at hu ⊢
  have HR : Hid (∀ {Q : Exit → Act → World → Prop} {A : Act}, _) := fun {Q A} => end1 w p D L h (by rw [IntKind.wrap_i64]; omega) (Q := Q) (A := A)
  have HW := hide ((Below.refl w.heap.size w).drew)
  clear h e1 hu
  unfold at0
  go_enter Try.func36, Try.ntmps36
  go_wp2_with fail
  refine Pl.region_is (ops := Pl.find 1 ((Try.f36.body).getD .skip)) (by kernel_rfl) ?_
  refine HR.out (by rfl) rfl (by rfl) ?_
  rintro u w' rfl
  simp only [Act.put, List.setIfInBounds_toArray, List.set_cons_zero, List.set_cons_succ]
  go_wp2_with fail
  go_ret
  exact ⟨rfl, HW.out⟩

set_option maxHeartbeats 2000000 in
set_option maxRecDepth 100000 in
theorem trimS1 (w : World) (p : Nat) (D : Ds) (L : Dl) (h : DevM w p D L) (pl : Int) (k : Nat) (hk : IntKind.i64.wrap (pl - (D.sb : Int)) = (k : Nat)) (hl : k ≤ L.ss.len)
    {Q : Exit → Act → World → Prop} {A : Act} (hsz : A.tmps.size = 22) (hdf : A.defers = []) (s0 : A.tmps.getD 0 undef = .pointer (some ⟨p, 0, none⟩)) (s1 : A.tmps.getD 1 undef = .int .i64 pl)
    (hend : ∀ (u : Nat → Value) w', w' = w.drew.setCell ⟨p, 2, none⟩ (L.ss.from_ k).val → Q .normal (((((((((((((((A).put (some 4) (u 4)).put (some 5) (u 5)).put (some 6) (u 6)).put (some 7) (u 7)).put (some 9) (u 9)).put (some 10) (u 10)).put (some 11) (u 11)).put (some 12) (u 12)).put (some 13) (u 13)).put (some 14) (u 14)).put (some 8) (u 8)).put (some 15) (u 15)).put (some 16) (u 16)).put (some 17) (u 17)) w') :
    (Code.region 0 (Pl.find 0 ((Try.f37.body).getD .skip)) true).wp Try.prog Q A w := by
  have hS1 : (fun w' : World => w'.cell? ⟨p, 1, none⟩ = some (.int .i64 ((D.sb : Nat) : Int))) (w.drew.setCell ⟨p, 2, none⟩ (L.ss.from_ k).val) := by
    have hb := heap_setCell_same w.drew p 2 _ 69 (L.ss.from_ k).val h.drew.blk
    show World.cell? _ _ = _
    rw [Addr.cell0 hb]
    rfl
  have hA := Pl.At.same (v := .int .i64 pl) (d := 1) (Pl.At.same (v := .pointer (some ⟨p, 0, none⟩)) (d := 0) (Pl.At.here hsz hdf) s0) s1
  refine Pl.H.start (S := fun w' => w'.cell? ⟨p, 1, none⟩ = some (.int .i64 ((D.sb : Nat) : Int))) (by kernel_rfl) hA (show (fun w' => w'.cell? ⟨p, 1, none⟩ = some (.int .i64 ((D.sb : Nat) : Int))) w.drew from h.drew.c1) ?_
  rw [show (Pl.find 0 ((Try.f37.body).getD .skip)).size = 15 by kernel_rfl]
  refine Pl.H.take 0 4 (.pointer (some ⟨p, 0, none⟩)) (by kernel_rfl) (by kernel_rfl) (by kernel_rfl) (Pl.free 0 (by kernel_rfl)) (Pl.move 0 (.tmp 0) (by kernel_rfl) (by decide)) (show (fun w' => w'.cell? ⟨p, 1, none⟩ = some (.int .i64 ((D.sb : Nat) : Int))) w.drew from h.drew.c1) ?_
  refine Pl.H.take 1 5 (.pointer (some ⟨p, 0, none⟩)) (by kernel_rfl) (by kernel_rfl) (by kernel_rfl) (Pl.free 1 (by kernel_rfl)) (Pl.move 1 (.tmp 0) (by kernel_rfl) (by decide)) (show (fun w' => w'.cell? ⟨p, 1, none⟩ = some (.int .i64 ((D.sb : Nat) : Int))) w.drew from h.drew.c1) ?_
  refine Pl.H.take 2 6 (.pointer (some ⟨p, 0, none⟩)) (by kernel_rfl) (by kernel_rfl) (by kernel_rfl) (Pl.free 2 (by kernel_rfl)) (Pl.nilc 2 (.tmp 5) _ (by kernel_rfl) (by decide) rfl) (show (fun w' => w'.cell? ⟨p, 1, none⟩ = some (.int .i64 ((D.sb : Nat) : Int))) w.drew from h.drew.c1) ?_
  refine Pl.H.take 3 7 (.pointer (some ⟨p, 2, none⟩)) (by kernel_rfl) (by kernel_rfl) (by kernel_rfl) (Pl.free 3 (by kernel_rfl)) (Pl.field 3 65 (.tmp 6) 2 _ (by kernel_rfl) (by decide) (fdDk2_0 p)) (show (fun w' => w'.cell? ⟨p, 1, none⟩ = some (.int .i64 ((D.sb : Nat) : Int))) w.drew from h.drew.c1) ?_
  refine Pl.H.take 5 9 (.int .i64 pl) (by kernel_rfl) (by kernel_rfl) (by kernel_rfl) (Pl.free 5 (by kernel_rfl)) (Pl.move 5 (.tmp 1) (by kernel_rfl) (by decide)) (show (fun w' => w'.cell? ⟨p, 1, none⟩ = some (.int .i64 ((D.sb : Nat) : Int))) w.drew from h.drew.c1) ?_
  refine Pl.H.take 6 10 (.pointer (some ⟨p, 0, none⟩)) (by kernel_rfl) (by kernel_rfl) (by kernel_rfl) (Pl.free 6 (by kernel_rfl)) (Pl.move 6 (.tmp 0) (by kernel_rfl) (by decide)) (show (fun w' => w'.cell? ⟨p, 1, none⟩ = some (.int .i64 ((D.sb : Nat) : Int))) w.drew from h.drew.c1) ?_
  refine Pl.H.take 7 11 (.pointer (some ⟨p, 0, none⟩)) (by kernel_rfl) (by kernel_rfl) (by kernel_rfl) (Pl.free 7 (by kernel_rfl)) (Pl.nilc 7 (.tmp 10) _ (by kernel_rfl) (by decide) rfl) (show (fun w' => w'.cell? ⟨p, 1, none⟩ = some (.int .i64 ((D.sb : Nat) : Int))) w.drew from h.drew.c1) ?_
  refine Pl.H.take 8 12 (.pointer (some ⟨p, 1, none⟩)) (by kernel_rfl) (by kernel_rfl) (by kernel_rfl) (Pl.free 8 (by kernel_rfl)) (Pl.field 8 65 (.tmp 11) 1 _ (by kernel_rfl) (by decide) (fdDk1_0 p)) (show (fun w' => w'.cell? ⟨p, 1, none⟩ = some (.int .i64 ((D.sb : Nat) : Int))) w.drew from h.drew.c1) ?_
  refine Pl.H.take 9 13 (.int .i64 ((D.sb : Nat) : Int)) (by kernel_rfl) (by kernel_rfl) (by kernel_rfl) (Pl.free 9 (by kernel_rfl)) (Pl.load 9 3 (.tmp 12) _ (by kernel_rfl) (by decide) (fun w' hS => ldInt p 1 _ w' hS)) (show (fun w' => w'.cell? ⟨p, 1, none⟩ = some (.int .i64 ((D.sb : Nat) : Int))) w.drew from h.drew.c1) ?_
  refine Pl.H.take 10 14 (.int .i64 ((k : Nat) : Int)) (by kernel_rfl) (by kernel_rfl) (by kernel_rfl) (Pl.free 10 (by kernel_rfl)) (Pl.binV 10 .sub 3 3 (.tmp 9) (.tmp 13) (.int .i64 pl) (.int .i64 ((D.sb : Nat) : Int)) _ (by kernel_rfl) (by decide) (by decide) rfl rfl (fun w => by simp [go_sem, eqGuard, hk])) (show (fun w' => w'.cell? ⟨p, 1, none⟩ = some (.int .i64 ((D.sb : Nat) : Int))) w.drew from h.drew.c1) ?_
  refine Pl.H.solo 4 8 (.slice L.ss.a L.ss.len L.ss.cap) (by kernel_rfl) (by kernel_rfl) (by kernel_rfl) (Pl.free 4 (by kernel_rfl)) (Pl.load1 4 30 (.tmp 7) _ (by kernel_rfl) (by decide) (ldBs p 2 _ _ _ _ h.drew.c2)) (show (fun w' => w'.cell? ⟨p, 1, none⟩ = some (.int .i64 ((D.sb : Nat) : Int))) w.drew from h.drew.c1) ?_
  refine Pl.H.take 11 15 ((L.ss.from_ k).val) (by kernel_rfl) (by kernel_rfl) (by kernel_rfl) (Pl.free 11 (by kernel_rfl)) (Pl.slice 11 30 (.tmp 8) (some (.tmp 14)) none _ (by kernel_rfl) (by decide) (by decide) (by decide) (fun w => slice_from L.ss.a L.ss.len L.ss.cap k hl w)) (show (fun w' => w'.cell? ⟨p, 1, none⟩ = some (.int .i64 ((D.sb : Nat) : Int))) w.drew from h.drew.c1) ?_
  refine Pl.H.take 12 16 (.pointer (some ⟨p, 0, none⟩)) (by kernel_rfl) (by kernel_rfl) (by kernel_rfl) (Pl.free 12 (by kernel_rfl)) (Pl.nilc 12 (.tmp 4) _ (by kernel_rfl) (by decide) rfl) (show (fun w' => w'.cell? ⟨p, 1, none⟩ = some (.int .i64 ((D.sb : Nat) : Int))) w.drew from h.drew.c1) ?_
  refine Pl.H.take 13 17 (.pointer (some ⟨p, 2, none⟩)) (by kernel_rfl) (by kernel_rfl) (by kernel_rfl) (Pl.free 13 (by kernel_rfl)) (Pl.field 13 65 (.tmp 16) 2 _ (by kernel_rfl) (by decide) (fdDk2_0 p)) (show (fun w' => w'.cell? ⟨p, 1, none⟩ = some (.int .i64 ((D.sb : Nat) : Int))) w.drew from h.drew.c1) ?_
  refine Pl.H.store 14 (w.drew.setCell ⟨p, 2, none⟩ (L.ss.from_ k).val) (by kernel_rfl) (by kernel_rfl) (by kernel_rfl) (Pl.free 14 (by kernel_rfl)) (Pl.storeV 14 30 (.tmp 17) (.tmp 15) _ (by kernel_rfl) (by decide) (by decide) (stBs p 2 _ _ w.drew h.drew.c2 (h.drew.fz 2))) hS1 ?_
  refine Pl.H.done (by kernel_rfl) (fun A' hA' => ?_)
  rw [Pl.At.ext hA' ((((((((((((((hA.put 4 _).put 5 _).put 6 _).put 7 _).put 9 _).put 10 _).put 11 _).put 12 _).put 13 _).put 14 _).put 8 _).put 15 _).put 16 _).put 17 _)]
  exact hend (fun d => if d = 4 then .pointer (some ⟨p, 0, none⟩) else if d = 5 then .pointer (some ⟨p, 0, none⟩) else if d = 6 then .pointer (some ⟨p, 0, none⟩) else if d = 7 then .pointer (some ⟨p, 2, none⟩) else if d = 9 then .int .i64 pl else if d = 10 then .pointer (some ⟨p, 0, none⟩) else if d = 11 then .pointer (some ⟨p, 0, none⟩) else if d = 12 then .pointer (some ⟨p, 1, none⟩) else if d = 13 then .int .i64 ((D.sb : Nat) : Int) else if d = 14 then .int .i64 ((k : Nat) : Int) else if d = 8 then .slice L.ss.a L.ss.len L.ss.cap else if d = 15 then (L.ss.from_ k).val else if d = 16 then .pointer (some ⟨p, 0, none⟩) else if d = 17 then .pointer (some ⟨p, 2, none⟩) else undef) _ rfl

set_option maxHeartbeats 1000000 in
theorem trimS (w : World) (p : Nat) (D : Ds) (L : Dl) (h : DevM w p D L) (pl : Nat) (hk : D.sb ≤ pl) (hl : pl ≤ D.sb + D.ss.length) (hm : pl ≤ 1000000000000) : Calls Try.prog 37 #[.pointer (some ⟨p, 0, none⟩), .int .i64 ((pl : Nat) : Int)] w fun e w' => e = .returned (.tuple #[]) ∧ ∃ L', Turned w p L w' { D with ss := D.ss.drop (pl - D.sb), sb := pl } L' := by
  have e1 : D.ss.length = L.ss.len := h.len .ss
  have hkl : pl - D.sb ≤ L.ss.len := by omega
  obtain ⟨ho, hbl⟩ := (h.own .ss).from_ hkl
  have hT : Turned w p L (w.drew.setCell ⟨p, 2, none⟩ (L.ss.from_ (pl - D.sb)).val) { D with ss := D.ss.drop (pl - D.sb) } { L with ss := L.ss.from_ (pl - D.sb) } := by
    refine h.swap .ss (L.ss.from_ (pl - D.sb)) (D.ss.drop (pl - D.sb)) ((Frm.refl _ w).drew) ?_ (fun x hx => h.byt .ss x (List.mem_of_mem_drop hx)) (fun k hk => .inl (by rw [← hk]; exact hbl.symm)) 2 _ _ (by rfl) ⟨rfl, rfl⟩ (fun f hf => by cases f <;> first | exact ⟨rfl, rfl⟩ | exact absurd rfl hf) ⟨rfl, rfl⟩ ⟨rfl, rfl⟩
    have e2 : (vals D.ss).drop (pl - D.sb) = vals (D.ss.drop (pl - D.sb)) := by simp [vals, List.map_drop]
    have ho' : Own 5 1 w (L.ss.from_ (pl - D.sb)) (vals (D.ss.drop (pl - D.sb))) := by rw [← e2]; exact ho
    exact ho'.frame fun _ _ => rfl
  have HT := hide hT
  have hT2 := hT.trans (Turned.cell (hT.dev.turn { D with ss := D.ss.drop (pl - D.sb), sb := pl } { L with ss := L.ss.from_ (pl - D.sb) } 1 (.int .i64 ((pl : Nat) : Int)) (by rfl) (fun f => by cases f <;> exact ⟨rfl, rfl⟩) ⟨rfl, rfl⟩ ⟨rfl, rfl⟩) ((Frm.refl (fun k => k = p) _).setCell (p := ⟨p, 1, none⟩) rfl _))
  have HT2 := hide hT2
  have HR : Hid (∀ {Q : Exit → Act → World → Prop} {A : Act}, _) := fun {Q A} => trimS1 w p D L h ((pl : Nat) : Int) (pl - D.sb) (by rw [IntKind.wrap_i64]; omega) hkl (Q := Q) (A := A)
  have c1 := hT.dev.c1
  have f1 := hT.dev.fz
  clear hT hT2 h e1 ho hbl
  simp only at c1
  generalize hW : w.drew.setCell ⟨p, 2, none⟩ (L.ss.from_ (pl - D.sb)).val = W at *
  clear hW
  go_enter Try.func37, Try.ntmps37
  go_wp2_with fail
  refine Pl.region_is (ops := Pl.find 0 ((Try.f37.body).getD .skip)) (by kernel_rfl) ?_
  refine HR.out (by rfl) rfl (by rfl) (by rfl) ?_
  rintro u w' rfl
  simp only [Act.put, List.setIfInBounds_toArray, List.set_cons_zero, List.set_cons_succ]
  go_wp2_with fail
  go_end0
  exact ⟨rfl, _, HT2.out⟩

set_option maxHeartbeats 2000000 in
set_option maxRecDepth 100000 in
theorem trimK1 (w : World) (p : Nat) (D : Ds) (L : Dl) (h : DevM w p D L) (pl : Int) (k : Nat) (hk : IntKind.i64.wrap (pl - (D.kb : Int)) = (k : Nat)) (hl : k ≤ L.ks.len)
    {Q : Exit → Act → World → Prop} {A : Act} (hsz : A.tmps.size = 22) (hdf : A.defers = []) (s0 : A.tmps.getD 0 undef = .pointer (some ⟨p, 3, none⟩)) (s1 : A.tmps.getD 1 undef = .int .i64 pl)
    (hend : ∀ (u : Nat → Value) w', w' = w.drew.setCell ⟨p, 5, none⟩ (L.ks.from_ k).val → Q .normal (((((((((((((((A).put (some 4) (u 4)).put (some 5) (u 5)).put (some 6) (u 6)).put (some 7) (u 7)).put (some 9) (u 9)).put (some 10) (u 10)).put (some 11) (u 11)).put (some 12) (u 12)).put (some 13) (u 13)).put (some 14) (u 14)).put (some 8) (u 8)).put (some 15) (u 15)).put (some 16) (u 16)).put (some 17) (u 17)) w') :
    (Code.region 0 (Pl.find 0 ((Try.f37.body).getD .skip)) true).wp Try.prog Q A w := by
  have hS1 : (fun w' : World => w'.cell? ⟨p, 4, none⟩ = some (.int .i64 ((D.kb : Nat) : Int))) (w.drew.setCell ⟨p, 5, none⟩ (L.ks.from_ k).val) := by
    have hb := heap_setCell_same w.drew p 5 _ 69 (L.ks.from_ k).val h.drew.blk
    show World.cell? _ _ = _
    rw [Addr.cell0 hb]
    rfl
  have hA := Pl.At.same (v := .int .i64 pl) (d := 1) (Pl.At.same (v := .pointer (some ⟨p, 3, none⟩)) (d := 0) (Pl.At.here hsz hdf) s0) s1
  refine Pl.H.start (S := fun w' => w'.cell? ⟨p, 4, none⟩ = some (.int .i64 ((D.kb : Nat) : Int))) (by kernel_rfl) hA (show (fun w' => w'.cell? ⟨p, 4, none⟩ = some (.int .i64 ((D.kb : Nat) : Int))) w.drew from h.drew.c4) ?_
  rw [show (Pl.find 0 ((Try.f37.body).getD .skip)).size = 15 by kernel_rfl]
  refine Pl.H.take 0 4 (.pointer (some ⟨p, 3, none⟩)) (by kernel_rfl) (by kernel_rfl) (by kernel_rfl) (Pl.free 0 (by kernel_rfl)) (Pl.move 0 (.tmp 0) (by kernel_rfl) (by decide)) (show (fun w' => w'.cell? ⟨p, 4, none⟩ = some (.int .i64 ((D.kb : Nat) : Int))) w.drew from h.drew.c4) ?_
  refine Pl.H.take 1 5 (.pointer (some ⟨p, 3, none⟩)) (by kernel_rfl) (by kernel_rfl) (by kernel_rfl) (Pl.free 1 (by kernel_rfl)) (Pl.move 1 (.tmp 0) (by kernel_rfl) (by decide)) (show (fun w' => w'.cell? ⟨p, 4, none⟩ = some (.int .i64 ((D.kb : Nat) : Int))) w.drew from h.drew.c4) ?_
  refine Pl.H.take 2 6 (.pointer (some ⟨p, 3, none⟩)) (by kernel_rfl) (by kernel_rfl) (by kernel_rfl) (Pl.free 2 (by kernel_rfl)) (Pl.nilc 2 (.tmp 5) _ (by kernel_rfl) (by decide) rfl) (show (fun w' => w'.cell? ⟨p, 4, none⟩ = some (.int .i64 ((D.kb : Nat) : Int))) w.drew from h.drew.c4) ?_
  refine Pl.H.take 3 7 (.pointer (some ⟨p, 5, none⟩)) (by kernel_rfl) (by kernel_rfl) (by kernel_rfl) (Pl.free 3 (by kernel_rfl)) (Pl.field 3 65 (.tmp 6) 2 _ (by kernel_rfl) (by decide) (fdDk2_3 p)) (show (fun w' => w'.cell? ⟨p, 4, none⟩ = some (.int .i64 ((D.kb : Nat) : Int))) w.drew from h.drew.c4) ?_
  refine Pl.H.take 5 9 (.int .i64 pl) (by kernel_rfl) (by kernel_rfl) (by kernel_rfl) (Pl.free 5 (by kernel_rfl)) (Pl.move 5 (.tmp 1) (by kernel_rfl) (by decide)) (show (fun w' => w'.cell? ⟨p, 4, none⟩ = some (.int .i64 ((D.kb : Nat) : Int))) w.drew from h.drew.c4) ?_
  refine Pl.H.take 6 10 (.pointer (some ⟨p, 3, none⟩)) (by kernel_rfl) (by kernel_rfl) (by kernel_rfl) (Pl.free 6 (by kernel_rfl)) (Pl.move 6 (.tmp 0) (by kernel_rfl) (by decide)) (show (fun w' => w'.cell? ⟨p, 4, none⟩ = some (.int .i64 ((D.kb : Nat) : Int))) w.drew from h.drew.c4) ?_
  refine Pl.H.take 7 11 (.pointer (some ⟨p, 3, none⟩)) (by kernel_rfl) (by kernel_rfl) (by kernel_rfl) (Pl.free 7 (by kernel_rfl)) (Pl.nilc 7 (.tmp 10) _ (by kernel_rfl) (by decide) rfl) (show (fun w' => w'.cell? ⟨p, 4, none⟩ = some (.int .i64 ((D.kb : Nat) : Int))) w.drew from h.drew.c4) ?_
  refine Pl.H.take 8 12 (.pointer (some ⟨p, 4, none⟩)) (by kernel_rfl) (by kernel_rfl) (by kernel_rfl) (Pl.free 8 (by kernel_rfl)) (Pl.field 8 65 (.tmp 11) 1 _ (by kernel_rfl) (by decide) (fdDk1_3 p)) (show (fun w' => w'.cell? ⟨p, 4, none⟩ = some (.int .i64 ((D.kb : Nat) : Int))) w.drew from h.drew.c4) ?_
  refine Pl.H.take 9 13 (.int .i64 ((D.kb : Nat) : Int)) (by kernel_rfl) (by kernel_rfl) (by kernel_rfl) (Pl.free 9 (by kernel_rfl)) (Pl.load 9 3 (.tmp 12) _ (by kernel_rfl) (by decide) (fun w' hS => ldInt p 4 _ w' hS)) (show (fun w' => w'.cell? ⟨p, 4, none⟩ = some (.int .i64 ((D.kb : Nat) : Int))) w.drew from h.drew.c4) ?_
  refine Pl.H.take 10 14 (.int .i64 ((k : Nat) : Int)) (by kernel_rfl) (by kernel_rfl) (by kernel_rfl) (Pl.free 10 (by kernel_rfl)) (Pl.binV 10 .sub 3 3 (.tmp 9) (.tmp 13) (.int .i64 pl) (.int .i64 ((D.kb : Nat) : Int)) _ (by kernel_rfl) (by decide) (by decide) rfl rfl (fun w => by simp [go_sem, eqGuard, hk])) (show (fun w' => w'.cell? ⟨p, 4, none⟩ = some (.int .i64 ((D.kb : Nat) : Int))) w.drew from h.drew.c4) ?_
  refine Pl.H.solo 4 8 (.slice L.ks.a L.ks.len L.ks.cap) (by kernel_rfl) (by kernel_rfl) (by kernel_rfl) (Pl.free 4 (by kernel_rfl)) (Pl.load1 4 30 (.tmp 7) _ (by kernel_rfl) (by decide) (ldBs p 5 _ _ _ _ h.drew.c5)) (show (fun w' => w'.cell? ⟨p, 4, none⟩ = some (.int .i64 ((D.kb : Nat) : Int))) w.drew from h.drew.c4) ?_
  refine Pl.H.take 11 15 ((L.ks.from_ k).val) (by kernel_rfl) (by kernel_rfl) (by kernel_rfl) (Pl.free 11 (by kernel_rfl)) (Pl.slice 11 30 (.tmp 8) (some (.tmp 14)) none _ (by kernel_rfl) (by decide) (by decide) (by decide) (fun w => slice_from L.ks.a L.ks.len L.ks.cap k hl w)) (show (fun w' => w'.cell? ⟨p, 4, none⟩ = some (.int .i64 ((D.kb : Nat) : Int))) w.drew from h.drew.c4) ?_
  refine Pl.H.take 12 16 (.pointer (some ⟨p, 3, none⟩)) (by kernel_rfl) (by kernel_rfl) (by kernel_rfl) (Pl.free 12 (by kernel_rfl)) (Pl.nilc 12 (.tmp 4) _ (by kernel_rfl) (by decide) rfl) (show (fun w' => w'.cell? ⟨p, 4, none⟩ = some (.int .i64 ((D.kb : Nat) : Int))) w.drew from h.drew.c4) ?_
  refine Pl.H.take 13 17 (.pointer (some ⟨p, 5, none⟩)) (by kernel_rfl) (by kernel_rfl) (by kernel_rfl) (Pl.free 13 (by kernel_rfl)) (Pl.field 13 65 (.tmp 16) 2 _ (by kernel_rfl) (by decide) (fdDk2_3 p)) (show (fun w' => w'.cell? ⟨p, 4, none⟩ = some (.int .i64 ((D.kb : Nat) : Int))) w.drew from h.drew.c4) ?_
  refine Pl.H.store 14 (w.drew.setCell ⟨p, 5, none⟩ (L.ks.from_ k).val) (by kernel_rfl) (by kernel_rfl) (by kernel_rfl) (Pl.free 14 (by kernel_rfl)) (Pl.storeV 14 30 (.tmp 17) (.tmp 15) _ (by kernel_rfl) (by decide) (by decide) (stBs p 5 _ _ w.drew h.drew.c5 (h.drew.fz 5))) hS1 ?_
  refine Pl.H.done (by kernel_rfl) (fun A' hA' => ?_)
  rw [Pl.At.ext hA' ((((((((((((((hA.put 4 _).put 5 _).put 6 _).put 7 _).put 9 _).put 10 _).put 11 _).put 12 _).put 13 _).put 14 _).put 8 _).put 15 _).put 16 _).put 17 _)]
  exact hend (fun d => if d = 4 then .pointer (some ⟨p, 3, none⟩) else if d = 5 then .pointer (some ⟨p, 3, none⟩) else if d = 6 then .pointer (some ⟨p, 3, none⟩) else if d = 7 then .pointer (some ⟨p, 5, none⟩) else if d = 9 then .int .i64 pl else if d = 10 then .pointer (some ⟨p, 3, none⟩) else if d = 11 then .pointer (some ⟨p, 3, none⟩) else if d = 12 then .pointer (some ⟨p, 4, none⟩) else if d = 13 then .int .i64 ((D.kb : Nat) : Int) else if d = 14 then .int .i64 ((k : Nat) : Int) else if d = 8 then .slice L.ks.a L.ks.len L.ks.cap else if d = 15 then (L.ks.from_ k).val else if d = 16 then .pointer (some ⟨p, 3, none⟩) else if d = 17 then .pointer (some ⟨p, 5, none⟩) else undef) _ rfl

set_option maxHeartbeats 1000000 in
theorem trimK (w : World) (p : Nat) (D : Ds) (L : Dl) (h : DevM w p D L) (pl : Nat) (hk : D.kb ≤ pl) (hl : pl ≤ D.kb + D.ks.length) (hm : pl ≤ 1000000000000) : Calls Try.prog 37 #[.pointer (some ⟨p, 3, none⟩), .int .i64 ((pl : Nat) : Int)] w fun e w' => e = .returned (.tuple #[]) ∧ ∃ L', Turned w p L w' { D with ks := D.ks.drop (pl - D.kb), kb := pl } L' := by
  have e1 : D.ks.length = L.ks.len := h.len .ks
  have hkl : pl - D.kb ≤ L.ks.len := by omega
  obtain ⟨ho, hbl⟩ := (h.own .ks).from_ hkl
  have hT : Turned w p L (w.drew.setCell ⟨p, 5, none⟩ (L.ks.from_ (pl - D.kb)).val) { D with ks := D.ks.drop (pl - D.kb) } { L with ks := L.ks.from_ (pl - D.kb) } := by
    refine h.swap .ks (L.ks.from_ (pl - D.kb)) (D.ks.drop (pl - D.kb)) ((Frm.refl _ w).drew) ?_ (fun x hx => h.byt .ks x (List.mem_of_mem_drop hx)) (fun k hk => .inl (by rw [← hk]; exact hbl.symm)) 5 _ _ (by rfl) ⟨rfl, rfl⟩ (fun f hf => by cases f <;> first | exact ⟨rfl, rfl⟩ | exact absurd rfl hf) ⟨rfl, rfl⟩ ⟨rfl, rfl⟩
    have e2 : (vals D.ks).drop (pl - D.kb) = vals (D.ks.drop (pl - D.kb)) := by simp [vals, List.map_drop]
    have ho' : Own 5 1 w (L.ks.from_ (pl - D.kb)) (vals (D.ks.drop (pl - D.kb))) := by rw [← e2]; exact ho
    exact ho'.frame fun _ _ => rfl
  have HT := hide hT
  have hT2 := hT.trans (Turned.cell (hT.dev.turn { D with ks := D.ks.drop (pl - D.kb), kb := pl } { L with ks := L.ks.from_ (pl - D.kb) } 4 (.int .i64 ((pl : Nat) : Int)) (by rfl) (fun f => by cases f <;> exact ⟨rfl, rfl⟩) ⟨rfl, rfl⟩ ⟨rfl, rfl⟩) ((Frm.refl (fun k => k = p) _).setCell (p := ⟨p, 4, none⟩) rfl _))
  have HT2 := hide hT2
  have HR : Hid (∀ {Q : Exit → Act → World → Prop} {A : Act}, _) := fun {Q A} => trimK1 w p D L h ((pl : Nat) : Int) (pl - D.kb) (by rw [IntKind.wrap_i64]; omega) hkl (Q := Q) (A := A)
  have c1 := hT.dev.c4
  have f1 := hT.dev.fz
  clear hT hT2 h e1 ho hbl
  simp only at c1
  generalize hW : w.drew.setCell ⟨p, 5, none⟩ (L.ks.from_ (pl - D.kb)).val = W at *
  clear hW
  go_enter Try.func37, Try.ntmps37
  go_wp2_with fail
  refine Pl.region_is (ops := Pl.find 0 ((Try.f37.body).getD .skip)) (by kernel_rfl) ?_
  refine HR.out (by rfl) rfl (by rfl) (by rfl) ?_
  rintro u w' rfl
  simp only [Act.put, List.setIfInBounds_toArray, List.set_cons_zero, List.set_cons_succ]
  go_wp2_with fail
  go_end0
  exact ⟨rfl, _, HT2.out⟩

theorem Owns.own {w : World} {base : Nat} {v : Value} {xs : List Nat} (h : Owns w base v xs) : ∃ s : Sl, v = s.val ∧ Own 5 1 w s (vals xs) ∧ s.len = xs.length ∧ ∀ k, s.blk = some k → base ≤ k := by
  rcases h.2 with ⟨hv, h0⟩ | ⟨g, cap, cur, hv, hbg, hg, hle, hm, hcs, htk⟩
  · refine ⟨Sl.nil, hv, ?_, h0.symm, fun k hk => by cases hk⟩
    have : xs = [] := List.eq_nil_of_length_eq_zero h0
    subst this
    exact Own.nil _ _ _
  · refine ⟨⟨some ⟨g, 0, none⟩, xs.length, cap⟩, hv, ⟨by rw [vals_length]; show _ = xs.length * 1; omega, .inr ⟨g, 0, cur, rfl, hg, by show 0 + cap * 1 ≤ _; rw [hcs]; omega, hle, hm, by rw [List.drop_zero]; exact htk⟩⟩, rfl, fun k hk => by cases hk; exact hbg⟩

set_option maxHeartbeats 1000000 in
theorem clone_any (w : World) (a : Option Addr) (len cap : Nat) (xs : List Nat) (h : Came w a len cap xs) (hm : len ≤ 1000000) : Calls Try.prog 40 #[.slice a len cap] w fun e w' => Below w.heap.size w w' ∧ ∃ s : Sl, e = .returned s.val ∧ Own 5 1 w' s (vals xs) ∧ s.len = xs.length ∧ ∀ k, s.blk = some k → w.heap.size ≤ k := by
  cases a with
  | none =>
    have hc := h.nil rfl
    have h0 : len = 0 := by have := h.le; omega
    subst hc; subst h0
    have hx : xs = [] := List.eq_nil_of_length_eq_zero h.bs.1
    subst hx
    clear h
    have HN := hide (Own.nil 5 1 w)
    have HB := hide (Below.refl w.heap.size w)
    have he : ∀ w : World, (binOp .eql 30 (.slice none 0 0) (.slice none 0 0)).run Try.prog w = .ok (.bool true) w := fun _ => rfl
    go_enter Try.func40, Try.ntmps40
    go_wp2_with fail
    go_ret
    exact ⟨HB.out, Sl.nil, rfl, HN.out, rfl, fun k hk => by cases hk⟩
  | some ad =>
    have HO : Hid (Owns (w.alloc (.cells #[] 5)) w.heap.size (.slice (some ⟨w.heap.size, 0, none⟩) 0 0) []) := own_new w
    have HA := hide (below_alloc w (.cells #[] 5))
    have HV := hide (h.bs.keep (below_alloc w (.cells #[] 5)) (Nat.le_refl _))
    have HN : Hid (some ad = none → cap = 0) := fun e => by cases e
    have HL : Hid (([] : List Nat).length + len ≤ 1000000) := by show _ ≤ _; simp; omega
    have he : ∀ w : World, (binOp .eql 30 (.slice (some ad) len cap) (.slice none 0 0)).run Try.prog w = .ok (.bool false) w := fun _ => rfl
    clear h
    go_enter Try.func40, Try.ntmps40
    go_wp2_with (at_builtin; refine wpList_append_bytes' _ rfl (.tmp 5) (.tmp 6) rfl w.heap.size _ [] rfl HO.out _ _ _ _ rfl HV.out HN.out HL.out HA.out.size ?_)
    intro v1 w1 ho1 hb1 _
    have HO1 := hide ho1
    have HB1 := hide (HA.out.trans hb1)
    clear ho1 hb1 HO HA HV HN HL
    go_wp2_with fail
    go_ret
    obtain ⟨s, hv, h1, h2, h3⟩ := HO1.out.own
    exact ⟨HB1.out, s, congrArg Ending.returned hv, h1, h2, h3⟩

end Go.Proofs.Ytokdeilcfkobfaa
