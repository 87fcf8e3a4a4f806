/-
  Both devices in memory, apart from one another.
-/
import Derived.Test.YtokdeilcfkobfaaActH
namespace Go.Proofs.Ytokdeilcfkobfaa
open Go.RowKit
variable {K : Home}

theorem Own.typ {e : TypeId} {z : Nat} {w : World} {s : Sl} {vs : List Value} (h : Own e z w s vs) {k : Nat} (hk : s.blk = some k) : ∃ C, w.heap[k]? = some (.cells C e (0, 0)) := by
  rcases h.2 with ⟨hs, _⟩ | ⟨g, off, cur, ha, hg, _⟩
  · rw [hs] at hk; cases hk
  · unfold Sl.blk at hk
    rw [ha] at hk
    obtain rfl : g = k := Option.some.inj hk
    exact ⟨cur, hg⟩
theorem PtAt.off {w : World} {p : Nat} {D : Ds} {L : Dl} {b o : Nat} {i : PtS} (hp : PtAt w b o i) (h : DevM w p D L) : ¬ L.F p b := by
  obtain ⟨_, _, _, _, C, fr, hc⟩ := hp
  intro hf
  have : ∃ C' t fr', w.heap[b]? = some (Obj.cells C' t fr') ∧ t ≠ 81 := by
    rcases hf with rfl | ⟨f, hf⟩ | hf | hf
    · exact ⟨_, _, _, h.blk, by decide⟩
    · obtain ⟨C', e⟩ := (h.own f).typ hf; exact ⟨_, _, _, e, by decide⟩
    · obtain ⟨C', e⟩ := h.wr.typ hf; exact ⟨_, _, _, e, by decide⟩
    · obtain ⟨C', e⟩ := h.tr.typ hf; exact ⟨_, _, _, e, by decide⟩
  obtain ⟨C', t, fr', e, ht⟩ := this
  rw [hc] at e
  simp only [Option.some.injEq, Obj.cells.injEq] at e
  exact ht e.2.1.symm

/-- Every block that is not the device's. -/
def homeOf {w : World} {p : Nat} {D : Ds} {L : Dl} (h : DevM w p D L) : Home := ⟨fun k => ¬ L.F p k, w.heap.size, fun k hk hf => by have := h.lt hf; omega⟩

theorem BsS.move {w w' : World} {p : Nat} {D' : Ds} {L L' : Dl} {s : Sl} {xs : List Nat} (h : BsS K w s xs) (far : ∀ k, K.G k → ¬ L.F p k) (t : Turned w p L w' D' L') : BsS (homeOf t.dev) w' s xs := by
  refine ⟨h.came.frm t.frm (fun ad e hl => far _ (h.home hl ad e)), Nat.le_refl _, fun hl ad e hf => ?_⟩
  rcases t.foot _ hf with h1 | h1
  · exact far _ (h.home hl ad e) h1
  · obtain ⟨b, off, e', hc⟩ := h.came.bs.2.2 0 hl
    rw [e] at e'
    obtain rfl := Option.some.inj e'
    have := World.block_lt_of_cell? w _ hc
    simp only at h1 this
    omega
theorem DvIn.move {w w' : World} {p : Nat} {D D' : Ds} {Ld Ld' : Dl} {d : Dv} {L : DvL} (h : DvIn K w d L) (hm : DevM w p D Ld) (far : ∀ k, K.G k → ¬ Ld.F p k) (t : Turned w p Ld w' D' Ld') : DvIn (homeOf t.dev) w' d L := by
  refine ⟨⟨h.kept.pg.move far t, h.kept.st.move far t⟩, ⟨h.now.pg.move far t, h.now.st.move far t⟩, ⟨h.done.1, fun i hi => ⟨(h.done.2.1 i hi).1.move far t, (h.done.2.1 i hi).2⟩, fun j hj => ?_⟩, h.nil, h.le⟩
  obtain ⟨b, off, ha, hp⟩ := h.done.2.2 j hj
  have hnf := hp.off hm
  obtain ⟨c0, c1, c2, c3, C, fr, hc⟩ := hp
  have hlt := (Array.getElem?_eq_some_iff.1 hc).1
  have hb := t.frm.block b hlt hnf
  have hcell : ∀ o, w'.cell? ⟨b, o, none⟩ = w.cell? ⟨b, o, none⟩ := by
    intro o
    simp only [World.cell?]
    rw [hb]
  exact ⟨b, off, ha, (hcell _).trans c0, (hcell _).trans c1, (hcell _).trans c2, (hcell _).trans c3, C, fr, hb.trans hc⟩

/-- Both devices, the document's in a box. -/
structure Mid (B : Nat) (w0 : World) (p q : Nat) (w : World) (D : Ds) (Ld : Dl) (d : Dv) (L : DvL) (K : Home) : Prop where
  mine : Mine B w0 w p D Ld
  far : ∀ k, K.G k → ¬ Ld.F p k
  inn : ∀ k, k < B → K.G k
  low : K.low ≤ w.heap.size
  din : DvIn K w d L
  box : DvBlk w q L.kp.val d.kept.base L.ks.val L.np.val d.now.base L.ns.val L.ds.val d.gone d.armed
  qB : B ≤ q
  qF : ¬ Ld.F p q
theorem Mid.turn {B : Nat} {w0 : World} {p q : Nat} {w w1 : World} {D D' : Ds} {Ld Ld' : Dl} {d : Dv} {L : DvL} (h : Mid B w0 p q w D Ld d L K) (t : Turned w p Ld w1 D' Ld') : ∃ K1, Mid B w0 p q w1 D' Ld' d L K1 := by
  have hq := (Array.getElem?_eq_some_iff.1 h.box).1
  refine ⟨homeOf t.dev, h.mine.turn t, fun k hk => hk, fun k hk hf => ?_, Nat.le_refl _, h.din.move h.mine.dev h.far t, (t.frm.block q hq h.qF).trans h.box, h.qB, fun hf => ?_⟩
  · have := (h.mine.turn t).foot k hf
    omega
  · rcases t.foot q hf with h1 | h1
    · exact h.qF h1
    · omega
theorem Mid.grow {B : Nat} {w0 : World} {p q : Nat} {w w1 : World} {D : Ds} {Ld : Dl} {d : Dv} {L : DvL} (h : Mid B w0 p q w D Ld d L K) (hb : Below w.heap.size w w1) : Mid B w0 p q w1 D Ld d L K :=
  ⟨h.mine.turn (Turned.same h.mine.dev hb), h.far, h.inn, Nat.le_trans h.low hb.size, h.din.keep hb (Nat.le_refl _), h.box.keep hb, h.qB, h.qF⟩
theorem Mid.store {B : Nat} {w0 : World} {p q : Nat} {w : World} {D : Ds} {Ld : Dl} {d d' : Dv} {L L' : DvL} (h : Mid B w0 p q w D Ld d L K) (hd : DvIn K w d' L') : Mid B w0 p q (setDv w q L'.kp.val d'.kept.base L'.ks.val L'.np.val d'.now.base L'.ns.val L'.ds.val d'.gone d'.armed) D Ld d' L' K := by
  have hbb := setDv_below h.mine.below h.qB L'.kp.val d'.kept.base L'.ks.val L'.np.val d'.now.base L'.ns.val L'.ds.val d'.gone d'.armed
  have ho := setDv_other w q L'.kp.val d'.kept.base L'.ks.val L'.np.val d'.now.base L'.ns.val L'.ds.val d'.gone d'.armed
  have hs := setDv_size w q L'.kp.val d'.kept.base L'.ks.val L'.np.val d'.now.base L'.ns.val L'.ds.val d'.gone d'.armed
  have hd1 : DevM (setDv w q L'.kp.val d'.kept.base L'.ks.val L'.np.val d'.now.base L'.ns.val L'.ds.val d'.gone d'.armed) p D Ld := by
    have hb : ∀ k, Ld.F p k → (setDv w q L'.kp.val d'.kept.base L'.ks.val L'.np.val d'.now.base L'.ns.val L'.ds.val d'.gone d'.armed).heap[k]? = w.heap[k]? := fun k hk => ho k (fun e => h.qF (e ▸ hk))
    have hm := h.mine.dev
    exact ⟨(hb p (.inl rfl)).trans hm.blk, fun f => (hm.own f).frame fun k hk => hb k (.inr (.inl ⟨f, hk⟩)), hm.byt, hm.apart, hm.wr.frame fun k hk => hb k (.inr (.inr (.inl hk))), hm.tr.frame fun k hk => hb k (.inr (.inr (.inr hk)))⟩
  refine ⟨⟨hd1, h.mine.foot, hbb, by rw [hs]; exact h.mine.le⟩, h.far, h.inn, by rw [hs]; exact h.low, hd.otherDv h.box ho (by rw [hs]; exact Nat.le_refl _), setDv_blk h.box _ _ _ _ _ _ _ _ _, h.qB, h.qF⟩

end Go.Proofs.Ytokdeilcfkobfaa
