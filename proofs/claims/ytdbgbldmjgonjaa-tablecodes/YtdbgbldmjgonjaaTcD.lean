/-
  Layer 11, the landed table: slices.Clone of entries; copyOf; a copy in its box; counter, Leave, Write.
-/
import Derived.Test.YtdbgbldmjgonjaaTcC
import Derived.Test.YtdbgbldmjgonjaaTbS
namespace Go.Proofs.Ytdbgbldmjgonjaa
open Go.RowKit
set_option linter.unusedVariables false

set_option maxHeartbeats 4000000 in
set_option maxRecDepth 100000 in
theorem cloneE_any (v : Sl) (l : List En) (w : World) (h : Es w v l) (hl : 0 < v.len) (hm : v.len ≤ 100000) :
    Calls Try.prog 70 #[.slice v.a v.len v.cap] w fun e w' => ∃ s : Sl, e = .returned (.slice s.a s.len s.cap) ∧ OwnE w' s l ∧ s.len = v.len ∧ (∀ k, s.blk = some k → w.heap.size ≤ k) ∧ Below w.heap.size w w' := by
  have hA := below_alloc w (.cells #[] 58)
  obtain ⟨s, W, hrun, ho, hlen, hfr, hbk⟩ := (OwnE.new w).app (h.keep hA (Nat.le_refl _)) (by show 0 + v.len ≤ _; omega)
  rw [List.nil_append] at ho
  have HL : Hid (s.len = v.len) := by show _ = _; rw [hlen]; show 0 + v.len = _; omega
  have HK : Hid (∀ k, s.blk = some k → w.heap.size ≤ k) := fun k hk => by
    rcases hbk with e | ⟨e, _⟩
    · rw [e] at hk
      have e' : some w.heap.size = some k := hk
      cases e'
      exact Nat.le_refl _
    · rw [e] at hk
      cases hk
      exact hA.size
  have HB : Hid (Below w.heap.size w W) := hA.trans (hfr.below hA.size (fun k hk => by have e' : some w.heap.size = some k := hk; cases e'; exact Nat.le_refl _))
  have HO := hide ho
  have HRUN := hide hrun
  obtain ⟨b, off, ha, _⟩ := h.at' 0 hl
  obtain ⟨va, vl, vc⟩ := v
  replace ha : va = some ⟨b, off, none⟩ := ha
  subst ha
  have he : ∀ w : World, (binOp .eql 22 (.slice (some ⟨b, off, none⟩) vl vc) (.slice none 0 0)).run Try.prog w = .ok (.bool false) w := fun _ => rfl
  clear h hA hrun ho hlen hfr hbk hl hm
  simp only at *
  go_enter Try.func70, Try.ntmps70
  go_wp2_with (at_builtin; refine wpList_appendT _ rfl 22 (.tmp 5) (.tmp 6) rfl (.slice (some ⟨w.heap.size, 0, none⟩) 0 0) (.slice (some ⟨b, off, none⟩) vl vc) (.slice s.a s.len s.cap) rfl rfl W HRUN.out ?_)
  go_ret
  exact ⟨s, rfl, HO.out, HL.out, HK.out, HB.out⟩

set_option maxHeartbeats 4000000 in
set_option maxRecDepth 100000 in
theorem copyT_any (t : Tb) (v : Sl) (w : World) (h : Es w v t.es) (hl : 0 < v.len) (hm : v.len ≤ 100000) :
    Calls Try.prog 50 #[t.val v] w (TbOwn t w id) := by
  have HP := hide (Pair.new w t v)
  have HH := hide h
  generalize hW2 : (w.alloc (.cells #[.int .i64 t.nx, .int .i64 t.no, .int .i64 t.cm, .slice v.a v.len v.cap] 24)).alloc (.cells #[.int .i64 0, .int .i64 0, .int .i64 0, .slice none 0 0] 24) = W2 at *
  have HC := hide (cloneE_any v t.es W2 (h.keep HP.out.below (Nat.le_refl _)) hl hm)
  have d3 := HP.out.bt.c3
  clear h hl hm
  unfold Tb.val
  go_enter Try.func50, Try.ntmps50
  go_wp2_with fail
  refine HC.out.mono ?_
  rintro e w3 ⟨s, rfl, ho3, hl3, hn3, hb3⟩
  have hp3 := HP.out.keep hb3
  have hsz := HP.out.size
  obtain ⟨W4, hst4, t4, f4, s4⟩ := hp3.bt.st3 s t.es
  have hp4 : Pair w W4 t s := ⟨hp3.below.trans (f4.below hp3.below.size (fun k hk => by omega)), t4, hp3.br.other f4 (by omega)⟩
  have o4 : OwnE W4 s t.es := ho3.other f4 (fun k hk => by have := hn3 k hk; omega)
  obtain ⟨W5, hst5, b5, hB5, f5⟩ := hp4.told t s
  have HO5 : Hid (OwnE W5 s t.es) := o4.other f5 (fun k hk => by have := hn3 k hk; omega)
  have HN5 : Hid (∀ k, s.blk = some k → w.heap.size ≤ k) := fun k hk => by have := hn3 k hk; omega
  have HB5 := hide hB5
  have HK5 := hide b5
  have HST4 := hide hst4
  have HST5 := hide hst5
  have HLD4 := hide (load_tb w.heap.size t s W4 hp4.bt)
  clear hp3 hst4 t4 f4 s4 hp4 o4 hst5 b5 hB5 f5 ho3 hl3 hn3 hb3 HC d3
  go_wp2_with (first | refine wpList_store _ rfl rfl 22 (.tmp 6) (.tmp 5) rfl (.pointer (some ⟨w.heap.size, 3, none⟩)) (.slice s.a s.len s.cap) rfl rfl W4 HST4.out ?_ | refine wpList_load _ rfl 24 (.tmp 1) rfl (.pointer (some ⟨w.heap.size, 0, none⟩)) (t.val s) rfl HLD4.out ?_ | refine wpList_store _ rfl rfl 24 (.tmp 2) (.tmp 7) rfl (.pointer (some ⟨w.heap.size + 1, 0, none⟩)) (t.val s) rfl rfl W5 HST5.out ?_)
  refine bodyPost_ret (tb_results1 rfl HK5.out _ rfl) rfl ?_
  exact ⟨_, rfl, HO5.out, HN5.out, HB5.out⟩

/-! ### One cell of an entry -/
theorem cellsE_set1 : ∀ (l : List En) (i : Nat) (z : Int), i < l.length → cellsE (l.set i { l.getD i En.zero with st := z }) = (cellsE l).set (i * 4 + 1) (.int .i64 z)
  | [], _, _, h => absurd h (Nat.not_lt_zero _)
  | y :: r, 0, z, _ => rfl
  | y :: r, i + 1, z, h => by
    have ih := cellsE_set1 r i z (by simpa using h)
    show y.cells ++ cellsE (r.set i { r.getD i En.zero with st := z }) = (y.cells ++ cellsE r).set ((i + 1) * 4 + 1) _
    rw [ih, show (i + 1) * 4 + 1 = i * 4 + 1 + 4 by omega]
    rfl
theorem cellsE_set2 : ∀ (l : List En) (i : Nat) (z : Int), i < l.length → cellsE (l.set i { l.getD i En.zero with last := z }) = (cellsE l).set (i * 4 + 2) (.int .i64 z)
  | [], _, _, h => absurd h (Nat.not_lt_zero _)
  | y :: r, 0, z, _ => rfl
  | y :: r, i + 1, z, h => by
    have ih := cellsE_set2 r i z (by simpa using h)
    show y.cells ++ cellsE (r.set i { r.getD i En.zero with last := z }) = (y.cells ++ cellsE r).set ((i + 1) * 4 + 2) _
    rw [ih, show (i + 1) * 4 + 2 = i * 4 + 2 + 4 by omega]
    rfl
theorem cellsE_set3 : ∀ (l : List En) (i : Nat) (z : Int), i < l.length → cellsE (l.set i { l.getD i En.zero with com := z }) = (cellsE l).set (i * 4 + 3) (.int .i64 z)
  | [], _, _, h => absurd h (Nat.not_lt_zero _)
  | y :: r, 0, z, _ => rfl
  | y :: r, i + 1, z, h => by
    have ih := cellsE_set3 r i z (by simpa using h)
    show y.cells ++ cellsE (r.set i { r.getD i En.zero with com := z }) = (y.cells ++ cellsE r).set ((i + 1) * 4 + 3) _
    rw [ih, show (i + 1) * 4 + 3 = i * 4 + 3 + 4 by omega]
    rfl
theorem OwnE.set1 {w : World} {v : Sl} {l : List En} (h : OwnE w v l) {g off : Nat} (ha : v.a = some ⟨g, off, none⟩) (i : Nat) (hi : i < l.length) (z : Int) :
    ∃ W, (Instr.storeAt 3 (.pointer (some ⟨g, off + i * 4 + 1, none⟩)) (.int .i64 z)).run Try.prog w = .ok () W ∧ OwnE W v (l.set i { l.getD i En.zero with st := z }) ∧ Frm (fun k => k = g) w W ∧ W.heap.size = w.heap.size := by
  have c := (h.enAt ha i hi).c1
  have f0 : w.frozen? ⟨g, off + i * 4 + 1, none⟩ = false := by
    obtain ⟨cur, hc⟩ := Own.kind h (k := g) (by rw [Sl.blk, ha]; rfl)
    exact frozen_of_row w g _ cur 58 hc
  refine ⟨w.setCell ⟨g, off + i * 4 + 1, none⟩ (.int .i64 z), by simp [go_sem, Instr.storeAt, stored, c, f0], ?_, (Frm.refl (fun k => k = g) w).setCell (p := ⟨g, off + i * 4 + 1, none⟩) rfl _, setCell_size _ _ _⟩
  unfold OwnE
  rw [cellsE_set1 l i z hi]
  have := Own.setC4 h ha (i * 4 + 1) (.int .i64 z)
  rw [← Nat.add_assoc] at this
  exact this
theorem OwnE.set2 {w : World} {v : Sl} {l : List En} (h : OwnE w v l) {g off : Nat} (ha : v.a = some ⟨g, off, none⟩) (i : Nat) (hi : i < l.length) (z : Int) :
    ∃ W, (Instr.storeAt 3 (.pointer (some ⟨g, off + i * 4 + 2, none⟩)) (.int .i64 z)).run Try.prog w = .ok () W ∧ OwnE W v (l.set i { l.getD i En.zero with last := z }) ∧ Frm (fun k => k = g) w W ∧ W.heap.size = w.heap.size := by
  have c := (h.enAt ha i hi).c2
  have f0 : w.frozen? ⟨g, off + i * 4 + 2, none⟩ = false := by
    obtain ⟨cur, hc⟩ := Own.kind h (k := g) (by rw [Sl.blk, ha]; rfl)
    exact frozen_of_row w g _ cur 58 hc
  refine ⟨w.setCell ⟨g, off + i * 4 + 2, none⟩ (.int .i64 z), by simp [go_sem, Instr.storeAt, stored, c, f0], ?_, (Frm.refl (fun k => k = g) w).setCell (p := ⟨g, off + i * 4 + 2, none⟩) rfl _, setCell_size _ _ _⟩
  unfold OwnE
  rw [cellsE_set2 l i z hi]
  have := Own.setC4 h ha (i * 4 + 2) (.int .i64 z)
  rw [← Nat.add_assoc] at this
  exact this
theorem OwnE.set3 {w : World} {v : Sl} {l : List En} (h : OwnE w v l) {g off : Nat} (ha : v.a = some ⟨g, off, none⟩) (i : Nat) (hi : i < l.length) (z : Int) :
    ∃ W, (Instr.storeAt 3 (.pointer (some ⟨g, off + i * 4 + 3, none⟩)) (.int .i64 z)).run Try.prog w = .ok () W ∧ OwnE W v (l.set i { l.getD i En.zero with com := z }) ∧ Frm (fun k => k = g) w W ∧ W.heap.size = w.heap.size := by
  have c := (h.enAt ha i hi).c3
  have f0 : w.frozen? ⟨g, off + i * 4 + 3, none⟩ = false := by
    obtain ⟨cur, hc⟩ := Own.kind h (k := g) (by rw [Sl.blk, ha]; rfl)
    exact frozen_of_row w g _ cur 58 hc
  refine ⟨w.setCell ⟨g, off + i * 4 + 3, none⟩ (.int .i64 z), by simp [go_sem, Instr.storeAt, stored, c, f0], ?_, (Frm.refl (fun k => k = g) w).setCell (p := ⟨g, off + i * 4 + 3, none⟩) rfl _, setCell_size _ _ _⟩
  unfold OwnE
  rw [cellsE_set3 l i z hi]
  have := Own.setC4 h ha (i * 4 + 3) (.int .i64 z)
  rw [← Nat.add_assoc] at this
  exact this

/-! ### A copy in its box -/
structure Cpy (w W : World) (p : Nat) (t : Tb) (v : Sl) (u : Tb) (s : Sl) : Prop where
  pr : Pair w W t v
  bc : TbBlk W p u s
  hp : w.heap.size + 2 ≤ p
  oc : OwnE W s u.es
  nw : ∀ k, s.blk = some k → w.heap.size + 2 ≤ k ∧ k ≠ p
theorem Cpy.keep {w W W' : World} {p : Nat} {t u : Tb} {v s : Sl} (h : Cpy w W p t v u s) (hb : Below W.heap.size W W') : Cpy w W' p t v u s := ⟨h.pr.keep hb, h.bc.keep hb, h.hp, h.oc.keep hb, h.nw⟩
/-- What copyOf told is laid into a box of its own. -/
theorem Cpy.start {w w3 w4 : World} {t : Tb} {v s : Sl} (hp : Pair w w3 t v) (ho : OwnE w4 s t.es) (hn : ∀ k, s.blk = some k → w3.heap.size ≤ k) (hb : Below w3.heap.size w3 w4) :
    ∃ W, (Instr.storeAt 24 (.pointer (some ⟨w4.heap.size, 0, none⟩)) (t.val s)).run Try.prog (w4.alloc (.cells #[.int .i64 0, .int .i64 0, .int .i64 0, .slice none 0 0] 24)) = .ok () W ∧ Cpy w W w4.heap.size t v t s := by
  obtain ⟨W, h1, h2, h3, h4⟩ := boxT w4 t s
  have hsz := hp.size
  have hs2 := hb.size
  exact ⟨W, h1, (hp.keep hb).keep h3, h2, by omega, ho.keep h3, fun k hk => ⟨by have := hn k hk; omega, by have := Own.lt ho hk; omega⟩⟩
theorem Cpy.lay {w W : World} {p : Nat} {t u : Tb} {v s : Sl} (h : Cpy w W p t v u s) : ∃ W', (Instr.storeAt 24 (.pointer (some ⟨w.heap.size + 1, 0, none⟩)) (u.val s)).run Try.prog W = .ok () W' ∧ TbBlk W' (w.heap.size + 1) u s ∧ OwnE W' s u.es ∧ Below w.heap.size w W' := by
  obtain ⟨W', h1, h2, h3, h4⟩ := h.pr.told u s
  exact ⟨W', h1, h2, h.oc.other h4 (fun k hk => by have := (h.nw k hk).1; omega), h3⟩
theorem Cpy.turn {w W W' : World} {p g : Nat} {t u u' : Tb} {v s : Sl} (h : Cpy w W p t v u s) (hg : s.blk = some g) (ho : OwnE W' s u'.es) (hf : Frm (fun k => k = g) W W') (he : ∀ x, TbBlk W p u x → TbBlk W p u' x) : Cpy w W' p t v u' s := by
  have := h.nw g hg
  have hb := h.pr.below
  exact ⟨⟨hb.trans (hf.below hb.size (fun k hk => by omega)), h.pr.bt.other hf (by omega), h.pr.br.other hf (by omega)⟩, (he _ h.bc).other hf (fun e => this.2 e.symm), h.hp, ho, h.nw⟩
theorem Cpy.box {w W W' : World} {p : Nat} {t u u' : Tb} {v s : Sl} (h : Cpy w W p t v u s) (hb : TbBlk W' p u' s) (hf : Frm (fun k => k = p) W W') (he : u'.es = u.es) : Cpy w W' p t v u' s := by
  have hp := h.hp
  have hbl := h.pr.below
  exact ⟨⟨hbl.trans (hf.below hbl.size (fun k hk => by omega)), h.pr.bt.other hf (by omega), h.pr.br.other hf (by omega)⟩, hb, hp, by rw [he]; exact h.oc.other hf (fun k hk => (h.nw k hk).2), h.nw⟩
theorem Cpy.at {w W : World} {p : Nat} {t u : Tb} {v s : Sl} (h : Cpy w W p t v u s) (hl : u.es.length = 12) : ∃ g off c, s = ⟨some ⟨g, off, none⟩, 12, c⟩ := by
  have hn := h.oc.len
  rw [hl] at hn
  obtain ⟨a, n, c⟩ := s
  replace hn : 12 = n := hn
  subst hn
  rcases h.oc.2 with ⟨e, _⟩ | ⟨g, off, cur, ha, _⟩
  · exact absurd (congrArg Sl.len e) (by show ¬ (12 : Nat) = 0; decide)
  · replace ha : a = some ⟨g, off, none⟩ := ha
    subst ha
    exact ⟨g, off, c, rfl⟩
theorem Cpy.setEn {w W : World} {p g off c i : Nat} {t u : Tb} {v : Sl} (h : Cpy w W p t v u ⟨some ⟨g, off, none⟩, 12, c⟩) (hi : i < u.es.length) (x : En) : ∃ W', (Instr.storeAt 58 (.pointer (some ⟨g, off + i * 4, none⟩)) x.val).run Try.prog W = .ok () W' ∧ Cpy w W' p t v (u.set i x) ⟨some ⟨g, off, none⟩, 12, c⟩ := by
  obtain ⟨W', h1, h2, h3, h4⟩ := h.oc.set rfl i hi x
  exact ⟨W', h1, h.turn rfl h2 h3 (fun _ k => k)⟩
theorem Cpy.set1 {w W : World} {p g off c i : Nat} {t u : Tb} {v : Sl} (h : Cpy w W p t v u ⟨some ⟨g, off, none⟩, 12, c⟩) (hi : i < u.es.length) (z : Int) : ∃ W', (Instr.storeAt 3 (.pointer (some ⟨g, off + i * 4 + 1, none⟩)) (.int .i64 z)).run Try.prog W = .ok () W' ∧ Cpy w W' p t v (u.set i { u.en i with st := z }) ⟨some ⟨g, off, none⟩, 12, c⟩ := by
  obtain ⟨W', h1, h2, h3, h4⟩ := h.oc.set1 rfl i hi z
  exact ⟨W', h1, h.turn rfl h2 h3 (fun _ k => k)⟩
theorem Cpy.set2 {w W : World} {p g off c i : Nat} {t u : Tb} {v : Sl} (h : Cpy w W p t v u ⟨some ⟨g, off, none⟩, 12, c⟩) (hi : i < u.es.length) (z : Int) : ∃ W', (Instr.storeAt 3 (.pointer (some ⟨g, off + i * 4 + 2, none⟩)) (.int .i64 z)).run Try.prog W = .ok () W' ∧ Cpy w W' p t v (u.set i { u.en i with last := z }) ⟨some ⟨g, off, none⟩, 12, c⟩ := by
  obtain ⟨W', h1, h2, h3, h4⟩ := h.oc.set2 rfl i hi z
  exact ⟨W', h1, h.turn rfl h2 h3 (fun _ k => k)⟩
theorem Cpy.set3 {w W : World} {p g off c i : Nat} {t u : Tb} {v : Sl} (h : Cpy w W p t v u ⟨some ⟨g, off, none⟩, 12, c⟩) (hi : i < u.es.length) (z : Int) : ∃ W', (Instr.storeAt 3 (.pointer (some ⟨g, off + i * 4 + 3, none⟩)) (.int .i64 z)).run Try.prog W = .ok () W' ∧ Cpy w W' p t v (u.set i { u.en i with com := z }) ⟨some ⟨g, off, none⟩, 12, c⟩ := by
  obtain ⟨W', h1, h2, h3, h4⟩ := h.oc.set3 rfl i hi z
  exact ⟨W', h1, h.turn rfl h2 h3 (fun _ k => k)⟩
theorem Cpy.st0 {w W : World} {p : Nat} {t u : Tb} {v s : Sl} (h : Cpy w W p t v u s) (z : Int) : ∃ W', (Instr.storeAt 3 (.pointer (some ⟨p, 0, none⟩)) (.int .i64 z)).run Try.prog W = .ok () W' ∧ Cpy w W' p t v { u with nx := z } s := by
  obtain ⟨W', h1, h2, h3, h4⟩ := h.bc.st0 z
  exact ⟨W', h1, h.box h2 h3 rfl⟩
theorem Cpy.st1 {w W : World} {p : Nat} {t u : Tb} {v s : Sl} (h : Cpy w W p t v u s) (z : Int) : ∃ W', (Instr.storeAt 3 (.pointer (some ⟨p, 1, none⟩)) (.int .i64 z)).run Try.prog W = .ok () W' ∧ Cpy w W' p t v { u with no := z } s := by
  obtain ⟨W', h1, h2, h3, h4⟩ := h.bc.st1 z
  exact ⟨W', h1, h.box h2 h3 rfl⟩
theorem Cpy.st2 {w W : World} {p : Nat} {t u : Tb} {v s : Sl} (h : Cpy w W p t v u s) (z : Int) : ∃ W', (Instr.storeAt 3 (.pointer (some ⟨p, 2, none⟩)) (.int .i64 z)).run Try.prog W = .ok () W' ∧ Cpy w W' p t v { u with cm := z } s := by
  obtain ⟨W', h1, h2, h3, h4⟩ := h.bc.st2 z
  exact ⟨W', h1, h.box h2 h3 rfl⟩

/-! ### counter -/
def countT (t : Tb) (tx c : Int) : Int × Int :=
  match findN t tx with
  | none => (-1, 3)
  | some i => if (t.en i).st ≠ 1 ∨ c = 2147483647 then (-1, 2) else (((i : Nat) : Int), 0)
set_option maxHeartbeats 8000000 in
set_option maxRecDepth 100000 in
theorem countT_any (t : Tb) (v : Sl) (tx c : Int) (w : World) (h : Es w v t.es) :
    Calls Try.prog 52 #[t.val v, .int .i64 tx, .int .i64 c] w fun e w' => e = .returned (.tuple #[.int .i64 (countT t tx c).1, .int .i64 (countT t tx c).2]) ∧ Below w.heap.size w w' := by
  have hA := below_box w t v
  have HA := hide hA
  have hl : t.es.length = v.len := h.len
  have HT := hide (TbBlk.new w t v)
  have HLD := hide (load_tb w.heap.size t v _ HT.out)
  have HE := hide (h.keep hA (Nat.le_refl _))
  have HF := hide (entryOfT_any t v tx _ HE.out)
  have hbig := h.big
  clear h hA
  obtain ⟨va, vl, vc⟩ := v
  simp only at hl hbig
  unfold countT
  cases hf : findN t tx with
  | none =>
    rw [hf] at HF
    unfold ixN at HF
    simp only at HF
    clear hf hl
    unfold Tb.val
    go_enter Try.func52, Try.ntmps52
    go_wp2_with (refine wpList_load _ rfl 24 (.tmp 3) rfl (.pointer (some ⟨w.heap.size, 0, none⟩)) (t.val ⟨va, vl, vc⟩) rfl HLD.out ?_)
    refine HF.out.mono ?_
    rintro e w1 ⟨rfl, hb1⟩
    have HB1 := hide (rBelow HA.out hb1)
    clear hb1
    go_wp2_with fail
    go_ret2
    exact ⟨rfl, HB1.out⟩
  | some i =>
    rw [hf] at HF
    unfold ixN at HF
    simp only at HF ⊢
    have hi := (find_some hf).1
    have hiv : i < vl := by rw [← hl]; exact hi
    obtain ⟨x, hx⟩ : ∃ x, x = t.en i := ⟨_, rfl⟩
    rw [← hx]
    have HX := hide hx
    have HAT : Hid (∀ w1, Below (w.alloc (.cells #[.int .i64 t.nx, .int .i64 t.no, .int .i64 t.cm, .slice va vl vc] 24)).heap.size (w.alloc (.cells #[.int .i64 t.nx, .int .i64 t.no, .int .i64 t.cm, .slice va vl vc] 24)) w1 → ∃ b off, va = some ⟨b, off, none⟩ ∧ EnAt w1 b (off + i * 4) x) := fun w1 hb1 => by
      obtain ⟨b, off, ha, hat⟩ := (HE.out.keep hb1 (Nat.le_refl _)).at' i hiv
      exact ⟨b, off, ha, by rw [HX.out]; exact hat⟩
    have i1 : ((i : Nat) : Int) < ((vl : Nat) : Int) := by omega
    have j1 : ¬ ((i : Nat) : Int) = -1 := by omega
    have j2 : (((i : Nat) : Int) == -1) = false := beq_eq_false_iff_ne.2 j1
    clear hf hl hi hx HX
    by_cases hst : x.st = 1
    · have q1 : (x.st != 1) = false := by simp [hst]
      by_cases hc : c = 2147483647
      · rw [if_pos (.inr hc)]
        have q2 : (c == 2147483647) = true := by simp [hc]
        clear hst hc
        unfold Tb.val
        go_enter Try.func52, Try.ntmps52
        go_wp2_with (refine wpList_load _ rfl 24 (.tmp 3) rfl (.pointer (some ⟨w.heap.size, 0, none⟩)) (t.val ⟨va, vl, vc⟩) rfl HLD.out ?_)
        refine HF.out.mono ?_
        rintro e w1 ⟨rfl, hb1⟩
        have HB1 := hide (rBelow HA.out hb1)
        obtain ⟨b, off, ha, hat⟩ := HAT.out w1 hb1
        subst ha
        have d3 := (HT.out.keep hb1).c3
        have c1 := hat.c1
        clear hb1 hat HLD HF HAT
        go_wp2_with fail
        go_ret2
        exact ⟨rfl, HB1.out⟩
      · rw [if_neg (fun k => k.elim (fun k => k hst) hc)]
        have q2 : (c == 2147483647) = false := by simp [hc]
        clear hst hc
        unfold Tb.val
        go_enter Try.func52, Try.ntmps52
        go_wp2_with (refine wpList_load _ rfl 24 (.tmp 3) rfl (.pointer (some ⟨w.heap.size, 0, none⟩)) (t.val ⟨va, vl, vc⟩) rfl HLD.out ?_)
        refine HF.out.mono ?_
        rintro e w1 ⟨rfl, hb1⟩
        have HB1 := hide (rBelow HA.out hb1)
        obtain ⟨b, off, ha, hat⟩ := HAT.out w1 hb1
        subst ha
        have d3 := (HT.out.keep hb1).c3
        have c1 := hat.c1
        clear hb1 hat HLD HF HAT
        go_wp2_with fail
        go_ret2
        exact ⟨rfl, HB1.out⟩
    · rw [if_pos (.inl hst)]
      have q1 : (x.st != 1) = true := by simp [hst]
      clear hst
      unfold Tb.val
      go_enter Try.func52, Try.ntmps52
      go_wp2_with (refine wpList_load _ rfl 24 (.tmp 3) rfl (.pointer (some ⟨w.heap.size, 0, none⟩)) (t.val ⟨va, vl, vc⟩) rfl HLD.out ?_)
      refine HF.out.mono ?_
      rintro e w1 ⟨rfl, hb1⟩
      have HB1 := hide (rBelow HA.out hb1)
      obtain ⟨b, off, ha, hat⟩ := HAT.out w1 hb1
      subst ha
      have d3 := (HT.out.keep hb1).c3
      have c1 := hat.c1
      clear hb1 hat HLD HF HAT
      go_wp2_with fail
      go_ret2
      exact ⟨rfl, HB1.out⟩

end Go.Proofs.Ytdbgbldmjgonjaa
