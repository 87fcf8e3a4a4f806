/-
  The document's First, set, Enter, Write, Commit and Leave of tables.
-/
import Derived.Test.YtdbgbldmjgonjaaTbE
namespace Go.Proofs.Ytdbgbldmjgonjaa
open Go.RowKit

theorem tb_results1 {fn : Func} {x : Nat} (hr : fn.results = #[.cell x 24]) {W : World} {g : Nat} {t : Tb} {v : Sl} (h : TbBlk W g t v) (tmps : Array Value) (ht : tmps.getD x undef = .pointer (some ⟨g, 0, none⟩)) : (results fn tmps).run Try.prog W = .ok (t.val v) W := by
  have c0 := h.c0
  have c1 := h.c1
  have c2 := h.c2
  have c3 := h.c3
  rw [Array.getD_eq_getD_getElem?] at ht
  unfold results
  rw [hr]
  simp [go_sem, ht, c0, c1, c2, c3, Tb.val]

theorem tb_results2 {fn : Func} {x : Nat} {y : Nat} (hr : fn.results = #[.cell x 24, .tmp y]) {W : World} {g : Nat} {t : Tb} {v : Sl} (h : TbBlk W g t v) (tmps : Array Value) (vy : Value) (hy : tmps.getD y undef = vy) (ht : tmps.getD x undef = .pointer (some ⟨g, 0, none⟩)) : (results fn tmps).run Try.prog W = .ok (.tuple #[t.val v, vy]) W := by
  have c0 := h.c0
  have c1 := h.c1
  have c2 := h.c2
  have c3 := h.c3
  rw [Array.getD_eq_getD_getElem?] at ht hy
  unfold results
  rw [hr]
  simp [go_sem, ht, hy, c0, c1, c2, c3, Tb.val]

theorem tb_results3 {fn : Func} {x : Nat} {y : Nat} {z : Nat} (hr : fn.results = #[.cell x 24, .tmp y, .tmp z]) {W : World} {g : Nat} {t : Tb} {v : Sl} (h : TbBlk W g t v) (tmps : Array Value) (vy : Value) (hy : tmps.getD y undef = vy) (vz : Value) (hz : tmps.getD z undef = vz) (ht : tmps.getD x undef = .pointer (some ⟨g, 0, none⟩)) : (results fn tmps).run Try.prog W = .ok (.tuple #[t.val v, vy, vz]) W := by
  have c0 := h.c0
  have c1 := h.c1
  have c2 := h.c2
  have c3 := h.c3
  rw [Array.getD_eq_getD_getElem?] at ht hy hz
  unfold results
  rw [hr]
  simp [go_sem, ht, hy, hz, c0, c1, c2, c3, Tb.val]

theorem made_twelve : madeCells (Value.agg #[.int .i64 0, .int .i64 0, .int .i64 0, .int .i64 0]).cells (12 * 4) = (cellsE (List.replicate 12 En.zero)).toArray := by kernel_rfl

/-- make([]api.Entry, 12). -/
theorem make_twelve (w : World) : (Instr.makeSlice 22 (.int .i64 12) (.int .i64 12)).run Try.prog w = .ok (.slice (some ⟨w.heap.size, 0, none⟩) 12 12) (w.alloc (.cells (cellsE (List.replicate 12 En.zero)).toArray 58)) := by
  obtain ⟨i0, hi, hz0, hz1, hz2⟩ := info_parts infoEn
  have h := run_makeSlice (P := Try.prog) w 22 58 i0 (.agg #[.int .i64 0, .int .i64 0, .int .i64 0, .int .i64 0]) Try.underlying22 hi hz0 .i64 .i64 12 12 (by omega) (by omega) (by rw [hz1]; decide) (by rw [hz2]; decide) (by omega)
  rw [hz1, show (12 : Int).toNat = 12 from rfl, made_twelve] at h
  exact h

theorem own_twelve (w : World) : OwnE (w.alloc (.cells (cellsE (List.replicate 12 En.zero)).toArray 58)) ⟨some ⟨w.heap.size, 0, none⟩, 12, 12⟩ (List.replicate 12 En.zero) :=
  ⟨rfl, .inr ⟨w.heap.size, 0, _, rfl, heap_alloc_new w _, (by show 0 + 12 * 4 ≤ (cellsE (List.replicate 12 En.zero)).toArray.size; decide), Nat.le_refl _, (by show (12 : Nat) ≤ maxLen; unfold maxLen; decide), rfl⟩⟩

section
variable {ops : Array Oper} {rest : List Oper} {o : Oper} {a : Act} {Q : Exit → Act → World → Prop}
theorem wpList_makeT (w : World) (hgd : o.guard = none) (t : TypeId) (x y : Operand) (ho : o.op = .makeSlice t x y) (u u' v : Value) (hu : a.eval x = u) (hu' : a.eval y = u') (w' : World) (hrun : (Instr.makeSlice t u u').run Try.prog w = .ok v w') (hK : wpList Try.prog ops Q rest (a.put o.dst v) w') : wpList Try.prog ops Q (o :: rest) a w := by
  refine wpList_val w hgd v w' ?_ hK
  have e : execOp a.eval o = (do pure (.value (← Instr.makeSlice t (a.eval x) (a.eval y)))) := by
    unfold execOp
    rw [ho]
  rw [e, hu, hu']
  simp [hrun]
theorem wpList_appendT (w : World) (hgd : o.guard = none) (S : TypeId) (s y : Operand) (ho : o.op = .call { callee := .builtin .append, args := #[s, y], argTypes := #[S, S] }) (x1 x2 v : Value) (hs : a.eval s = x1) (hy : a.eval y = x2) (w' : World) (hrun : ∀ ty, (Builtin.append_ #[S, S] ty #[x1, x2]).run Try.prog w = .ok v w') (hK : wpList Try.prog ops Q rest (a.put o.dst v) w') : wpList Try.prog ops Q (o :: rest) a w := by
  refine wpList_plain hgd fun K hK' => ?_
  unfold Oper.wp
  simp [execOp, ho, resolve, invoke, builtin, hs, hy, hrun, Result.andThen]
  exact hK' _ _ hK
end

/-- What is told of a table: it, and its entries. -/
def TbTold (t : Tb) (w : World) (mk : Value → Value) (e : Ending) (w' : World) : Prop := ∃ s : Sl, e = .returned (mk (t.val s)) ∧ Es w' s t.es ∧ Below w.heap.size w w'
/-- The same, of entries that are new. -/
def TbOwn (t : Tb) (w : World) (mk : Value → Value) (e : Ending) (w' : World) : Prop := ∃ s : Sl, e = .returned (mk (t.val s)) ∧ OwnE w' s t.es ∧ (∀ k, s.blk = some k → w.heap.size ≤ k) ∧ Below w.heap.size w w'
theorem TbOwn.told {t : Tb} {w : World} {mk : Value → Value} {e : Ending} {w' : World} (h : TbOwn t w mk e w') : TbTold t w mk e w' := by
  obtain ⟨s, h1, h2, _, h3⟩ := h
  exact ⟨s, h1, h2.es, h3⟩

set_option maxHeartbeats 4000000 in
set_option maxRecDepth 100000 in
theorem rfirstT_any (w : World) : Calls Try.prog 20 #[] w (TbOwn firstT w id) := by
  have hz := TbBlk.new w Tb.zero Sl.nil
  have s1 : (w.alloc (.cells #[.int .i64 0, .int .i64 0, .int .i64 0, .slice none 0 0] 24)).heap.size = w.heap.size + 1 := by simp
  have hb1 := below_alloc w (.cells #[.int .i64 0, .int .i64 0, .int .i64 0, .slice none 0 0] 24)
  have hz' : TbBlk (w.alloc (.cells #[.int .i64 0, .int .i64 0, .int .i64 0, .slice none 0 0] 24)) w.heap.size Tb.zero Sl.nil := hz
  have hmk := make_twelve (w.alloc (.cells #[.int .i64 0, .int .i64 0, .int .i64 0, .slice none 0 0] 24))
  have ho := own_twelve (w.alloc (.cells #[.int .i64 0, .int .i64 0, .int .i64 0, .slice none 0 0] 24))
  have hb2 := below_alloc (w.alloc (.cells #[.int .i64 0, .int .i64 0, .int .i64 0, .slice none 0 0] 24)) (.cells (cellsE (List.replicate 12 En.zero)).toArray 58)
  rw [s1] at hmk ho
  generalize (w.alloc (.cells #[.int .i64 0, .int .i64 0, .int .i64 0, .slice none 0 0] 24)).alloc (.cells (cellsE (List.replicate 12 En.zero)).toArray 58) = W2 at *
  obtain ⟨W3, hst, hbk, hfr, hsz⟩ := (hz'.keep hb2).store firstT ⟨some ⟨w.heap.size + 1, 0, none⟩, 12, 12⟩
  have HO : Hid (OwnE W3 ⟨some ⟨w.heap.size + 1, 0, none⟩, 12, 12⟩ firstT.es) := ho.other hfr (fun k hk => by have e : some (w.heap.size + 1) = some k := hk; cases e; omega)
  have HN : Hid (∀ k, (⟨some ⟨w.heap.size + 1, 0, none⟩, 12, 12⟩ : Sl).blk = some k → w.heap.size ≤ k) := fun k hk => by have e : some (w.heap.size + 1) = some k := hk; cases e; omega
  have HB : Hid (Below w.heap.size w W3) := (rBelow hb1 hb2).trans (hfr.below (rBelow hb1 hb2).size (fun k hk => by omega))
  have HMK := hide hmk
  have HST : Hid ((Instr.storeAt 24 (.pointer (some ⟨w.heap.size, 0, none⟩)) (.agg #[.int .i64 1, .int .i64 1, .int .i64 0, .slice (some ⟨w.heap.size + 1, 0, none⟩) 12 12])).run Try.prog W2 = .ok () W3) := hst
  have HBK := hide hbk
  clear hz hz' s1 hb1 hb2 hmk ho hst hbk hfr hsz
  go_enter Try.func20, Try.ntmps20
  go_wp2_with (first | refine wpList_makeT _ rfl 22 (.const (.int .i64 12)) (.const (.int .i64 12)) rfl (.int .i64 12) (.int .i64 12) (.slice (some ⟨w.heap.size + 1, 0, none⟩) 12 12) rfl rfl W2 HMK.out ?_ | refine wpList_store _ rfl rfl 24 (.tmp 0) (.tmp 2) rfl (.pointer (some ⟨w.heap.size, 0, none⟩)) (.agg #[.int .i64 1, .int .i64 1, .int .i64 0, .slice (some ⟨w.heap.size + 1, 0, none⟩) 12 12]) rfl rfl W3 HST.out ?_)
  refine bodyPost_ret (tb_results1 rfl HBK.out _ rfl) rfl ?_
  exact ⟨_, rfl, HO.out, HN.out, HB.out⟩

set_option maxHeartbeats 4000000 in
set_option maxRecDepth 100000 in
theorem rsetT_any (t : Tb) (v : Sl) (i : Nat) (x : En) (w : World) (h : Es w v t.es) (hi : i < v.len) (hm : v.len ≤ 100000) :
    Calls Try.prog 53 #[t.val v, .int .i64 (i : Nat), x.val] w (TbOwn (t.set i x) w id) := by
  have hl := h.len
  -- the three boxes
  obtain ⟨W1, hW1⟩ : ∃ W1, W1 = w.alloc (.cells #[.int .i64 t.nx, .int .i64 t.no, .int .i64 t.cm, .slice v.a v.len v.cap] 24) := ⟨_, rfl⟩
  obtain ⟨W2, hW2⟩ : ∃ W2, W2 = W1.alloc (.cells #[.int .i64 x.tx, .int .i64 x.st, .int .i64 x.last, .int .i64 x.com] 58) := ⟨_, rfl⟩
  obtain ⟨W3, hW3⟩ : ∃ W3, W3 = W2.alloc (.cells #[.int .i64 0, .int .i64 0, .int .i64 0, .slice none 0 0] 24) := ⟨_, rfl⟩
  obtain ⟨W4, hW4⟩ : ∃ W4, W4 = W3.alloc (.cells #[] 58) := ⟨_, rfl⟩
  have s1 : W1.heap.size = w.heap.size + 1 := by rw [hW1]; simp
  have s2 : W2.heap.size = w.heap.size + 2 := by rw [hW2]; simp [s1]
  have s3 : W3.heap.size = w.heap.size + 3 := by rw [hW3]; simp [s2]
  have B1 : Below w.heap.size w W1 := by rw [hW1]; exact below_alloc _ _
  have B2 : Below W1.heap.size W1 W2 := by rw [hW2]; exact below_alloc _ _
  have B3 : Below W2.heap.size W2 W3 := by rw [hW3]; exact below_alloc _ _
  have B4 : Below W3.heap.size W3 W4 := by rw [hW4]; exact below_alloc _ _
  have k1 : TbBlk W1 w.heap.size t v := by rw [hW1]; exact TbBlk.new w t v
  have k2 : EnBlk W2 (w.heap.size + 1) x := by rw [hW2, ← s1]; exact EnBlk.new W1 x
  have k3 : TbBlk W3 (w.heap.size + 2) Tb.zero Sl.nil := by rw [hW3, ← s2]; exact TbBlk.new W2 Tb.zero Sl.nil
  have o4 : OwnE W4 ⟨some ⟨w.heap.size + 3, 0, none⟩, 0, 0⟩ [] := by rw [hW4, ← s3]; exact OwnE.new W3
  have BB4 := rBelow (rBelow (rBelow B1 B2) B3) B4
  have t4 := ((k1.keep B2).keep B3).keep B4
  have e4 := (k2.keep B3).keep B4
  have r4 := k3.keep B4
  have es4 := h.keep BB4 (Nat.le_refl _)
  obtain ⟨u, W5, happ, o5, hul, f5, hbk5⟩ := o4.app es4 (by show 0 + v.len ≤ _; omega)
  rw [List.nil_append] at o5
  have hs4 : W4.heap.size = w.heap.size + 4 := by rw [hW4]; simp [s3]
  have hublk : ∀ k, u.blk = some k → w.heap.size + 3 ≤ k := by
    intro k hk
    rcases hbk5 with e | ⟨e, _⟩
    · rw [e] at hk
      have e' : some (w.heap.size + 3) = some k := hk
      cases e'
      exact Nat.le_refl _
    · rw [e] at hk
      cases hk
      omega
  have nb : ∀ k, k < w.heap.size + 3 → ¬ ((⟨some ⟨w.heap.size + 3, 0, none⟩, 0, 0⟩ : Sl).blk = some k) := by
    intro k hk e
    have e' : some (w.heap.size + 3) = some k := e
    cases e'
    omega
  have t5 := t4.other f5 (nb _ (by omega))
  have e5 : EnBlk W5 (w.heap.size + 1) x := (f5.block _ e4.lt (nb _ (by omega))).trans e4
  have r5 := r4.other f5 (nb _ (by omega))
  obtain ⟨W6, hst6, t6, f6, s6⟩ := t5.st3 u t.es
  have o6 := o5.other f6 (fun k hk => by have := hublk k hk; omega)
  have e6 : EnBlk W6 (w.heap.size + 1) x := (f6.block _ e5.lt (by omega)).trans e5
  have r6 := r5.other f6 (by omega)
  have hul' : u.len = v.len := by rw [hul]; show 0 + v.len = v.len; omega
  obtain ⟨g, goff, hua⟩ : ∃ g goff, u.a = some ⟨g, goff, none⟩ := by
    rcases o6.2 with ⟨h0, _⟩ | ⟨g, off, cur, ha, _⟩
    · rw [h0] at hul'
      have e' : (0 : Nat) = v.len := hul'
      omega
    · exact ⟨g, off, ha⟩
  have hg3 : w.heap.size + 3 ≤ g := hublk g (by rw [Sl.blk, hua]; rfl)
  obtain ⟨W7, hst7, o7, f7, s7⟩ := o6.set hua i (by rw [hl]; exact hi) x
  have t7 := t6.other f7 (by omega)
  have r7 := r6.other f7 (by omega)
  have htset : ({ t with es := t.es } : Tb) = t := rfl
  obtain ⟨W8, hst8, r8, f8, s8⟩ := r7.store (t.set i x) u
  have o8 := o7.other f8 (fun k hk => by have := hublk k hk; omega)
  have HES : Hid (OwnE W8 u (t.set i x).es) := o8
  have HN : Hid (∀ k, u.blk = some k → w.heap.size ≤ k) := fun k hk => by have := hublk k hk; omega
  have hsz5 := f5.size
  have HB : Hid (Below w.heap.size w W8) := by
    have b5 : Below w.heap.size w W5 := BB4.trans (f5.below BB4.size (fun k hk => by have e' : some (w.heap.size + 3) = some k := hk; cases e'; omega))
    have b6 : Below w.heap.size w W6 := b5.trans (f6.below b5.size (fun k hk => by omega))
    have b7 : Below w.heap.size w W7 := b6.trans (f7.below b6.size (fun k hk => by omega))
    exact b7.trans (f8.below b7.size (fun k hk => by omega))
  have HT7 : Hid (TbBlk W7 w.heap.size t u) := t7
  obtain ⟨va, vl, vc⟩ := v
  obtain ⟨ua, ul, uc⟩ := u
  simp only at hua hul' hi hm
  subst hua
  subst hul'
  have t4c := t4.c3
  have t6c := t6.c3
  have e6c := e6.at
  rw [hW4, hW3, hW2, hW1] at happ
  have HAPP := hide happ
  have HST6 := hide hst6
  have HST7 := hide hst7
  have HST8 : Hid ((Instr.storeAt 24 (.pointer (some ⟨w.heap.size + 2, 0, none⟩)) (t.val ⟨some ⟨g, goff, none⟩, ul, uc⟩)).run Try.prog W7 = .ok () W8) := hst8
  have HLE := hide (load_en (w.heap.size + 1) 0 x W6 e6c)
  have HLT := hide (load_tb w.heap.size t _ W7 t7)
  have HR8 := hide r8
  have i1 : ((i : Nat) : Int) < ((ul : Nat) : Int) := by omega
  clear h hl B1 B2 B3 B4 k1 k2 k3 o4 BB4 t4 e4 r4 es4 happ o5 hul f5 hbk5 hs4 hublk nb t5 e5 r5 hst6 t6 f6 s6 o6 e6 r6 hst7 o7 f7 s7 t7 r7 htset hst8 r8 f8 s8 o8 hsz5 hg3 e6c HT7 hW1 hW2 hW3 hW4 s1 s2 s3 t4c
  unfold Tb.val En.val
  go_enter Try.func53, Try.ntmps53
  go_wp2_with (first | (at_builtin; refine wpList_appendT _ rfl 22 (.tmp 7) (.tmp 9) rfl (.slice (some ⟨w.heap.size + 3, 0, none⟩) 0 0) (.slice va ul vc) (.slice (some ⟨g, goff, none⟩) ul uc) rfl rfl W5 HAPP.out ?_) | refine wpList_store _ rfl rfl 22 (.tmp 11) (.tmp 10) rfl (.pointer (some ⟨w.heap.size, 3, none⟩)) (.slice (some ⟨g, goff, none⟩) ul uc) rfl rfl W6 HST6.out ?_ | refine wpList_load _ rfl 58 (.tmp 5) rfl (.pointer (some ⟨w.heap.size + 1, 0, none⟩)) x.val rfl HLE.out ?_ | refine wpList_store _ rfl rfl 58 (.tmp 16) (.tmp 15) rfl (.pointer (some ⟨g, goff + i * 4, none⟩)) x.val rfl rfl W7 HST7.out ?_ | refine wpList_load _ rfl 24 (.tmp 3) rfl (.pointer (some ⟨w.heap.size, 0, none⟩)) (t.val ⟨some ⟨g, goff, none⟩, ul, uc⟩) rfl HLT.out ?_ | refine wpList_store _ rfl rfl 24 (.tmp 6) (.tmp 17) rfl (.pointer (some ⟨w.heap.size + 2, 0, none⟩)) (t.val ⟨some ⟨g, goff, none⟩, ul, uc⟩) rfl rfl W8 HST8.out ?_)
  refine bodyPost_ret (tb_results1 rfl HR8.out _ rfl) rfl ?_
  exact ⟨_, rfl, HES.out, HN.out, HB.out⟩

end Go.Proofs.Ytdbgbldmjgonjaa
