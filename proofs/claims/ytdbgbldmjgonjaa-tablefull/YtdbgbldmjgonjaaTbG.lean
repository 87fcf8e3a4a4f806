/-
  The document's Enter, Write, Commit and Leave of tables.
-/
import Derived.Test.YtdbgbldmjgonjaaTbF
namespace Go.Proofs.Ytdbgbldmjgonjaa
open Go.RowKit
set_option linter.unusedVariables false

/-- Two boxes of tables: what came, and what is told. -/
structure Pair (w W : World) (t : Tb) (v : Sl) : Prop where
  below : Below w.heap.size w W
  bt : TbBlk W w.heap.size t v
  br : TbBlk W (w.heap.size + 1) Tb.zero Sl.nil

theorem Pair.new (w : World) (t : Tb) (v : Sl) : Pair w ((w.alloc (.cells #[.int .i64 t.nx, .int .i64 t.no, .int .i64 t.cm, .slice v.a v.len v.cap] 24)).alloc (.cells #[.int .i64 0, .int .i64 0, .int .i64 0, .slice none 0 0] 24)) t v := by
  have s1 : (w.alloc (.cells #[.int .i64 t.nx, .int .i64 t.no, .int .i64 t.cm, .slice v.a v.len v.cap] 24)).heap.size = w.heap.size + 1 := by simp
  refine ⟨rBelow (below_alloc _ _) (below_alloc _ _), (TbBlk.new w t v).keep (below_alloc _ _), ?_⟩
  have := TbBlk.new (w.alloc (.cells #[.int .i64 t.nx, .int .i64 t.no, .int .i64 t.cm, .slice v.a v.len v.cap] 24)) Tb.zero Sl.nil
  rw [s1] at this
  exact this
theorem Pair.keep {w W W' : World} {t : Tb} {v : Sl} (h : Pair w W t v) (hb : Below W.heap.size W W') : Pair w W' t v := ⟨rBelow h.below hb, h.bt.keep hb, h.br.keep hb⟩
theorem Pair.size {w W : World} {t : Tb} {v : Sl} (h : Pair w W t v) : w.heap.size + 2 ≤ W.heap.size := h.br.lt
/-- What came is told. -/
theorem Pair.same {w W : World} {t : Tb} {v : Sl} (h : Pair w W t v) : ∃ W', (Instr.storeAt 24 (.pointer (some ⟨w.heap.size + 1, 0, none⟩)) (t.val v)).run Try.prog W = .ok () W' ∧ TbBlk W' (w.heap.size + 1) t v ∧ Below w.heap.size w W' := by
  obtain ⟨W', hst, hb, hf, _⟩ := h.br.store t v
  exact ⟨W', hst, hb, h.below.trans (hf.below h.below.size (fun k hk => by omega))⟩
/-- The box of what came is laid anew. -/
theorem Pair.lay {w W : World} {t : Tb} {v : Sl} (h : Pair w W t v) (u : Tb) (s : Sl) : ∃ W', (Instr.storeAt 24 (.pointer (some ⟨w.heap.size, 0, none⟩)) (u.val s)).run Try.prog W = .ok () W' ∧ Pair w W' u s ∧ Frm (fun k => k = w.heap.size) W W' := by
  obtain ⟨W', hst, hb, hf, _⟩ := h.bt.store u s
  exact ⟨W', hst, ⟨h.below.trans (hf.below h.below.size (fun k hk => by omega)), hb, h.br.other hf (by omega)⟩, hf⟩
/-- What is new is told. -/
theorem Pair.told {w W : World} {t : Tb} {v : Sl} (h : Pair w W t v) (u : Tb) (s : Sl) : ∃ W', (Instr.storeAt 24 (.pointer (some ⟨w.heap.size + 1, 0, none⟩)) (u.val s)).run Try.prog W = .ok () W' ∧ TbBlk W' (w.heap.size + 1) u s ∧ Below w.heap.size w W' ∧ Frm (fun k => k = w.heap.size + 1) W W' := by
  obtain ⟨W', hst, hb, hf, _⟩ := h.br.store u s
  exact ⟨W', hst, hb, h.below.trans (hf.below h.below.size (fun k hk => by omega)), hf⟩


set_option maxHeartbeats 4000000 in
set_option maxRecDepth 100000 in
theorem rleaveT_any (t : Tb) (v : Sl) (tx : Int) (w : World) (h : Es w v t.es) (hm : v.len ≤ 100000) :
    Calls Try.prog 29 #[t.val v, .int .i64 tx] w (TbTold (leaveT t tx).1 w (fun x => .tuple #[x, .int .i64 (leaveT t tx).2])) := by
  have hl := h.len
  have HH := hide h
  have HP := hide (Pair.new w t v)
  have HBig := hide h.big
  generalize hW2 : (w.alloc (.cells #[.int .i64 t.nx, .int .i64 t.no, .int .i64 t.cm, .slice v.a v.len v.cap] 24)).alloc (.cells #[.int .i64 0, .int .i64 0, .int .i64 0, .slice none 0 0] 24) = W2 at *
  have HF := hide (rfindT_any t v tx W2 (h.keep HP.out.below (Nat.le_refl _)))
  have HLD := hide (load_tb w.heap.size t v W2 HP.out.bt)
  clear h
  cases hf : findN t tx with
  | none =>
    rw [hf] at HF
    have HR : Hid (leaveT t tx = (t, 3)) := by show _ = _; unfold leaveT; rw [hf]
    rw [HR.out]
    clear hf
    unfold Tb.val
    go_enter Try.func29, Try.ntmps29
    go_wp2_with (refine wpList_load _ rfl 24 (.tmp 2) rfl (.pointer (some ⟨w.heap.size, 0, none⟩)) (t.val v) rfl HLD.out ?_)
    refine HF.out.mono ?_
    rintro e w3 ⟨rfl, hb3⟩
    have hp3 := HP.out.keep hb3
    obtain ⟨W9, hst9, b9, hB9⟩ := hp3.same
    have HLD3 := hide (load_tb w.heap.size t v w3 hp3.bt)
    have HST9 := hide hst9
    have HB9 := hide b9
    have HW9 := hide hB9
    clear hst9 b9 hB9 hp3 hb3 HLD HF
    unfold ixN
    go_wp2_with (first | refine wpList_load _ rfl 24 (.tmp 2) rfl (.pointer (some ⟨w.heap.size, 0, none⟩)) (t.val v) rfl HLD3.out ?_ | refine wpList_store _ rfl rfl 24 (.tmp 4) (.tmp 12) rfl (.pointer (some ⟨w.heap.size + 1, 0, none⟩)) (t.val v) rfl rfl W9 HST9.out ?_)
    refine bodyPost_ret (tb_results2 rfl HB9.out _ (.int .i64 3) rfl rfl) rfl ?_
    exact ⟨v, rfl, HH.out.keep HW9.out (Nat.le_refl _), HW9.out⟩
  | some i =>
    rw [hf] at HF
    have hi := (find_some hf).1
    have HR : Hid (leaveT t tx = (t.set i En.zero, 0)) := by show _ = _; unfold leaveT; rw [hf]
    rw [HR.out]
    clear hf
    unfold Tb.val
    go_enter Try.func29, Try.ntmps29
    go_wp2_with (refine wpList_load _ rfl 24 (.tmp 2) rfl (.pointer (some ⟨w.heap.size, 0, none⟩)) (t.val v) rfl HLD.out ?_)
    refine HF.out.mono ?_
    rintro e w3 ⟨rfl, hb3⟩
    have hp3 := HP.out.keep hb3
    have HP3 := hide hp3
    have HLD3 := hide (load_tb w.heap.size t v w3 hp3.bt)
    have HS := hide (rsetT_any t v i En.zero w3 (HH.out.keep hp3.below (Nat.le_refl _)) (by rw [← hl]; exact hi) hm)
    clear hp3 hb3 HLD HF
    unfold ixN
    have j1 : ¬ ((i : Nat) : Int) < 0 := by omega
    go_wp2_with (refine wpList_load _ rfl 24 (.tmp 2) rfl (.pointer (some ⟨w.heap.size, 0, none⟩)) (t.val v) rfl HLD3.out ?_)
    refine HS.out.mono ?_
    rintro e w4 ⟨s, rfl, ho4, hn4, hb4⟩
    have hp4 := HP3.out.keep hb4
    obtain ⟨W9, hst9, b9, hB9, hf9⟩ := hp4.told (t.set i En.zero) s
    have HO9 : Hid (Es W9 s (t.set i En.zero).es) := (ho4.other hf9 (fun k hk => by have := hn4 k hk; have := HP3.out.size; omega)).es
    have HST9 := hide hst9
    have HB9 := hide b9
    have HW9 := hide hB9
    clear hst9 b9 hB9 hf9 hp4 ho4 hn4 hb4 HS
    unfold id
    go_wp2_with (refine wpList_store _ rfl rfl 24 (.tmp 4) (.tmp 16) rfl (.pointer (some ⟨w.heap.size + 1, 0, none⟩)) ((t.set i En.zero).val s) rfl rfl W9 HST9.out ?_)
    refine bodyPost_ret (tb_results2 rfl HB9.out _ (.int .i64 0) rfl rfl) rfl ?_
    exact ⟨s, rfl, HO9.out, HW9.out⟩


set_option maxHeartbeats 8000000 in
set_option maxRecDepth 100000 in
theorem rwriteT_any (t : Tb) (v : Sl) (tx c : Int) (w : World) (h : Es w v t.es) (hm : v.len ≤ 100000) (hno : 1 ≤ t.no ∧ t.no ≤ 2147483647) :
    Calls Try.prog 27 #[t.val v, .int .i64 tx, .int .i64 c] w (TbTold (writeT t tx c).1 w (fun x => .tuple #[x, .int .i64 (writeT t tx c).2])) := by
  have hl := h.len
  have HH := hide h
  have HP := hide (Pair.new w t v)
  have HBig := hide h.big
  generalize hW2 : (w.alloc (.cells #[.int .i64 t.nx, .int .i64 t.no, .int .i64 t.cm, .slice v.a v.len v.cap] 24)).alloc (.cells #[.int .i64 0, .int .i64 0, .int .i64 0, .slice none 0 0] 24) = W2 at *
  have HF := hide (rfindT_any t v tx W2 (h.keep HP.out.below (Nat.le_refl _)))
  have HLD := hide (load_tb w.heap.size t v W2 HP.out.bt)
  clear h
  cases hf : findN t tx with
  | none =>
    rw [hf] at HF
    have HR : Hid (writeT t tx c = (t, 3)) := by show _ = _; unfold writeT; rw [hf]
    rw [HR.out]
    clear hf
    unfold Tb.val
    go_enter Try.func27, Try.ntmps27
    go_wp2_with (refine wpList_load _ rfl 24 (.tmp 3) rfl (.pointer (some ⟨w.heap.size, 0, none⟩)) (t.val v) rfl HLD.out ?_)
    refine HF.out.mono ?_
    rintro e w3 ⟨rfl, hb3⟩
    have HP4 := hide (HP.out.keep hb3)
    have HLD4 := hide (load_tb w.heap.size t v w3 HP4.out.bt)
    clear hb3 HLD HF
    unfold ixN
    obtain ⟨W9, hst9, b9, hB9⟩ := HP4.out.same
    have HST9 := hide hst9
    have HB9 := hide b9
    have HW9 := hide hB9
    clear hst9 b9 hB9
    go_wp2_with (first | refine wpList_load _ rfl 24 (.tmp 3) rfl (.pointer (some ⟨w.heap.size, 0, none⟩)) (t.val v) rfl HLD4.out ?_ | refine wpList_store _ rfl rfl 24 (.tmp 6) (.tmp 15) rfl (.pointer (some ⟨w.heap.size + 1, 0, none⟩)) (t.val v) rfl rfl W9 HST9.out ?_)
    refine bodyPost_ret (tb_results2 rfl HB9.out _ (.int .i64 3) rfl rfl) rfl ?_
    exact ⟨v, rfl, HH.out.keep HW9.out (Nat.le_refl _), HW9.out⟩
  | some i =>
    rw [hf] at HF
    have hi := (find_some hf).1
    have hiv : i < v.len := by rw [← hl]; exact hi
    have HWR : Hid (writeT t tx c = if (t.en i).st ≠ 1 ∨ t.no = 2147483647 then (t, 2) else if c < 0 ∨ 65535 < c then (t, 1) else ({ t.set i { t.en i with last := c } with no := t.no + 1 }, 0)) := by show _ = _; unfold writeT; rw [hf]
    clear hf
    obtain ⟨x, hx⟩ : ∃ x, x = t.en i := ⟨_, rfl⟩
    rw [← hx] at HWR
    have HX := hide hx
    have j1 : ¬ ((i : Nat) : Int) < 0 := by omega
    have j2 : ((i : Nat) : Int) < ((v.len : Nat) : Int) := by omega
    clear hx
    have front : ∀ (w3 : World), Below W2.heap.size W2 w3 → ∃ b off, v.a = some ⟨b, off, none⟩ ∧ EnAt w3 b (off + i * 4) x := fun w3 hb3 => by
      obtain ⟨b, off, ha, hat⟩ := (HH.out.keep (rBelow HP.out.below hb3) (Nat.le_refl _)).at' i hiv
      have hx' := HX.out
      unfold Tb.en at hx'
      rw [← hx'] at hat
      exact ⟨b, off, ha, hat⟩
    obtain ⟨va, vl, vc⟩ := v
    obtain ⟨b, off, ha, _⟩ := front W2 (Below.refl _ _)
    replace ha : va = some ⟨b, off, none⟩ := ha
    subst ha
    have FR := hide front
    clear front
    by_cases hst : x.st = 1
    · have q1 : (x.st != 1) = false := by simp [hst]
      by_cases hn : t.no = 2147483647
      · rw [HWR.out, if_pos (.inr hn)]
        have q2 : (t.no == 2147483647) = true := by simp [hn]
        clear hst hn
        unfold Tb.val
        go_enter Try.func27, Try.ntmps27
        go_wp2_with (refine wpList_load _ rfl 24 (.tmp 3) rfl (.pointer (some ⟨w.heap.size, 0, none⟩)) (t.val ⟨some ⟨b, off, none⟩, vl, vc⟩) rfl HLD.out ?_)
        refine HF.out.mono ?_
        rintro e w3 ⟨rfl, hb3⟩
        obtain ⟨b', off', ha', hat⟩ := FR.out w3 hb3
        simp only [Option.some.injEq, Addr.mk.injEq, and_true] at ha'
        obtain ⟨rfl, rfl⟩ := ha'
        have c0 := hat.c0
        have c1 := hat.c1
        have c2 := hat.c2
        have c3 := hat.c3
        have HP3 := hide (HP.out.keep hb3)
        have d3 := HP3.out.bt.c3
        have HP4 := hide (HP3.out.keep (below_alloc w3 (.cells #[.int .i64 x.tx, .int .i64 x.st, .int .i64 x.last, .int .i64 x.com] 58)))
        have HE4 := hide (EnBlk.new w3 x)
        have HS4 : Hid ((w3.alloc (.cells #[.int .i64 x.tx, .int .i64 x.st, .int .i64 x.last, .int .i64 x.com] 58)).heap.size = w3.heap.size + 1) := by show _ = _; simp
        generalize hW4 : w3.alloc (.cells #[.int .i64 x.tx, .int .i64 x.st, .int .i64 x.last, .int .i64 x.com] 58) = W4 at *
        have d1 := HP4.out.bt.c1
        have d2 := HP4.out.bt.c2
        have g1 : W4.cell? ⟨w3.heap.size, 1, none⟩ = some (.int .i64 x.st) := HE4.out.at.c1
        have HLD4 := hide (load_tb w.heap.size t _ W4 HP4.out.bt)
        clear hb3 HLD HF hat
        unfold ixN
        obtain ⟨W9, hst9, b9, hB9⟩ := HP4.out.same
        have HST9 := hide hst9
        have HB9 := hide b9
        have HW9 := hide hB9
        clear hst9 b9 hB9
        go_wp2_with (first | refine wpList_load _ rfl 24 (.tmp 3) rfl (.pointer (some ⟨w.heap.size, 0, none⟩)) (t.val ⟨some ⟨b, off, none⟩, vl, vc⟩) rfl HLD4.out ?_ | refine wpList_store _ rfl rfl 24 (.tmp 6) (.tmp 29) rfl (.pointer (some ⟨w.heap.size + 1, 0, none⟩)) (t.val ⟨some ⟨b, off, none⟩, vl, vc⟩) rfl rfl W9 HST9.out ?_)
        refine bodyPost_ret (tb_results2 rfl HB9.out _ (.int .i64 2) rfl rfl) rfl ?_
        exact ⟨_, rfl, HH.out.keep HW9.out (Nat.le_refl _), HW9.out⟩
      · have q2 : (t.no == 2147483647) = false := by simp [hn]
        have hlt : t.no < 2147483647 := by omega
        rw [HWR.out, if_neg (fun k => k.elim (fun k => k hst) hn)]
        clear hst hn
        by_cases hc0 : c < 0
        · rw [if_pos (.inl hc0)]
          unfold Tb.val
          go_enter Try.func27, Try.ntmps27
          go_wp2_with (refine wpList_load _ rfl 24 (.tmp 3) rfl (.pointer (some ⟨w.heap.size, 0, none⟩)) (t.val ⟨some ⟨b, off, none⟩, vl, vc⟩) rfl HLD.out ?_)
          refine HF.out.mono ?_
          rintro e w3 ⟨rfl, hb3⟩
          obtain ⟨b', off', ha', hat⟩ := FR.out w3 hb3
          simp only [Option.some.injEq, Addr.mk.injEq, and_true] at ha'
          obtain ⟨rfl, rfl⟩ := ha'
          have c0 := hat.c0
          have c1 := hat.c1
          have c2 := hat.c2
          have c3 := hat.c3
          have HP3 := hide (HP.out.keep hb3)
          have d3 := HP3.out.bt.c3
          have HP4 := hide (HP3.out.keep (below_alloc w3 (.cells #[.int .i64 x.tx, .int .i64 x.st, .int .i64 x.last, .int .i64 x.com] 58)))
          have HE4 := hide (EnBlk.new w3 x)
          have HS4 : Hid ((w3.alloc (.cells #[.int .i64 x.tx, .int .i64 x.st, .int .i64 x.last, .int .i64 x.com] 58)).heap.size = w3.heap.size + 1) := by show _ = _; simp
          generalize hW4 : w3.alloc (.cells #[.int .i64 x.tx, .int .i64 x.st, .int .i64 x.last, .int .i64 x.com] 58) = W4 at *
          have d1 := HP4.out.bt.c1
          have d2 := HP4.out.bt.c2
          have g1 : W4.cell? ⟨w3.heap.size, 1, none⟩ = some (.int .i64 x.st) := HE4.out.at.c1
          have HLD4 := hide (load_tb w.heap.size t _ W4 HP4.out.bt)
          clear hb3 HLD HF hat
          unfold ixN
          obtain ⟨W9, hst9, b9, hB9⟩ := HP4.out.same
          have HST9 := hide hst9
          have HB9 := hide b9
          have HW9 := hide hB9
          clear hst9 b9 hB9
          go_wp2_with (first | refine wpList_load _ rfl 24 (.tmp 3) rfl (.pointer (some ⟨w.heap.size, 0, none⟩)) (t.val ⟨some ⟨b, off, none⟩, vl, vc⟩) rfl HLD4.out ?_ | refine wpList_store _ rfl rfl 24 (.tmp 6) (.tmp 36) rfl (.pointer (some ⟨w.heap.size + 1, 0, none⟩)) (t.val ⟨some ⟨b, off, none⟩, vl, vc⟩) rfl rfl W9 HST9.out ?_)
          refine bodyPost_ret (tb_results2 rfl HB9.out _ (.int .i64 1) rfl rfl) rfl ?_
          exact ⟨_, rfl, HH.out.keep HW9.out (Nat.le_refl _), HW9.out⟩
        · by_cases hc1 : 65535 < c
          · rw [if_pos (.inr hc1)]
            unfold Tb.val
            go_enter Try.func27, Try.ntmps27
            go_wp2_with (refine wpList_load _ rfl 24 (.tmp 3) rfl (.pointer (some ⟨w.heap.size, 0, none⟩)) (t.val ⟨some ⟨b, off, none⟩, vl, vc⟩) rfl HLD.out ?_)
            refine HF.out.mono ?_
            rintro e w3 ⟨rfl, hb3⟩
            obtain ⟨b', off', ha', hat⟩ := FR.out w3 hb3
            simp only [Option.some.injEq, Addr.mk.injEq, and_true] at ha'
            obtain ⟨rfl, rfl⟩ := ha'
            have c0 := hat.c0
            have c1 := hat.c1
            have c2 := hat.c2
            have c3 := hat.c3
            have HP3 := hide (HP.out.keep hb3)
            have d3 := HP3.out.bt.c3
            have HP4 := hide (HP3.out.keep (below_alloc w3 (.cells #[.int .i64 x.tx, .int .i64 x.st, .int .i64 x.last, .int .i64 x.com] 58)))
            have HE4 := hide (EnBlk.new w3 x)
            have HS4 : Hid ((w3.alloc (.cells #[.int .i64 x.tx, .int .i64 x.st, .int .i64 x.last, .int .i64 x.com] 58)).heap.size = w3.heap.size + 1) := by show _ = _; simp
            generalize hW4 : w3.alloc (.cells #[.int .i64 x.tx, .int .i64 x.st, .int .i64 x.last, .int .i64 x.com] 58) = W4 at *
            have d1 := HP4.out.bt.c1
            have d2 := HP4.out.bt.c2
            have g1 : W4.cell? ⟨w3.heap.size, 1, none⟩ = some (.int .i64 x.st) := HE4.out.at.c1
            have HLD4 := hide (load_tb w.heap.size t _ W4 HP4.out.bt)
            clear hb3 HLD HF hat
            unfold ixN
            obtain ⟨W9, hst9, b9, hB9⟩ := HP4.out.same
            have HST9 := hide hst9
            have HB9 := hide b9
            have HW9 := hide hB9
            clear hst9 b9 hB9
            go_wp2_with (first | refine wpList_load _ rfl 24 (.tmp 3) rfl (.pointer (some ⟨w.heap.size, 0, none⟩)) (t.val ⟨some ⟨b, off, none⟩, vl, vc⟩) rfl HLD4.out ?_ | refine wpList_store _ rfl rfl 24 (.tmp 6) (.tmp 36) rfl (.pointer (some ⟨w.heap.size + 1, 0, none⟩)) (t.val ⟨some ⟨b, off, none⟩, vl, vc⟩) rfl rfl W9 HST9.out ?_)
            refine bodyPost_ret (tb_results2 rfl HB9.out _ (.int .i64 1) rfl rfl) rfl ?_
            exact ⟨_, rfl, HH.out.keep HW9.out (Nat.le_refl _), HW9.out⟩
          · rw [if_neg (fun k => k.elim hc0 hc1)]
            unfold Tb.val
            go_enter Try.func27, Try.ntmps27
            go_wp2_with (refine wpList_load _ rfl 24 (.tmp 3) rfl (.pointer (some ⟨w.heap.size, 0, none⟩)) (t.val ⟨some ⟨b, off, none⟩, vl, vc⟩) rfl HLD.out ?_)
            refine HF.out.mono ?_
            rintro e w3 ⟨rfl, hb3⟩
            obtain ⟨b', off', ha', hat⟩ := FR.out w3 hb3
            simp only [Option.some.injEq, Addr.mk.injEq, and_true] at ha'
            obtain ⟨rfl, rfl⟩ := ha'
            have c0 := hat.c0
            have c1 := hat.c1
            have c2 := hat.c2
            have c3 := hat.c3
            have HP3 := hide (HP.out.keep hb3)
            have d3 := HP3.out.bt.c3
            have HP4 := hide (HP3.out.keep (below_alloc w3 (.cells #[.int .i64 x.tx, .int .i64 x.st, .int .i64 x.last, .int .i64 x.com] 58)))
            have HE4 := hide (EnBlk.new w3 x)
            have HS4 : Hid ((w3.alloc (.cells #[.int .i64 x.tx, .int .i64 x.st, .int .i64 x.last, .int .i64 x.com] 58)).heap.size = w3.heap.size + 1) := by show _ = _; simp
            generalize hW4 : w3.alloc (.cells #[.int .i64 x.tx, .int .i64 x.st, .int .i64 x.last, .int .i64 x.com] 58) = W4 at *
            have d1 := HP4.out.bt.c1
            have d2 := HP4.out.bt.c2
            have g1 : W4.cell? ⟨w3.heap.size, 1, none⟩ = some (.int .i64 x.st) := HE4.out.at.c1
            have HLD4 := hide (load_tb w.heap.size t _ W4 HP4.out.bt)
            clear hb3 HLD HF hat
            unfold ixN
            obtain ⟨W5, hst5, e5, f5, s5⟩ := HE4.out.st2 c
            have hsz3 := HP3.out.size
            have hp5 : Pair w W5 t ⟨some ⟨b, off, none⟩, vl, vc⟩ := ⟨HP4.out.below.trans (f5.below HP4.out.below.size (fun k hk => by omega)), HP4.out.bt.other f5 (by omega), HP4.out.br.other f5 (by omega)⟩
            obtain ⟨W6, hst6, t6, f6, s6⟩ := hp5.bt.st1 (t.no + 1)
            have hp6 : Pair w W6 { t with no := t.no + 1 } ⟨some ⟨b, off, none⟩, vl, vc⟩ := ⟨hp5.below.trans (f6.below hp5.below.size (fun k hk => by omega)), t6, hp5.br.other f6 (by omega)⟩
            have e6 : EnBlk W6 w3.heap.size { x with last := c } := (f6.block _ e5.lt (by omega)).trans e5
            have HST5 := hide hst5
            have HST6 := hide hst6
            have HP6 := hide hp6
            have k1 := hp5.bt.c1
            have HLE6 := hide (load_en w3.heap.size 0 { x with last := c } W6 e6.at)
            have HLD6 := hide (load_tb w.heap.size { t with no := t.no + 1 } _ W6 hp6.bt)
            have HS := hide (rsetT_any { t with no := t.no + 1 } ⟨some ⟨b, off, none⟩, vl, vc⟩ i { x with last := c } W6 (HH.out.keep hp6.below (Nat.le_refl _)) hiv hm)
            clear hst5 e5 f5 s5 hp5 hst6 t6 f6 s6 hp6 e6 HLD4
            go_wp2_with (first | refine wpList_store _ rfl rfl 3 (.tmp 38) (.tmp 37) rfl (.pointer (some ⟨w3.heap.size, 2, none⟩)) (.int .i64 c) rfl rfl W5 HST5.out ?_ | refine wpList_store _ rfl rfl 3 (.tmp 42) (.tmp 41) rfl (.pointer (some ⟨w.heap.size, 1, none⟩)) (.int .i64 (t.no + 1)) rfl rfl W6 HST6.out ?_ | refine wpList_load _ rfl 24 (.tmp 3) rfl (.pointer (some ⟨w.heap.size, 0, none⟩)) (({ t with no := t.no + 1 } : Tb).val ⟨some ⟨b, off, none⟩, vl, vc⟩) rfl HLD6.out ?_ | refine wpList_load _ rfl 58 (.tmp 9) rfl (.pointer (some ⟨w3.heap.size, 0, none⟩)) (({ x with last := c } : En).val) rfl HLE6.out ?_)
            refine HS.out.mono ?_
            rintro e w7 ⟨s, rfl, ho7, hn7, hb7⟩
            have hp7 := HP6.out.keep hb7
            obtain ⟨W9, hst9, b9, hB9, hf9⟩ := hp7.told (({ t with no := t.no + 1 } : Tb).set i { x with last := c }) s
            have HO9 : Hid (Es W9 s (({ t with no := t.no + 1 } : Tb).set i { x with last := c }).es) := (ho7.other hf9 (fun k hk => by have := hn7 k hk; have := HP6.out.size; omega)).es
            have HST9 := hide hst9
            have HB9 := hide b9
            have HW9 := hide hB9
            clear hst9 b9 hB9 hf9 hp7 ho7 hn7 hb7 HS
            unfold id
            go_wp2_with (refine wpList_store _ rfl rfl 24 (.tmp 6) (.tmp 46) rfl (.pointer (some ⟨w.heap.size + 1, 0, none⟩)) ((({ t with no := t.no + 1 } : Tb).set i { x with last := c }).val s) rfl rfl W9 HST9.out ?_)
            refine bodyPost_ret (tb_results2 rfl HB9.out _ (.int .i64 0) rfl rfl) rfl ?_
            exact ⟨s, rfl, HO9.out, HW9.out⟩
    · have q1 : (x.st != 1) = true := by simp [hst]
      rw [HWR.out, if_pos (.inl hst)]
      clear hst
      unfold Tb.val
      go_enter Try.func27, Try.ntmps27
      go_wp2_with (refine wpList_load _ rfl 24 (.tmp 3) rfl (.pointer (some ⟨w.heap.size, 0, none⟩)) (t.val ⟨some ⟨b, off, none⟩, vl, vc⟩) rfl HLD.out ?_)
      refine HF.out.mono ?_
      rintro e w3 ⟨rfl, hb3⟩
      obtain ⟨b', off', ha', hat⟩ := FR.out w3 hb3
      simp only [Option.some.injEq, Addr.mk.injEq, and_true] at ha'
      obtain ⟨rfl, rfl⟩ := ha'
      have c0 := hat.c0
      have c1 := hat.c1
      have c2 := hat.c2
      have c3 := hat.c3
      have HP3 := hide (HP.out.keep hb3)
      have d3 := HP3.out.bt.c3
      have HP4 := hide (HP3.out.keep (below_alloc w3 (.cells #[.int .i64 x.tx, .int .i64 x.st, .int .i64 x.last, .int .i64 x.com] 58)))
      have HE4 := hide (EnBlk.new w3 x)
      have HS4 : Hid ((w3.alloc (.cells #[.int .i64 x.tx, .int .i64 x.st, .int .i64 x.last, .int .i64 x.com] 58)).heap.size = w3.heap.size + 1) := by show _ = _; simp
      generalize hW4 : w3.alloc (.cells #[.int .i64 x.tx, .int .i64 x.st, .int .i64 x.last, .int .i64 x.com] 58) = W4 at *
      have d1 := HP4.out.bt.c1
      have d2 := HP4.out.bt.c2
      have g1 : W4.cell? ⟨w3.heap.size, 1, none⟩ = some (.int .i64 x.st) := HE4.out.at.c1
      have HLD4 := hide (load_tb w.heap.size t _ W4 HP4.out.bt)
      clear hb3 HLD HF hat
      unfold ixN
      obtain ⟨W9, hst9, b9, hB9⟩ := HP4.out.same
      have HST9 := hide hst9
      have HB9 := hide b9
      have HW9 := hide hB9
      clear hst9 b9 hB9
      go_wp2_with (first | refine wpList_load _ rfl 24 (.tmp 3) rfl (.pointer (some ⟨w.heap.size, 0, none⟩)) (t.val ⟨some ⟨b, off, none⟩, vl, vc⟩) rfl HLD4.out ?_ | refine wpList_store _ rfl rfl 24 (.tmp 6) (.tmp 29) rfl (.pointer (some ⟨w.heap.size + 1, 0, none⟩)) (t.val ⟨some ⟨b, off, none⟩, vl, vc⟩) rfl rfl W9 HST9.out ?_)
      refine bodyPost_ret (tb_results2 rfl HB9.out _ (.int .i64 2) rfl rfl) rfl ?_
      exact ⟨_, rfl, HH.out.keep HW9.out (Nat.le_refl _), HW9.out⟩

end Go.Proofs.Ytdbgbldmjgonjaa
