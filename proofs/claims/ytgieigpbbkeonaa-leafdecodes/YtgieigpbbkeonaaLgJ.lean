/-
  Layer 8: the landed Decode where b is no page, or an empty one; a law's leaf in its box; awake, Light, none.
-/
import Derived.Test.YtgieigpbbkeonaaLgI
import Derived.Laws.MakeOwn
namespace Go.Proofs.Ytgieigpbbkeonaa
open Go.RowKit

theorem made_bytes (n : Nat) : madeCells (Value.int .u8 0).cells (n * 1) = (vals (List.replicate n 0)).toArray := by
  apply Array.ext
  · simp [size_madeCells, vals]
  · intro i h1 h2
    simp [madeCells, vals, Value.cells, Nat.mod_one]
theorem make_bytes (n : Nat) (hn : n ≤ 10000000) (w : World) : (Instr.makeSlice 28 (.int .i64 (n : Nat)) (.int .i64 (n : Nat))).run Try.prog w = .ok (.slice (some ⟨w.heap.size, 0, none⟩) n n) (w.alloc (.cells (vals (List.replicate n 0)).toArray 5)) := by
  obtain ⟨i0, hi, hz0, hz1, hz2⟩ := info_parts info5
  have h := run_makeSlice (P := Try.prog) w 28 5 i0 (.int .u8 0) Try.underlying28 hi hz0 .i64 .i64 (n : Nat) (n : Nat) (by omega) (by omega) (by rw [hz1]; simp; omega) (by rw [hz2]; simp; omega) (by omega)
  rw [hz1, show ((n : Nat) : Int).toNat = n by omega, made_bytes] at h
  exact h
theorem made_ints (n : Nat) : madeCells (Value.int .i64 0).cells (n * 1) = (cellsN (List.replicate n 0)).toArray := by
  apply Array.ext
  · simp [size_madeCells, cellsN]
  · intro i h1 h2
    simp [madeCells, cellsN, Value.cells, Nat.mod_one]
theorem make_ints (n : Nat) (hn : n ≤ 1000000) (w : World) : (Instr.makeSlice 22 (.int .i64 (n : Nat)) (.int .i64 (n : Nat))).run Try.prog w = .ok (.slice (some ⟨w.heap.size, 0, none⟩) n n) (w.alloc (.cells (cellsN (List.replicate n 0)).toArray 3)) := by
  obtain ⟨i0, hi, hz0, hz1, hz2⟩ := info_parts infoIn1
  have h := run_makeSlice (P := Try.prog) w 22 3 i0 (.int .i64 0) Try.underlying22 hi hz0 .i64 .i64 (n : Nat) (n : Nat) (by omega) (by omega) (by rw [hz1]; simp; omega) (by rw [hz2]; simp; omega) (by omega)
  rw [hz1, show ((n : Nat) : Int).toNat = n by omega, made_ints] at h
  exact h
theorem ownN_made (w : World) (t : List Int) (h : t.length ≤ 1000000) : OwnN (w.alloc (.cells (cellsN t).toArray 3)) ⟨some ⟨w.heap.size, 0, none⟩, t.length, t.length⟩ t := by
  refine ⟨by rw [cellsN_length]; show _ = t.length * 1; omega, .inr ⟨w.heap.size, 0, _, rfl, heap_alloc_new w _, by show 0 + t.length * 1 ≤ _; simp [cellsN_length], Nat.le_refl _, by show t.length ≤ _; unfold maxLen; omega, ?_⟩⟩
  show (List.drop 0 (cellsN t).toArray.toList).take (t.length * 1) = _
  rw [List.drop_zero, List.take_of_length_le (by simp [cellsN_length])]
section
variable {ops : Array Oper} {rest : List Oper} {o : Oper} {a : Act} {Q : Exit → Act → World → Prop}
theorem wpList_make (w : World) (hgd : o.guard = none) (t : TypeId) (x y : Operand) (ho : o.op = .makeSlice t x y) (u u' v : Value) (hu : a.eval x = u) (hu' : a.eval y = u') (w' : World) (hrun : (Instr.makeSlice t u u').run Try.prog w = .ok v w') (hK : wpList Try.prog ops Q rest (a.put o.dst v) w') : wpList Try.prog ops Q (o :: rest) a w := by
  refine wpList_val w hgd v w' ?_ hK
  have e : execOp a.eval o = (do pure (.value (← Instr.makeSlice t (a.eval x) (a.eval y)))) := by
    unfold execOp
    rw [ho]
  rw [e, hu, hu']
  simp [hrun]
theorem wpList_conv (w : World) (hgd : o.guard = none) (s d : TypeId) (x : Operand) (ho : o.op = .convert s d x) (u v : Value) (hu : a.eval x = u) (w' : World) (hrun : (convert s d u).run Try.prog w = .ok v w') (hK : wpList Try.prog ops Q rest (a.put o.dst v) w') : wpList Try.prog ops Q (o :: rest) a w := by
  refine wpList_val w hgd v w' ?_ hK
  have e : execOp a.eval o = (do pure (.value (← convert s d (a.eval x)))) := by
    unfold execOp
    rw [ho]
  rw [e, hu]
  simp [hrun]
end
/-- The answer is laid into its box, which is the first one. -/
theorem fin_lf0 {w w1 : World} {x y : Value} (k : LfBlk w1 w.heap.size x y) (e : Below w.heap.size w w1) {u' v' : Sl} {t : List Int} {l' : List Sb} (gi : Gi (fun k => w.heap.size + 1 ≤ k) w1 u' t) (gb : Gb (fun k => w.heap.size + 1 ≤ k) w1 v' l') :
    ∃ W, (Instr.storeAt 25 (.pointer (some ⟨w.heap.size, 0, none⟩)) (lfV u' v')).run Try.prog w1 = .ok () W ∧ LfBlk W w.heap.size u'.val v'.val ∧ ∀ mk, Told w t (bss l') mk (.returned (mk (lfV u' v'))) W := by
  obtain ⟨W, hst, k', f⟩ := st_lf w1 _ _ _ k u' v'
  have hk : Kept (fun k => w.heap.size + 1 ≤ k) w1 W := Kept.frm f (fun k hk e => by omega)
  refine ⟨W, hst, k', fun mk => ⟨e.trans (f.below e.size (fun k hk => by rw [hk]; exact Nat.le_refl _)), u', v', l', rfl, (gi.keep hk).wide (fun k h => by omega), (gb.keep hk).wide (fun k h => by omega), rfl⟩⟩

set_option maxHeartbeats 8000000 in
set_option maxRecDepth 100000 in
theorem decode_arg (w : World) (a : Option Addr) (len cap : Nat) (hl : len ≠ 512) :
    Calls Try.prog 14 #[.slice a len cap] w fun e w' => Told w [] [] (mk2 1) e w' := by
  have hA := below_alloc w (.cells #[.slice none 0 0, .slice none 0 0] 25)
  obtain ⟨W9, hst9, k9, hf9⟩ := fin_lf0 (lfBlk_new w (.slice none 0 0) (.slice none 0 0)) hA (Gi.none _) (Gb.none _)
  have HST9 := hide hst9
  have HK9 := hide k9
  have HF := hide (hf9 (mk2 1))
  have i1 : ¬ ((len : Nat) : Int) = 512 := by omega
  have i2 : (((len : Nat) : Int) != 512) = true := by simp; omega
  clear hA hst9 k9 hf9
  unfold lfV Sl.val Sl.nil at *
  simp only at *
  go_enter Try.func14, Try.ntmps14
  go_wp2_with (refine wpList_store _ rfl rfl 25 (.tmp 2) (.tmp 9) rfl (.pointer (some ⟨w.heap.size, 0, none⟩)) (.agg #[.slice none 0 0, .slice none 0 0]) rfl rfl W9 HST9.out ?_)
  refine bodyPost_ret (lf_results1 (u := Sl.nil) (v := Sl.nil) rfl HK9.out _ rfl rfl) rfl ?_
  exact HF.out

set_option maxHeartbeats 8000000 in
set_option maxRecDepth 100000 in
theorem decode_nul (w : World) (a : Option Addr) (cap : Nat) (xs : List Nat) (h : Bs w a 512 xs) (hn : nul xs = true) :
    Calls Try.prog 14 #[.slice a 512 cap] w fun e w' => Told w [0, 0, 0, 0] [] (mk2 0) e w' := by
  have hA := below_alloc w (.cells #[.slice none 0 0, .slice none 0 0] 25)
  have HN := hide (noughts_any _ a 512 cap xs (h.keep hA (Nat.le_refl _)) (by decide))
  rw [hn] at HN
  have HK := hide (lfBlk_new w (.slice none 0 0) (.slice none 0 0))
  have HS1 := hide (alloc_size w (.cells #[.slice none 0 0, .slice none 0 0] 25))
  have HA := hide hA
  clear hA h hn
  go_enter Try.func14, Try.ntmps14
  go_wp2_with fail
  refine HN.out.mono ?_
  rintro e w1 ⟨rfl, hw⟩
  rw [← hw] at HK HS1 HA
  clear hw HN
  have hA2 := below_alloc w1 (.cells (cellsN [0, 0, 0, 0]).toArray 3)
  have HMK : Hid ((Instr.makeSlice 22 (.int .i64 4) (.int .i64 4)).run Try.prog w1 = .ok (.slice (some ⟨w1.heap.size, 0, none⟩) 4 4) (w1.alloc (.cells (cellsN [0, 0, 0, 0]).toArray 3))) := make_ints 4 (by decide) w1
  have ho := ownN_made w1 [0, 0, 0, 0] (by decide)
  obtain ⟨W9, hst9, k9, hf9⟩ := fin_lf0 (HK.out.below hA2) (rBelow HA.out hA2) (OwnN.gi (D := fun k => w.heap.size + 1 ≤ k) ho (fun k hk => by have e : some w1.heap.size = some k := hk; cases e; have := HS1.out; omega) (by show 4 ≤ 1000000; decide)) (Gb.none _)
  have HST9 := hide hst9
  have HK9 := hide k9
  have HF := hide (hf9 (mk2 0))
  clear hA2 hst9 k9 hf9 ho
  unfold lfV Sl.val Sl.nil at *
  simp only at *
  go_wp2_with (first | refine wpList_make _ rfl 22 (.const (.int .i64 4)) (.const (.int .i64 4)) rfl (.int .i64 4) (.int .i64 4) _ rfl rfl _ HMK.out ?_ | refine wpList_store _ rfl rfl 25 (.tmp 2) (.tmp 13) rfl (.pointer (some ⟨w.heap.size, 0, none⟩)) (.agg #[.slice (some ⟨w1.heap.size, 0, none⟩) 4 4, .slice none 0 0]) rfl rfl W9 HST9.out ?_)
  refine bodyPost_ret (lf_results1 (u := ⟨some ⟨w1.heap.size, 0, none⟩, 4, 4⟩) (v := Sl.nil) rfl HK9.out _ rfl rfl) rfl ?_
  exact HF.out

/-- A law's leaf in its box. -/
structure Bx (w W : World) (g : Nat) (u v : Sl) (t : List Int) (l : List Sb) : Prop where
  k : LfBlk W g u.val v.val
  gi : Gi (fun k => k ≠ g) W u t
  gb : Gb (fun k => k ≠ g) W v l
  e : Below w.heap.size w W
  le : w.heap.size ≤ g
theorem Bx.below {w W W' : World} {g : Nat} {u v : Sl} {t : List Int} {l : List Sb} (h : Bx w W g u v t l) (hb : Below W.heap.size W W') : Bx w W' g u v t l :=
  ⟨h.k.below hb, h.gi.below hb (Nat.le_refl _), h.gb.below hb (Nat.le_refl _), rBelow h.e hb, h.le⟩
/-- What is told is laid into the box. -/
theorem Bx.turn {w W W1 w2 : World} {g : Nat} {u v : Sl} {t t' : List Int} {l : List Sb} {s' : List (List Nat)} {mk : Value → Value} {en : Ending} (h : Bx w W g u v t l) (hb : Below W.heap.size W W1) (td : Told W1 t' s' mk en w2) :
    ∃ (a2 : Option Addr) (n2 c2 : Nat) (a5 : Option Addr) (n5 c5 : Nat) (l' : List Sb) (W3 : World), en = .returned (mk (lfV ⟨a2, n2, c2⟩ ⟨a5, n5, c5⟩)) ∧ (Instr.storeAt 25 (.pointer (some ⟨g, 0, none⟩)) (lfV ⟨a2, n2, c2⟩ ⟨a5, n5, c5⟩)).run Try.prog w2 = .ok () W3 ∧ Bx w W3 g ⟨a2, n2, c2⟩ ⟨a5, n5, c5⟩ t' l' ∧ bss l' = s' := by
  obtain ⟨hb2, ⟨a2, n2, c2⟩, ⟨a5, n5, c5⟩, l', he, gi, gb, hbs⟩ := td
  have h1 := h.below hb
  have h2 := h1.below hb2
  have hg1 := h1.k.lt
  obtain ⟨W3, hst, k3, f⟩ := st_lf w2 _ _ _ h2.k ⟨a2, n2, c2⟩ ⟨a5, n5, c5⟩
  have hk : Kept (fun k => W1.heap.size ≤ k) w2 W3 := Kept.frm f (fun k hk e => by omega)
  have hle := h.le
  exact ⟨a2, n2, c2, a5, n5, c5, l', W3, he, hst, ⟨k3, (gi.keep hk).wide (fun k hk => by omega), (gb.keep hk).wide (fun k hk => by omega), h2.e.trans (f.below h2.e.size (fun k hk => by omega)), h.le⟩, hbs⟩
/-- What is told is laid into a new box. -/
theorem Bx.start {w W1 w2 : World} {t' : List Int} {s' : List (List Nat)} {mk : Value → Value} {en : Ending} (e : Below w.heap.size w W1) (td : Told W1 t' s' mk en w2) :
    ∃ (a2 : Option Addr) (n2 c2 : Nat) (a5 : Option Addr) (n5 c5 : Nat) (l' : List Sb) (W3 : World), en = .returned (mk (lfV ⟨a2, n2, c2⟩ ⟨a5, n5, c5⟩)) ∧ (Instr.storeAt 25 (.pointer (some ⟨w2.heap.size, 0, none⟩)) (lfV ⟨a2, n2, c2⟩ ⟨a5, n5, c5⟩)).run Try.prog (w2.alloc (.cells #[.slice none 0 0, .slice none 0 0] 25)) = .ok () W3 ∧ Bx w W3 w2.heap.size ⟨a2, n2, c2⟩ ⟨a5, n5, c5⟩ t' l' ∧ bss l' = s' := by
  obtain ⟨hb2, ⟨a2, n2, c2⟩, ⟨a5, n5, c5⟩, l', he, gi, gb, hbs⟩ := td
  have hA := below_alloc w2 (.cells #[.slice none 0 0, .slice none 0 0] 25)
  obtain ⟨W3, hst, k3, f⟩ := st_lf _ _ _ _ (lfBlk_new w2 (.slice none 0 0) (.slice none 0 0)) ⟨a2, n2, c2⟩ ⟨a5, n5, c5⟩
  have hB : Below w2.heap.size w2 W3 := hA.trans (f.below hA.size (fun k hk => by omega))
  have e2 := rBelow e hb2
  have gi2 : Gi (fun k => k ≠ w2.heap.size) w2 ⟨a2, n2, c2⟩ t' := ⟨gi.len, gi.nil, gi.le, gi.big, fun ad ha hl => by
    obtain ⟨b, off, ha', hc⟩ := gi.cell 0 hl
    have hlt := World.block_lt_of_cell? w2 _ hc
    rw [ha'] at ha
    cases ha
    exact Nat.ne_of_lt hlt, gi.cell⟩
  have gb2 : Gb (fun k => k ≠ w2.heap.size) w2 ⟨a5, n5, c5⟩ l' := ⟨gb.len, gb.nil, gb.le, gb.big, fun ad ha hl => by
    obtain ⟨b, off, ha', hc⟩ := gb.cell 0 hl
    have hlt := World.block_lt_of_cell? w2 _ hc
    rw [ha'] at ha
    cases ha
    exact Nat.ne_of_lt hlt, gb.cell, fun x hx => ⟨(gb.bs x hx).1.mono (fun k _ hl => Nat.ne_of_lt hl), (gb.bs x hx).2⟩⟩
  exact ⟨a2, n2, c2, a5, n5, c5, l', W3, he, hst, ⟨k3, gi2.below hB (Nat.le_refl _), gb2.below hB (Nat.le_refl _), rBelow e2 hB, e2.size⟩, hbs⟩

theorem setA_may {t : List Int} {s : List (List Nat)} (h : MayL ⟨t, s⟩) (i : Int) (r : List Nat) : MayL ⟨t, (setA s i r).s⟩ := by
  unfold setA
  split
  · exact h
  · rename_i h0
    split
    · exact h
    · split
      · exact h
      · have h1 : standsB s i = true := by simpa using h0
        obtain ⟨k, rfl, hk⟩ := standsB_is h1
        rw [Int.toNat_natCast] at *
        exact ⟨h.itl, h.slots.set hk (by omega) (by omega), by simp only; omega⟩
theorem dropA_may {t : List Int} {s : List (List Nat)} (h : MayL ⟨t, s⟩) (i : Int) : MayL ⟨t, (dropA s i).s⟩ := by
  unfold dropA
  split
  · exact h
  · rename_i h0
    have h1 : standsB s i = true := by simpa using h0
    obtain ⟨k, rfl, hk⟩ := standsB_is h1
    rw [Int.toNat_natCast]
    refine ⟨h.itl, drop_ok h.slots k, ?_⟩
    have h2 := drop_need (s := s) (i := k) hk
    have h3 := h.need
    simp only [need] at h3 ⊢
    omega
theorem insA_may {t : List Int} {s : List (List Nat)} (h : MayL ⟨t, s⟩) (r : List Nat) : MayL ⟨t, (insA s r).s⟩ := by
  unfold insA
  split
  · exact h
  · split
    · exact h
    · exact ⟨h.itl, insS_ok h.slots (by omega) (by omega) (by show (insS s r).length ≤ 64; omega), by simp only; omega⟩
theorem nul_rep (n : Nat) : nul (List.replicate n 0) = true := by unfold nul; simp
theorem may0 : MayL ⟨[0, 0, 0, 0], []⟩ := ⟨⟨rfl, by decide, by decide⟩, ⟨by decide, fun i hi => absurd hi (Nat.not_lt_zero _), fun h => absurd rfl h⟩, by decide⟩

set_option maxHeartbeats 8000000 in
set_option maxRecDepth 100000 in
theorem awake_any (w : World) : Calls Try.prog 9 #[] w fun e w' => e = .returned (.bool true) ∧ Below w.heap.size w w' := by
  have hx512 : Bytes (List.replicate 512 0) := fun y hy => by have := List.eq_of_mem_replicate hy; omega
  have hA := below_alloc w (.cells (vals (List.replicate 512 0)).toArray 5)
  have hb : Bs (w.alloc (.cells (vals (List.replicate 512 0)).toArray 5)) (some ⟨w.heap.size, 0, none⟩) 512 (List.replicate 512 0) := by
    have := bs_marked w (List.replicate 512 0) (0, 0) hx512
    rw [List.length_replicate] at this
    exact this
  have hnul := nul_rep 512
  have HDC := hide (decode_nul _ (some ⟨w.heap.size, 0, none⟩) 512 _ hb hnul)
  have HMK : Hid ((Instr.makeSlice 28 (.int .i64 512) (.int .i64 512)).run Try.prog w = .ok (.slice (some ⟨w.heap.size, 0, none⟩) 512 512) (w.alloc (.cells (vals (List.replicate 512 0)).toArray 5))) := make_bytes 512 (by decide) w
  obtain ⟨W0, hW0⟩ : ∃ W, W = w.alloc (.cells (vals (List.replicate 512 0)).toArray 5) := ⟨_, rfl⟩
  rw [← hW0] at HDC HMK hA
  have HA := hide hA
  clear hx512 hA hb hnul hW0
  go_enter Try.func9, Try.ntmps9
  go_wp2_with (refine wpList_make _ rfl 28 (.const (.int .i64 512)) (.const (.int .i64 512)) rfl (.int .i64 512) (.int .i64 512) _ rfl rfl _ HMK.out ?_)
  refine HDC.out.mono ?_
  rintro e w1 td
  obtain ⟨a1, n1, c1, b1, m1, d1, l1, W1, rfl, hst1, bx1, hbs1⟩ := Bx.start HA.out td
  have HST1 := hide hst1
  have hm1 : MayL ⟨[0, 0, 0, 0], bss l1⟩ := by rw [hbs1]; exact may0
  have q0 := bx1.k.c0
  have q1 := bx1.k.c1
  have hbC1 : Bytes [97] := fun y hy => by simp at hy; omega
  have hB1 := ((Below.refl _ W1).alloc (Nat.le_refl _) (.cells (vals [97]).toArray 5 (1, 2)))
  have bxm1 := bx1.below hB1
  have HIN1 := hide (ins_any _ _ _ _ l1 (bxm1.gi.wide (E := fun _ => True) (fun _ _ => trivial)) (bxm1.gb.wide (fun _ _ => trivial)) hm1 ⟨⟨some ⟨W1.heap.size, 0, none⟩, 1, 1⟩, [97]⟩ ⟨⟨bs_marked W1 [97] (1, 2) hbC1, fun e => (by cases e), Nat.le_refl _, by show 1 ≤ 9223372036854775807; decide⟩, fun _ _ _ => trivial⟩)
  have HBX1 := hide bx1
  have HBB1 := hide hB1
  have hr1 : insA (bss l1) [97] = ⟨[[97]], 0, 0⟩ := by rw [hbs1]; rfl
  have HHM1 := hide hm1
  try simp only at HIN1 hr1
  rw [hr1] at HIN1
  clear bx1 bxm1 hB1 hbC1 hst1 hm1 hr1 HDC HMK td
  unfold lfV Sl.val at *
  try unfold mk2 at *
  try unfold mk3 at *
  simp only at *
  go_wp2_with (first | refine wpList_alloc _ rfl 25 rfl (.pointer (some ⟨w1.heap.size, 0, none⟩)) (w1.alloc (.cells #[.slice none 0 0, .slice none 0 0] 25)) (alloc_lf w1) ?_ | refine wpList_store _ rfl rfl 25 (.tmp 1) (.tmp 8) rfl (.pointer (some ⟨w1.heap.size, 0, none⟩)) (.agg #[.slice a1 n1 c1, .slice b1 m1 d1]) rfl rfl W1 HST1.out ?_ | refine wpList_conv _ rfl 28 28 (.tmp 12) rfl (.slice (some ⟨W1.heap.size, 0, none⟩) 1 1) (.slice (some ⟨W1.heap.size, 0, none⟩) 1 1) rfl _ (run_convert_self W1 #[.int .u8 97] 1 1) ?_)
  refine HIN1.out.mono ?_
  rintro e v2 td
  obtain ⟨a2, n2, c2, b2, m2, d2, l2, W2, rfl, hst2, bx2, hbs2⟩ := Bx.turn HBX1.out HBB1.out td
  have HST2 := hide hst2
  clear q0 q1 td HIN1 HBX1 HBB1 HST1
  have hm2 : MayL ⟨[0, 0, 0, 0], bss l2⟩ := by rw [hbs2]; have := insA_may may0 [97]; exact this
  have q0 := bx2.k.c0
  have q1 := bx2.k.c1
  have hbC2 : Bytes [98] := fun y hy => by simp at hy; omega
  have hB2 := ((Below.refl _ W2).alloc (Nat.le_refl _) (.cells (vals [98]).toArray 5 (1, 2)))
  have bxm2 := bx2.below hB2
  have HIN2 := hide (ins_any _ _ _ _ l2 (bxm2.gi.wide (E := fun _ => True) (fun _ _ => trivial)) (bxm2.gb.wide (fun _ _ => trivial)) hm2 ⟨⟨some ⟨W2.heap.size, 0, none⟩, 1, 1⟩, [98]⟩ ⟨⟨bs_marked W2 [98] (1, 2) hbC2, fun e => (by cases e), Nat.le_refl _, by show 1 ≤ 9223372036854775807; decide⟩, fun _ _ _ => trivial⟩)
  have HBX2 := hide bx2
  have HBB2 := hide hB2
  have hr2 : insA (bss l2) [98] = ⟨[[97], [98]], 1, 0⟩ := by rw [hbs2]; rfl
  have HHM2 := hide hm2
  try simp only at HIN2 hr2
  rw [hr2] at HIN2
  clear bx2 bxm2 hB2 hbC2 hst2 hm2 hr2
  unfold lfV Sl.val at *
  try unfold mk2 at *
  try unfold mk3 at *
  simp only at *
  go_wp2_with (first | refine wpList_store _ rfl rfl 25 (.tmp 1) (.tmp 15) rfl (.pointer (some ⟨w1.heap.size, 0, none⟩)) (.agg #[.slice a2 n2 c2, .slice b2 m2 d2]) rfl rfl W2 HST2.out ?_ | refine wpList_conv _ rfl 28 28 (.tmp 20) rfl (.slice (some ⟨W2.heap.size, 0, none⟩) 1 1) (.slice (some ⟨W2.heap.size, 0, none⟩) 1 1) rfl _ (run_convert_self W2 #[.int .u8 98] 1 1) ?_)
  refine HIN2.out.mono ?_
  rintro e v3 td
  obtain ⟨a3, n3, c3, b3, m3, d3, l3, W3, rfl, hst3, bx3, hbs3⟩ := Bx.turn HBX2.out HBB2.out td
  have HST3 := hide hst3
  clear q0 q1 td HIN2 HBX2 HBB2 HST2
  have hm3 : MayL ⟨[0, 0, 0, 0], bss l3⟩ := by rw [hbs3]; have := insA_may HHM2.out [98]; rw [hbs2] at this; exact this
  have q0 := bx3.k.c0
  have q1 := bx3.k.c1
  have HIN3 := hide (drop_any _ _ _ _ l3 (bx3.gi.wide (E := fun _ => True) (fun _ _ => trivial)) (bx3.gb.wide (fun _ _ => trivial)) hm3 0)
  have HBX3 := hide bx3
  have HBB3 := hide (Below.refl W3.heap.size W3)
  have hr3 : dropA (bss l3) 0 = ⟨[[], [98]], 0⟩ := by rw [hbs3]; rfl
  have HHM3 := hide hm3
  try simp only at HIN3 hr3
  rw [hr3] at HIN3
  clear bx3 hst3 hm3 hr3
  unfold lfV Sl.val at *
  try unfold mk2 at *
  try unfold mk3 at *
  simp only at *
  go_wp2_with (first | refine wpList_store _ rfl rfl 25 (.tmp 1) (.tmp 23) rfl (.pointer (some ⟨w1.heap.size, 0, none⟩)) (.agg #[.slice a3 n3 c3, .slice b3 m3 d3]) rfl rfl W3 HST3.out ?_)
  refine HIN3.out.mono ?_
  rintro e v4 td
  obtain ⟨a4, n4, c4, b4, m4, d4, l4, W4, rfl, hst4, bx4, hbs4⟩ := Bx.turn HBX3.out HBB3.out td
  have HST4 := hide hst4
  clear q0 q1 td HIN3 HBX3 HBB3 HST3
  have hm4 : MayL ⟨[0, 0, 0, 0], bss l4⟩ := by rw [hbs4]; have := dropA_may HHM3.out 0; rw [hbs3] at this; exact this
  have q0 := bx4.k.c0
  have q1 := bx4.k.c1
  have hbC4 : Bytes [99] := fun y hy => by simp at hy; omega
  have hB4 := ((Below.refl _ W4).alloc (Nat.le_refl _) (.cells (vals [99]).toArray 5 (1, 2)))
  have bxm4 := bx4.below hB4
  have HIN4 := hide (ins_any _ _ _ _ l4 (bxm4.gi.wide (E := fun _ => True) (fun _ _ => trivial)) (bxm4.gb.wide (fun _ _ => trivial)) hm4 ⟨⟨some ⟨W4.heap.size, 0, none⟩, 1, 1⟩, [99]⟩ ⟨⟨bs_marked W4 [99] (1, 2) hbC4, fun e => (by cases e), Nat.le_refl _, by show 1 ≤ 9223372036854775807; decide⟩, fun _ _ _ => trivial⟩)
  have HBX4 := hide bx4
  have HBB4 := hide hB4
  have hr4 : insA (bss l4) [99] = ⟨[[99], [98]], 0, 0⟩ := by rw [hbs4]; rfl
  have HHM4 := hide hm4
  try simp only at HIN4 hr4
  rw [hr4] at HIN4
  clear bx4 bxm4 hB4 hbC4 hst4 hm4 hr4
  unfold lfV Sl.val at *
  try unfold mk2 at *
  try unfold mk3 at *
  simp only at *
  go_wp2_with (first | refine wpList_store _ rfl rfl 25 (.tmp 1) (.tmp 29) rfl (.pointer (some ⟨w1.heap.size, 0, none⟩)) (.agg #[.slice a4 n4 c4, .slice b4 m4 d4]) rfl rfl W4 HST4.out ?_ | refine wpList_conv _ rfl 28 28 (.tmp 33) rfl (.slice (some ⟨W4.heap.size, 0, none⟩) 1 1) (.slice (some ⟨W4.heap.size, 0, none⟩) 1 1) rfl _ (run_convert_self W4 #[.int .u8 99] 1 1) ?_)
  refine HIN4.out.mono ?_
  rintro e v5 td
  obtain ⟨a5, n5, c5, b5, m5, d5, l5, W5, rfl, hst5, bx5, hbs5⟩ := Bx.turn HBX4.out HBB4.out td
  have HST5 := hide hst5
  clear q0 q1 td HIN4 HBX4 HBB4 HST4
  have q0 := bx5.k.c0
  have q1 := bx5.k.c1
  have hl5 : l5.length = 2 := by rw [← bss_length, hbs5]; rfl
  have hm5 : m5 = 2 := by have := bx5.gb.len; rw [hl5] at this; exact this.symm
  subst hm5
  obtain ⟨bb, oo, ha, hc⟩ := bx5.gb.cell 0 (by show 0 < 2; decide)
  replace ha : b5 = some ⟨bb, oo, none⟩ := ha
  subst ha
  have hat := (bx5.gb.at (i := 0) (by show 0 < 2; decide)).1
  rw [hbs5] at hat
  obtain ⟨⟨sa, sn, sc⟩, hs⟩ : ∃ s, s = (l5.getD 0 Sb.zero).s := ⟨_, rfl⟩
  rw [← hs] at hat hc
  have hsn : sn = 1 := by have := hat.len; exact this.symm
  subst hsn
  have hcv : (convert 28 9 (.slice sa 1 sc)).run Try.prog W5 = .ok (.string { data := #[99] }) W5 := run_string_of sc hat.came.bs
  have HB := hide bx5.e
  rw [Nat.add_zero] at hc
  clear bx5 hat hs hl5 hbs5 hst5
  unfold lfV Sl.val at *
  try unfold mk2 at *
  try unfold mk3 at *
  simp only at *
  go_wp2_with (first | refine wpList_store _ rfl rfl 25 (.tmp 1) (.tmp 36) rfl (.pointer (some ⟨w1.heap.size, 0, none⟩)) (.agg #[.slice a5 n5 c5, .slice (some ⟨bb, oo, none⟩) 2 d5]) rfl rfl W5 HST5.out ?_)
  go_ret
  exact ⟨rfl, HB.out⟩
end Go.Proofs.Ytgieigpbbkeonaa
