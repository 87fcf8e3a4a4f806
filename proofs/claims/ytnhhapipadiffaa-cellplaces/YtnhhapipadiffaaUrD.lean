/-
  An undoing's items and bytes: undorec's items and Encode, and the document's Bytes.
-/
import Derived.Test.YtnhhapipadiffaaUrC
namespace Go.Proofs.Ytnhhapipadiffaa
open Go.RowKit

theorem OwnsI.block_ne {w : World} {base g n cap p : Nat} {l : List It} (h : OwnsI w base (.slice (some ⟨g, 0, none⟩) n cap) l) {u : Un} {c : Value} (hp : UnBlk w p u c) : g ≠ p := by
  have := h.ne hp (by decide)
  intro e
  apply this
  rw [e]
  rfl

theorem UnBlk.setCell {w : World} {p g o : Nat} {u : Un} {c v : Value} (h : UnBlk w p u c) (hg : g ≠ p) : UnBlk (w.setCell ⟨g, o, none⟩ v) p u c :=
  (Below.heap_setCell w ⟨g, o, none⟩ v p (fun e => hg e.symm)).trans h

/-- Seven items of one's own, and the undoing's box, while the items' numbers are stored. -/
structure Sev (w0 w : World) (p g cp : Nat) (u : Un) (c : Value) (l : List It) : Prop where
  own : OwnsI w w0.heap.size (.slice (some ⟨g, 0, none⟩) 7 cp) l
  len : l.length = 7
  below : Below w0.heap.size w0 w
  base : w0.heap.size ≤ g
  blk : UnBlk w p u c

theorem Sev.keep {w0 w w' : World} {p g cp : Nat} {u : Un} {c : Value} {l : List It} (h : Sev w0 w p g cp u c l) (hb : Below w.heap.size w w') : Sev w0 w' p g cp u c l :=
  ⟨h.own.keep hb (Nat.le_refl _), h.len, rBelow h.below hb, h.base, h.blk.keep hb⟩

theorem Sev.int {w0 w : World} {p g cp : Nat} {u : Un} {c : Value} {l : List It} (h : Sev w0 w p g cp u c l) (i : Nat) (hi : i < 28) (n0 n : Int) (m : List It) (hc : (itVals l)[i]? = some (.int .i64 n0)) (hm : (itVals l).set i (.int .i64 n) = itVals m) (hl : m.length = l.length) :
    ∃ W, (Instr.storeAt 3 (.pointer (some ⟨g, i, none⟩)) (.int .i64 n)).run Try.prog w = .ok () W ∧ Sev w0 W p g cp u c m := by
  have e := h.own.cell h.len.symm i (by rw [h.len]; omega)
  rw [hc] at e
  have ho : w.ownsRow w0.heap.size 73 4 (.slice (some ⟨g, 0, none⟩) 7 cp) 7 (itVals l) := by
    have := h.own
    unfold OwnsI at this
    rw [h.len] at this
    exact this
  have z := World.ownsRow.frozenAt ho i
  refine ⟨w.setCell ⟨g, i, none⟩ (.int .i64 n), by simp [go_sem, Instr.storeAt, e, z], h.own.store h.len.symm i _ hm hl, hl.trans h.len, h.below.setCell (p := ⟨g, i, none⟩) h.base _, h.base, h.blk.setCell (h.own.block_ne h.blk)⟩

theorem Sev.str {w0 w : World} {p g cp : Nat} {u : Un} {c : Value} {l : List It} (h : Sev w0 w p g cp u c l) (i : Nat) (hi : i < 28) (s0 s : ByteArray) (m : List It) (hc : (itVals l)[i]? = some (.string s0)) (hm : (itVals l).set i (.string s) = itVals m) (hl : m.length = l.length) :
    ∃ W, (Instr.storeAt 9 (.pointer (some ⟨g, i, none⟩)) (.string s)).run Try.prog w = .ok () W ∧ Sev w0 W p g cp u c m := by
  have hss : ∀ (w : World) (a : Addr) (m : Mode) (x : ByteArray), (store a (.string x) m).run Try.prog w = stored Try.prog w a (.string x) m := fun w a m x => run_store Try.prog w a _ m rfl
  have e := h.own.cell h.len.symm i (by rw [h.len]; omega)
  rw [hc] at e
  have ho : w.ownsRow w0.heap.size 73 4 (.slice (some ⟨g, 0, none⟩) 7 cp) 7 (itVals l) := by
    have := h.own
    unfold OwnsI at this
    rw [h.len] at this
    exact this
  have z := World.ownsRow.frozenAt ho i
  refine ⟨w.setCell ⟨g, i, none⟩ (.string s), by simp [go_sem, Instr.storeAt, hss, stored, e, z], h.own.store h.len.symm i _ hm hl, hl.trans h.len, h.below.setCell (p := ⟨g, i, none⟩) h.base _, h.base, h.blk.setCell (h.own.block_ne h.blk)⟩

set_option maxHeartbeats 4000000 in
set_option maxRecDepth 100000 in
theorem itemsU_any (u : Un) (a : Option Addr) (len cap : Nat) (w : World) (h : Fs w a len cap u.row.xs) (hf : u.row.fits) (hm : u.row.may = true) :
    Calls Try.prog 51 #[u.val (.slice a len cap)] w fun e w' => ∃ v, e = .returned v ∧ OwnsI w' w.heap.size v u.items ∧ Below w.heap.size w w' := by
  obtain ⟨tx, no, prev, kind, page, slot, r⟩ := u
  simp only at h hf hm
  have HT : Hid (∀ w', Below w.heap.size w w' → Calls Try.prog 67 #[Un.val ⟨tx, no, prev, kind, page, slot, r⟩ (.slice a len cap)] w' fun e w'' => e = .returned (.string (Un.text ⟨tx, no, prev, kind, page, slot, r⟩)) ∧ Below w'.heap.size w' w'') := fun w' hb => textOf_any ⟨tx, no, prev, kind, page, slot, r⟩ a len cap w' (h.keep hb (Nat.le_refl _)) hf hm
  have HX := hide (unBlk_new w ⟨tx, no, prev, kind, page, slot, r⟩ (.slice a len cap))
  have HO := hide (OwnsI.new (w.alloc (.cells #[.int .i64 tx, .int .i64 no, .int .i64 prev, .int .i64 kind, .int .i64 page, .int .i64 slot, .float .f64 r.key, .bool r.dead, .slice a len cap, .int .i64 r.wr, .int .i64 r.cell, .int .i64 r.no] 30)))
  have HW := hide (below_two w (.cells #[.int .i64 tx, .int .i64 no, .int .i64 prev, .int .i64 kind, .int .i64 page, .int .i64 slot, .float .f64 r.key, .bool r.dead, .slice a len cap, .int .i64 r.wr, .int .i64 r.cell, .int .i64 r.no] 30) (.cells #[] 73))
  have HWa := hide (below_alloc (w.alloc (.cells #[.int .i64 tx, .int .i64 no, .int .i64 prev, .int .i64 kind, .int .i64 page, .int .i64 slot, .float .f64 r.key, .bool r.dead, .slice a len cap, .int .i64 r.wr, .int .i64 r.cell, .int .i64 r.no] 30)) (.cells #[] 73))
  have HH := hide kindsU_any
  clear h hf hm
  simp only at HX
  unfold Un.val at HT ⊢
  simp only at HT ⊢
  go_enter Try.func51, Try.ntmps51
  go_wp2_with fail
  refine (HH.out _).mono ?_
  rintro e w1 ⟨rfl, hk1, hb1⟩
  have HW1 := hide (rBelow HW.out hb1)
  have HX1 := hide ((HX.out.keep HWa.out).keep hb1)
  have HO1 : Hid (OwnsI w1 w.heap.size (.slice (some ⟨w.heap.size + 1, 0, none⟩) 0 0) []) := by
    have := ((HO.out.keep hb1 (Nat.le_refl _)).lower (b' := w.heap.size) (by simp))
    exact hide (by simpa using this)
  have hg1 : ((w.alloc (.cells #[.int .i64 tx, .int .i64 no, .int .i64 prev, .int .i64 kind, .int .i64 page, .int .i64 slot, .float .f64 r.key, .bool r.dead, .slice a len cap, .int .i64 r.wr, .int .i64 r.cell, .int .i64 r.no] 30)).alloc (.cells #[] 73)).heap.size = w.heap.size + 2 := by simp
  rw [hg1] at hk1 ⊢
  have HK1 := hide hk1
  clear hk1 hb1 hg1 HX HO HW HWa HH
  go_wp2_with fail
  go_loopw [3, 9] (fun v i wr' => ∃ k : Nat, k ≤ 7 ∧ i = .int .i64 k ∧ Hid (OwnsI wr' w.heap.size v ((undoK.map headI).take k)) ∧ Hid (Below w.heap.size w wr') ∧ Hid (UnBlk wr' w.heap.size ⟨tx, no, prev, kind, page, slot, r⟩ (.slice a len cap)) ∧ Hid (wr'.heap[w.heap.size + 2]? = some (Obj.cells (kVals undoK).toArray 3 (0, 0)))) (fun _ i _ => 7 - (intOf i).toNat)
  case atStart => exact ⟨0, by omega, rfl, HO1, HW1, HX1, HK1⟩
  case round =>
    obtain ⟨k, hk, rfl, hown, hWr, hXr, hKr⟩ := hrel
    rcases Nat.lt_or_ge k 7 with hlt | hge
    · obtain ⟨kd, hkd⟩ : ∃ kd, kd = undoK.getD k 0 := ⟨_, rfl⟩
      have hc : wr.cell? ⟨w.heap.size + 2, k, none⟩ = some (.int .i64 kd) := by
        obtain ⟨_, _, e, hc⟩ := (ks_blk hKr.out).2 k hlt
        simp only [Option.some.injEq, Addr.mk.injEq, and_true] at e
        obtain ⟨rfl, rfl⟩ := e
        rw [Nat.zero_add] at hc
        rw [hc, hkd]
      have hkr : 1 ≤ kd ∧ kd ≤ 5 := by
        rw [hkd]
        have : k = 0 ∨ k = 1 ∨ k = 2 ∨ k = 3 ∨ k = 4 ∨ k = 5 ∨ k = 6 := by omega
        rcases this with rfl | rfl | rfl | rfl | rfl | rfl | rfl <;> decide
      have HKD := hide hkd
      have HOk := hide (hown.out.keep (below_alloc wr (.cells #[.int .i64 kd, .int .i64 0, .float .f64 0, .string ⟨#[]⟩] 73)) (Nat.le_refl _))
      have HXk := hide (hXr.out.keep (below_alloc wr (.cells #[.int .i64 kd, .int .i64 0, .float .f64 0, .string ⟨#[]⟩] 73)))
      have HKk := hide (((below_alloc wr (.cells #[.int .i64 kd, .int .i64 0, .float .f64 0, .string ⟨#[]⟩] 73)).block _ (Array.getElem?_eq_some_iff.1 hKr.out).1).trans hKr.out)
      have HWk := hide (rBelow hWr.out (below_alloc wr (.cells #[.int .i64 kd, .int .i64 0, .float .f64 0, .string ⟨#[]⟩] 73)))
      have HI := hide (is_one wr (headI kd) (head_fits kd (by omega)))
      unfold headI noS at HI
      simp only at HI
      have HLEN : Hid (((undoK.map headI).take k).length + 1 ≤ 1000000) := by show _ ≤ _; simp [undoK]; omega
      clear hkd hkr
      go_wp2_with (at_builtin; refine wpList_append_items _ rfl (.tmp 13) (.tmp 16) rfl w.heap.size _ _ rfl HOk.out _ _ _ _ rfl HI.out (fun h => by cases h) HLEN.out HWk.out.size ?_)
      intro v5 w5 ho5 hb5 hs5
      have HO5 := hide ho5
      have HW5 := hide (HWk.out.trans hb5)
      have HX5 := hide (HXk.out.stayI hs5)
      have HK5 := hide ((hs5 _ _ _ _ HKk.out (by decide)).trans HKk.out)
      clear ho5 hb5 hs5 HOk HI HXk HKk
      go_wp2
      go_roundw
      case rel =>
        refine ⟨k + 1, by omega, by go_num, ?_, HW5, HX5, HK5⟩
        have e : (undoK.map headI).take (k + 1) = (undoK.map headI).take k ++ [⟨kd, 0, 0, ⟨#[]⟩⟩] := by
          rw [List.take_succ_eq_append_getElem (by simpa [undoK] using hlt), HKD.out]
          simp [headI, noS, List.getD, show k < undoK.length from hlt]
        rw [e]
        exact HO5
      case measure => simp only [intOf]; omega
    · have hk7 : k = 7 := by omega
      have ho6 : OwnsI wr w.heap.size u3 (undoK.map headI) := by
        have := hown.out
        rw [hk7] at this
        exact this
      clear hk7
      obtain ⟨g, cp, hv, hbg, hcp⟩ := ho6.pos (by decide)
      have hl6 : (undoK.map headI).length = 7 := rfl
      rw [hl6] at hv hcp
      subst hv
      have v0 : Sev w wr w.heap.size g cp ⟨tx, no, prev, kind, page, slot, r⟩ (.slice a len cap) [⟨1, 0, 0, noS⟩, ⟨3, 0, 0, noS⟩, ⟨3, 0, 0, noS⟩, ⟨2, 0, 0, noS⟩, ⟨1, 0, 0, noS⟩, ⟨1, 0, 0, noS⟩, ⟨5, 0, 0, noS⟩] := ⟨ho6, rfl, hWr.out, hbg, hXr.out⟩
      obtain ⟨W1, h1, v1⟩ := v0.int 1 (by decide) 0 kind [⟨1, kind, 0, noS⟩, ⟨3, 0, 0, noS⟩, ⟨3, 0, 0, noS⟩, ⟨2, 0, 0, noS⟩, ⟨1, 0, 0, noS⟩, ⟨1, 0, 0, noS⟩, ⟨5, 0, 0, noS⟩] rfl rfl rfl
      have HH1 := hide h1
      obtain ⟨W2, h2, v2⟩ := v1.int 5 (by decide) 0 tx [⟨1, kind, 0, noS⟩, ⟨3, tx, 0, noS⟩, ⟨3, 0, 0, noS⟩, ⟨2, 0, 0, noS⟩, ⟨1, 0, 0, noS⟩, ⟨1, 0, 0, noS⟩, ⟨5, 0, 0, noS⟩] rfl rfl rfl
      have HH2 := hide h2
      obtain ⟨W3, h3, v3⟩ := v2.int 9 (by decide) 0 no [⟨1, kind, 0, noS⟩, ⟨3, tx, 0, noS⟩, ⟨3, no, 0, noS⟩, ⟨2, 0, 0, noS⟩, ⟨1, 0, 0, noS⟩, ⟨1, 0, 0, noS⟩, ⟨5, 0, 0, noS⟩] rfl rfl rfl
      have HH3 := hide h3
      obtain ⟨W4, h4, v4⟩ := v3.int 13 (by decide) 0 prev [⟨1, kind, 0, noS⟩, ⟨3, tx, 0, noS⟩, ⟨3, no, 0, noS⟩, ⟨2, prev, 0, noS⟩, ⟨1, 0, 0, noS⟩, ⟨1, 0, 0, noS⟩, ⟨5, 0, 0, noS⟩] rfl rfl rfl
      have HH4 := hide h4
      obtain ⟨W5, h5, v5⟩ := v4.int 17 (by decide) 0 page [⟨1, kind, 0, noS⟩, ⟨3, tx, 0, noS⟩, ⟨3, no, 0, noS⟩, ⟨2, prev, 0, noS⟩, ⟨1, page, 0, noS⟩, ⟨1, 0, 0, noS⟩, ⟨5, 0, 0, noS⟩] rfl rfl rfl
      have HH5 := hide h5
      obtain ⟨W6, h6, v6⟩ := v5.int 21 (by decide) 0 slot [⟨1, kind, 0, noS⟩, ⟨3, tx, 0, noS⟩, ⟨3, no, 0, noS⟩, ⟨2, prev, 0, noS⟩, ⟨1, page, 0, noS⟩, ⟨1, slot, 0, noS⟩, ⟨5, 0, 0, noS⟩] rfl rfl rfl
      have HH6 := hide h6
      have HLD := hide (load_un _ _ _ ⟨_, _, _, rfl⟩ _ v6.blk)
      have x0 := v0.blk.c3
      have x1 := v1.blk.c0
      have x2 := v2.blk.c1
      have x3 := v3.blk.c2
      have x4 := v4.blk.c4
      have x5 := v5.blk.c5
      have HV6 := hide v6
      simp only at x0 x1 x2 x3 x4 x5
      clear hown ho6 hl6 hXr hKr HK1 HX1 HO1 v0 v1 v2 v3 v4 v5 v6 h1 h2 h3 h4 h5 h6
      unfold Un.val at HLD
      simp only at HLD
      go_wp2_with (first | refine wpList_store _ rfl rfl 3 (.tmp 23) (.tmp 21) rfl (.pointer (some ⟨g, 1, none⟩)) (.int .i64 kind) rfl rfl W1 HH1.out ?_ | refine wpList_store _ rfl rfl 3 (.tmp 28) (.tmp 26) rfl (.pointer (some ⟨g, 5, none⟩)) (.int .i64 tx) rfl rfl W2 HH2.out ?_ | refine wpList_store _ rfl rfl 3 (.tmp 33) (.tmp 31) rfl (.pointer (some ⟨g, 9, none⟩)) (.int .i64 no) rfl rfl W3 HH3.out ?_ | refine wpList_store _ rfl rfl 3 (.tmp 38) (.tmp 36) rfl (.pointer (some ⟨g, 13, none⟩)) (.int .i64 prev) rfl rfl W4 HH4.out ?_ | refine wpList_store _ rfl rfl 3 (.tmp 43) (.tmp 41) rfl (.pointer (some ⟨g, 17, none⟩)) (.int .i64 page) rfl rfl W5 HH5.out ?_ | refine wpList_store _ rfl rfl 3 (.tmp 48) (.tmp 46) rfl (.pointer (some ⟨g, 21, none⟩)) (.int .i64 slot) rfl rfl W6 HH6.out ?_ | refine wpList_load _ rfl 30 (.tmp 1) rfl (.pointer (some ⟨w.heap.size, 0, none⟩)) (.agg #[.int .i64 tx, .int .i64 no, .int .i64 prev, .int .i64 kind, .int .i64 page, .int .i64 slot, .float .f64 r.key, .bool r.dead, .slice a len cap, .int .i64 r.wr, .int .i64 r.cell, .int .i64 r.no]) rfl HLD.out ?_)
      refine (HT.out _ HV6.out.below).mono ?_
      rintro e w2 ⟨rfl, hb2⟩
      obtain ⟨W7, h7, v7⟩ := (HV6.out.keep hb2).str 27 (by decide) noS (Un.text ⟨tx, no, prev, kind, page, slot, r⟩) (Un.items ⟨tx, no, prev, kind, page, slot, r⟩) rfl rfl rfl
      have HV7 := hide v7
      have HH7 := hide h7
      generalize Un.text ⟨tx, no, prev, kind, page, slot, r⟩ = tt at *
      clear hb2 HLD x0 x1 x2 x3 x4 x5 h7 v7
      go_wp2_with (refine wpList_store _ rfl rfl 9 (.tmp 53) (.tmp 51) rfl (.pointer (some ⟨g, 27, none⟩)) (.string tt) rfl rfl W7 HH7.out ?_)
      go_ret
      exact ⟨_, rfl, HV7.out.own, HV7.out.below⟩

set_option maxHeartbeats 4000000 in
set_option maxRecDepth 100000 in
theorem encodeU_any (u : Un) (a : Option Addr) (len cap : Nat) (w : World) (h : Fs w a len cap u.row.xs) (hf : u.fits) :
    Calls Try.prog 32 #[u.val (.slice a len cap)] w fun e w' => ∃ v, e = .returned (.tuple #[v, .int .i64 (chk u.may)]) ∧ Below w.heap.size w w' ∧ (u.may = true → Owns w' w.heap.size v u.bytes) ∧ (u.may = false → v = .slice none 0 0) := by
  have HC : Hid (∀ w', Below w.heap.size w w' → Calls Try.prog 49 #[u.val (.slice a len cap)] w' fun e w'' => e = .returned (.int .i64 (chk u.may)) ∧ Below w'.heap.size w' w'') := fun w' hb => checkU_any u a len cap w' (h.keep hb (Nat.le_refl _)) hf.row
  have HX := hide (unBlk_new w u (.slice a len cap))
  have HW : Hid (∀ o, Below w.heap.size w (w.alloc o)) := below_alloc w
  have H := hide h
  have HF := hide hf
  clear h hf
  cases hm : u.may
  · rw [hm] at HC
    unfold chk at HC ⊢
    unfold Un.val at HC ⊢
    go_enter Try.func32, Try.ntmps32
    go_wp2_with fail
    refine (HC.out _ (HW.out _)).mono ?_
    rintro e w1 ⟨rfl, hb1⟩
    have HW1 := hide (rBelow (HW.out _) hb1)
    clear hb1
    go_wp2_with fail
    go_ret2
    exact ⟨_, rfl, HW1.out, (fun h => by cases h), fun _ => rfl⟩
  · have HI : Hid (∀ w', Below w.heap.size w w' → Calls Try.prog 51 #[u.val (.slice a len cap)] w' fun e w'' => ∃ v, e = .returned v ∧ OwnsI w'' w'.heap.size v u.items ∧ Below w'.heap.size w' w'') := fun w' hb => itemsU_any u a len cap w' (H.out.keep hb (Nat.le_refl _)) HF.out.row (Un.row_may hm)
    have HM := hide hm
    rw [hm] at HC
    unfold chk at HC ⊢
    unfold Un.val at HC HI ⊢
    go_enter Try.func32, Try.ntmps32
    go_wp2_with fail
    refine (HC.out _ (HW.out _)).mono ?_
    rintro e w1 ⟨rfl, hb1⟩
    have HW1 := hide (rBelow (HW.out _) hb1)
    have HX1 := hide (HX.out.keep hb1)
    have x0 := HX1.out.c0
    have x1 := HX1.out.c1
    have x2 := HX1.out.c2
    have x3 := HX1.out.c3
    have x4 := HX1.out.c4
    have x5 := HX1.out.c5
    have x6 := HX1.out.c6
    have x7 := HX1.out.c7
    have x8 := HX1.out.c8
    have x9 := HX1.out.c9
    have x10 := HX1.out.c10
    have x11 := HX1.out.c11
    clear hb1
    go_wp2_with fail
    refine (HI.out _ HW1.out).mono ?_
    rintro e w2 ⟨v2, rfl, ho2, hb2⟩
    have HW2 := hide (rBelow HW1.out hb2)
    obtain ⟨a2, c2, hv2, is2, _⟩ := ho2.is (Un.items_fits HF.out (Nat.le_trans (Un.text_size HM.out) (by decide)))
    have hil : u.items.length = 7 := rfl
    rw [hil] at hv2 is2
    subst hv2
    have HP2 := hide (put_any a2 7 c2 u.items w2 is2 (by decide))
    rw [Un.items_may HM.out] at HP2
    unfold chk at HP2
    clear ho2 hb2 is2 hil x0 x1 x2 x3 x4 x5 x6 x7 x8 x9 x10 x11
    go_wp2_with fail
    refine HP2.out.mono ?_
    rintro e w3 ⟨v3, rfl, hb3, ho3, _⟩
    have HW3 := hide (rBelow HW2.out hb3)
    have HO3 := hide ((ho3 (by trivial)).lower HW2.out.size)
    clear hb3 ho3
    go_wp2_with fail
    go_ret2
    exact ⟨_, rfl, HW3.out, fun _ => HO3.out, fun h => by cases h⟩

theorem refPut_undo (u : Un) (hf : u.fits) (hm : u.may = true) (tx no prev kind page slot : Int) (s : ByteArray) (hi : u.items = [⟨1, kind, 0, noS⟩, ⟨3, tx, 0, noS⟩, ⟨3, no, 0, noS⟩, ⟨2, prev, 0, noS⟩, ⟨1, page, 0, noS⟩, ⟨1, slot, 0, noS⟩, ⟨5, 0, 0, s⟩]) (w : World) :
    Calls Try.prog 38 #[.slice (some ⟨w.heap.size, 0, none⟩) 7 7] (w.alloc (.cells #[.int .i64 1, .int .i64 kind, .float .f64 0, .string ⟨#[]⟩, .int .i64 3, .int .i64 tx, .float .f64 0, .string ⟨#[]⟩, .int .i64 3, .int .i64 no, .float .f64 0, .string ⟨#[]⟩, .int .i64 2, .int .i64 prev, .float .f64 0, .string ⟨#[]⟩, .int .i64 1, .int .i64 page, .float .f64 0, .string ⟨#[]⟩, .int .i64 1, .int .i64 slot, .float .f64 0, .string ⟨#[]⟩, .int .i64 5, .int .i64 0, .float .f64 0, .string s] 73)) fun e w' => ∃ v, e = .returned (.tuple #[v, .bool true]) ∧ Owns w' w.heap.size v u.bytes ∧ Below w.heap.size w w' := by
  have ho := OwnsI.lit w w.heap.size u.items (Nat.le_refl _) (by show 7 ≤ 1000000; decide)
  obtain ⟨a2, c2, hv2, is2, _⟩ := ho.is (Un.items_fits hf (Nat.le_trans (Un.text_size hm) (by decide)))
  have hil : u.items.length = 7 := rfl
  rw [hil] at hv2 is2
  simp only [Value.slice.injEq, true_and] at hv2
  obtain ⟨rfl, rfl⟩ := hv2
  have hp := refPut_any _ 7 7 u.items _ is2 (by decide)
  rw [Un.items_may hm] at hp
  have hb := below_alloc w (.cells (itVals u.items).toArray 73)
  have hw : w.alloc (.cells (itVals u.items).toArray 73) = w.alloc (.cells #[.int .i64 1, .int .i64 kind, .float .f64 0, .string ⟨#[]⟩, .int .i64 3, .int .i64 tx, .float .f64 0, .string ⟨#[]⟩, .int .i64 3, .int .i64 no, .float .f64 0, .string ⟨#[]⟩, .int .i64 2, .int .i64 prev, .float .f64 0, .string ⟨#[]⟩, .int .i64 1, .int .i64 page, .float .f64 0, .string ⟨#[]⟩, .int .i64 1, .int .i64 slot, .float .f64 0, .string ⟨#[]⟩, .int .i64 5, .int .i64 0, .float .f64 0, .string s] 73) := by
    rw [hi]
    rfl
  rw [hw] at hp hb
  refine hp.mono ?_
  rintro e w' ⟨v, rfl, hb', ho', _⟩
  exact ⟨v, rfl, (ho' rfl).lower hb.size, rBelow hb hb'⟩

set_option maxHeartbeats 4000000 in
set_option maxRecDepth 100000 in
theorem refBytesU_any (u : Un) (a : Option Addr) (len cap : Nat) (w : World) (h : Fs w a len cap u.row.xs) (hf : u.fits) (hm : u.may = true) :
    Calls Try.prog 24 #[u.val (.slice a len cap)] w fun e w' => ∃ v, e = .returned v ∧ Owns w' w.heap.size v u.bytes ∧ Below w.heap.size w w' := by
  have hkd := (Un.parts hm).kind
  have HX := hide (unBlk_new w u (.slice a len cap))
  have HP := hide (refPut_undo u hf hm)
  have HRM := hide (Un.row_may hm)
  generalize hbb : u.bytes = bb at *
  have HBB := hide hbb
  clear hbb
  have HU : Hid (u.items = [⟨1, u.kind, 0, noS⟩, ⟨3, u.tx, 0, noS⟩, ⟨3, u.no, 0, noS⟩, ⟨2, u.prev, 0, noS⟩, ⟨1, u.page, 0, noS⟩, ⟨1, u.slot, 0, noS⟩, ⟨5, 0, 0, u.text⟩]) := rfl
  have HTX : Hid (u.text = if u.kind = 1 then noS else bstr u.row.bytes) := rfl
  generalize u.text = tt at *
  generalize u.items = ii at *
  obtain ⟨tx, no, prev, kind, page, slot, r⟩ := u
  simp only at h hkd HX HP HRM HU HTX
  have HW := hide (below_alloc w (.cells #[.int .i64 tx, .int .i64 no, .int .i64 prev, .int .i64 kind, .int .i64 page, .int .i64 slot, .float .f64 r.key, .bool r.dead, .slice a len cap, .int .i64 r.wr, .int .i64 r.cell, .int .i64 r.no] 30))
  unfold Un.val
  simp only
  rcases hkd with ⟨rfl, hz⟩ | ⟨rfl, hz⟩
  · clear hz
    have htt : tt = ⟨#[]⟩ := HTX.out.trans (if_pos rfl)
    subst htt
    have HP1 := hide (HP.out tx no prev 1 page slot _ HU.out (w.alloc (.cells #[.int .i64 tx, .int .i64 no, .int .i64 prev, .int .i64 1, .int .i64 page, .int .i64 slot, .float .f64 r.key, .bool r.dead, .slice a len cap, .int .i64 r.wr, .int .i64 r.cell, .int .i64 r.no] 30)))
    have hsz : (w.alloc (.cells #[.int .i64 tx, .int .i64 no, .int .i64 prev, .int .i64 1, .int .i64 page, .int .i64 slot, .float .f64 r.key, .bool r.dead, .slice a len cap, .int .i64 r.wr, .int .i64 r.cell, .int .i64 r.no] 30)).heap.size = w.heap.size + 1 := by simp
    rw [hsz] at HP1
    clear HP HU HTX h hf hm hsz
    go_enter Try.func24, Try.ntmps24
    go_wp2_with fail
    refine HP1.out.mono ?_
    rintro e w1 ⟨v1, rfl, ho1, hb1⟩
    have HW1 := hide (HW.out.trans (hb1.mono (Nat.le_succ _)))
    have HO1 := hide (ho1.lower (Nat.le_succ w.heap.size))
    clear hb1 ho1
    go_wp2_with fail
    go_ret
    exact ⟨_, rfl, HO1.out, HW1.out⟩
  · clear hz
    have htt : tt = bstr r.bytes := HTX.out.trans rfl
    subst htt
    have HR := hide (refBytes_any r a len cap _ (h.keep HW.out (Nat.le_refl _)) hf.row HRM.out)
    have HRB := hide (bytes_bytes HRM.out)
    unfold Rw.val at HR
    clear HTX h hf hm
    go_enter Try.func24, Try.ntmps24
    go_wp2_with fail
    refine HR.out.mono ?_
    rintro e w1 ⟨v1, rfl, ho1, hb1⟩
    have HW1 := hide (rBelow HW.out hb1)
    have HX1 := hide (HX.out.keep hb1)
    obtain ⟨a1, c1, rfl, hbs1, _⟩ := ho1.bs HRB.out
    obtain ⟨n1, hn1⟩ : ∃ n, r.bytes.length = n := ⟨_, rfl⟩
    rw [hn1] at hbs1 ⊢
    have hcv : (convert 32 9 (.slice a1 n1 c1)).run Try.prog w1 = .ok (.string (bstr r.bytes)) w1 := run_string_of c1 hbs1
    have HP1 := hide (HP.out tx no prev 2 page slot _ HU.out w1)
    generalize bstr r.bytes = tt at *
    have x0 := HX1.out.c0
    have x1 := HX1.out.c1
    have x2 := HX1.out.c2
    have x3 := HX1.out.c3
    have x4 := HX1.out.c4
    have x5 := HX1.out.c5
    simp only at x0 x1 x2 x3 x4 x5
    clear hb1 ho1 hbs1 hn1 HP HU HR HX
    go_wp2_with (refine wpList_conv _ rfl 32 9 (.tmp 11) rfl (.slice a1 n1 c1) (.string tt) rfl _ hcv ?_)
    refine HP1.out.mono ?_
    rintro e w2 ⟨v2, rfl, ho2, hb2⟩
    have HW2 := hide (rBelow HW1.out hb2)
    have HO2 := hide (ho2.lower HW1.out.size)
    clear hb2 ho2 x0 x1 x2 x3 x4 x5
    go_wp2_with fail
    go_ret
    exact ⟨_, rfl, HO2.out, HW2.out⟩

end Go.Proofs.Ytnhhapipadiffaa
