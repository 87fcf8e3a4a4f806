/-
  A row's bytes: row's own Encode, and the document's Bytes.
-/
import Derived.Test.YtnhhapipadiffaaRowC
namespace Go.Proofs.Ytnhhapipadiffaa
open Go.RowKit

/-- A row's bytes. -/
def Rw.bytes (r : Rw) : List Nat := putB r.items

theorem Rw.may_parts {r : Rw} (h : r.may = true) : r.key = Fl.key r.key ∧ r.xs.length ≤ 4 ∧ (r.dead = true → r.xs = []) ∧ (∀ x ∈ r.xs, x = Fl.val x) ∧ (0 ≤ r.wr ∧ r.wr < 2147483648) ∧ (0 ≤ r.cell ∧ r.cell < 65536) ∧ (0 ≤ r.no ∧ r.no < 2147483648) ∧ (0 < r.cell ∨ r.no = 0) := by
  rw [may_ref] at h
  unfold haveB at h
  simp at h
  obtain ⟨⟨h1, ⟨h2, h3⟩, h4⟩, ⟨⟨⟨⟨⟨h5, h6⟩, h7⟩, h8⟩, h9⟩, h10⟩, h11⟩ := h
  refine ⟨h1, h2, fun hd => ?_, h4, ⟨h5, h6⟩, ⟨h7, h8⟩, ⟨h9, h10⟩, h11⟩
  rcases h3 with h3 | h3
  · rw [h3] at hd; cases hd
  · exact h3

theorem num_may (x : Nat) : (numI x).may = true := by simp [numI, It.may, noS_list]

theorem items_may {r : Rw} (h : r.may = true) : r.items.all It.may = true := by
  obtain ⟨_, h2, _, _, h5, h7, h9, _⟩ := Rw.may_parts h
  unfold Rw.items Rw.head
  rw [List.all_append]
  have e : (r.xs.map numI).all It.may = true := by
    rw [List.all_eq_true]
    intro i hi
    obtain ⟨x, _, rfl⟩ := List.mem_map.1 hi
    exact num_may x
  rw [e]
  simp [It.may, noS_list, h5.1, h5.2, h7.1, h7.2, h9.1, h9.2]
  refine ⟨?_, by omega⟩
  cases r.dead <;> simp

theorem items_fits {r : Rw} (hf : r.fits) (h4 : r.xs.length ≤ 4) : ∀ i ∈ r.items, i.fits := by
  have f0 : (Lit.int .i64 0).wf = true := fits_i64 (n := 0) (by decide) (by decide)
  have f1 : (Lit.int .i64 1).wf = true := fits_i64 (n := 1) (by decide) (by decide)
  have f2 : (Lit.int .i64 2).wf = true := fits_i64 (n := 2) (by decide) (by decide)
  have f3 : (Lit.int .i64 3).wf = true := fits_i64 (n := 3) (by decide) (by decide)
  have f4 : (Lit.int .i64 4).wf = true := fits_i64 (n := 4) (by decide) (by decide)
  have g0 : (0 : Nat) < 18446744073709551616 := by decide
  have s0 : noS.size ≤ maxLen := Nat.zero_le _
  intro i hi
  unfold Rw.items Rw.head at hi
  simp only [List.mem_append, List.mem_cons, List.not_mem_nil, or_false] at hi
  rcases hi with (rfl | rfl | rfl | rfl | rfl | rfl) | hi
  · refine ⟨f1, ?_, g0, s0⟩
    cases r.dead
    · exact f0
    · exact f1
  · exact ⟨f4, f0, hf.key, s0⟩
  · exact ⟨f3, hf.wr, g0, s0⟩
  · exact ⟨f2, hf.cell, g0, s0⟩
  · exact ⟨f3, hf.no, g0, s0⟩
  · exact ⟨f1, fits_i64 (n := (r.xs.length : Nat)) (by omega) (by omega), g0, s0⟩
  · obtain ⟨x, hx, rfl⟩ := List.mem_map.1 hi
    exact num_fits x (hf.xs x hx)

theorem items_len (r : Rw) : r.items.length = 6 + r.xs.length := by simp [Rw.items, Rw.head]; omega

theorem nums_len : ∀ xs : List Nat, (putB (xs.map numI)).length = 8 * xs.length
  | [] => rfl
  | x :: r => by
    have := nums_len r
    simp only [putB, List.map_cons, List.flatMap_cons, List.length_append, List.length_cons] at *
    rw [this]
    simp [numI, It.bytes, bigB_length]
    omega

theorem bytes_len (r : Rw) : r.bytes.length = 20 + 8 * r.xs.length := by
  unfold Rw.bytes Rw.items
  have e : putB (r.head ++ r.xs.map numI) = putB r.head ++ putB (r.xs.map numI) := by simp [putB]
  rw [e, List.length_append, nums_len]
  simp [putB, Rw.head, It.bytes, bigB_length]

theorem OwnsI.lit (w : World) (base : Nat) (l : List It) (hb : base ≤ w.heap.size) (hm : l.length ≤ 1000000) : OwnsI (w.alloc (.cells (itVals l).toArray 73)) base (.slice (some ⟨w.heap.size, 0, none⟩) l.length l.length) l := by
  have := World.ownsRow_lit (base := base) (e := 73) (size := 4) w (itVals l).toArray l.length hb (by unfold maxLen; omega) (by simp [itVals_length])
  simpa [OwnsI] using this

theorem bytes_bytes {r : Rw} (h : r.may = true) : Bytes r.bytes := (putB_len (List.all_eq_true.1 (items_may h))).2

set_option maxHeartbeats 2000000 in
theorem encode_any (r : Rw) (a : Option Addr) (len cap : Nat) (w : World) (h : Fs w a len cap r.xs) (hf : r.fits) :
    Calls Try.prog 78 #[r.val (.slice a len cap)] w fun e w' => ∃ v, e = .returned (.tuple #[v, .int .i64 (chk r.may)]) ∧ Below w.heap.size w w' ∧ (r.may = true → Owns w' w.heap.size v r.bytes) ∧ (r.may = false → v = .slice none 0 0) := by
  have HC : Hid (∀ w', Below w.heap.size w w' → Calls Try.prog 73 #[r.val (.slice a len cap)] w' fun e w'' => e = .returned (.int .i64 (chk r.may)) ∧ Below w'.heap.size w' w'') := fun w' hb => checkRow_any r a len cap w' (h.keep hb (Nat.le_refl _)) hf
  have HX := hide (rwBlk_new w r (.slice a len cap))
  have HW : Hid (∀ o, Below w.heap.size w (w.alloc o)) := below_alloc w
  have H := hide h
  have HF := hide hf
  clear h hf
  cases hm : r.may
  · rw [hm] at HC
    unfold chk at HC ⊢
    unfold Rw.val at HC ⊢
    go_enter Try.func78, Try.ntmps78
    go_wp2_with fail
    refine (HC.out _ (HW.out _)).mono ?_
    rintro e w1 ⟨rfl, hb1⟩
    have HW1 := hide (rBelow (HW.out _) hb1)
    clear hb1
    go_wp2_with fail
    go_ret2
    exact ⟨_, rfl, HW1.out, (fun h => by cases h), fun _ => rfl⟩
  · have hp := Rw.may_parts hm
    have HL4 : Hid (len ≤ 4) := by have := hp.2.1; rw [H.out.len] at this; exact this
    have HI : Hid (∀ w', Below w.heap.size w w' → Calls Try.prog 92 #[r.val (.slice a len cap)] w' fun e w'' => ∃ v, e = .returned v ∧ OwnsI w'' w'.heap.size v r.items ∧ Below w'.heap.size w' w'') := fun w' hb => items_any r a len cap w' (H.out.keep hb (Nat.le_refl _)) HL4.out
    have HM := hide hm
    have HP := hide hp
    rw [hm] at HC
    clear hp
    unfold chk at HC ⊢
    unfold Rw.val at HC HI ⊢
    go_enter Try.func78, Try.ntmps78
    go_wp2_with fail
    refine (HC.out _ (HW.out _)).mono ?_
    rintro e w1 ⟨rfl, hb1⟩
    have HW1 := hide (rBelow (HW.out _) hb1)
    have HX1 := hide (HX.out.keep hb1)
    have x0 := HX1.out.c0
    have x1 := HX1.out.c1
    have x2 := HX1.out.c2
    have x3 := HX1.out.c3
    have x4 := HX1.out.c4
    have x5 := HX1.out.c5
    clear hb1
    go_wp2_with fail
    refine (HI.out _ HW1.out).mono ?_
    rintro e w2 ⟨v2, rfl, ho2, hb2⟩
    have HW2 := hide (rBelow HW1.out hb2)
    obtain ⟨a2, c2, hv2, is2, _⟩ := ho2.is (items_fits HF.out HP.out.2.1)
    have hil := items_len r
    obtain ⟨n2, hn2⟩ : ∃ n, r.items.length = n := ⟨_, rfl⟩
    rw [hn2] at hv2 is2 hil
    subst hv2
    have HP2 := hide (put_any a2 n2 c2 r.items w2 is2 (by have := HP.out.2.1; omega))
    rw [items_may HM.out] at HP2
    unfold chk at HP2
    clear ho2 hb2 is2 hil hn2 x0 x1 x2 x3 x4 x5
    go_wp2_with fail
    refine HP2.out.mono ?_
    rintro e w3 ⟨v3, rfl, hb3, ho3, _⟩
    have HW3 := hide (rBelow HW2.out hb3)
    have HO3 := hide ((ho3 (by trivial)).lower HW2.out.size)
    clear hb3 ho3
    go_wp2_with fail
    go_ret2
    exact ⟨_, rfl, HW3.out, fun _ => HO3.out, fun h => by cases h⟩

set_option maxHeartbeats 4000000 in
set_option maxRecDepth 100000 in
theorem refBytes_any (r : Rw) (a : Option Addr) (len cap : Nat) (w : World) (h : Fs w a len cap r.xs) (hf : r.fits) (hm : r.may = true) :
    Calls Try.prog 37 #[r.val (.slice a len cap)] w fun e w' => ∃ v, e = .returned v ∧ Owns w' w.heap.size v r.bytes ∧ Below w.heap.size w w' := by
  have h4 : len ≤ 4 := by have := (Rw.may_parts hm).2.1; rw [h.len] at this; exact this
  have HM := hide hm
  have HF := hide hf
  obtain ⟨key, dead, xs, wt, cell, no⟩ := r
  have H := hide h
  have HL := hide h.len
  have HX := hide (rwBlk_new w ⟨key, dead, xs, wt, cell, no⟩ (.slice a len cap))
  clear h hf hm
  simp only at HX HL H
  unfold Rw.val
  simp only
  cases dead
  · have HOf := hide (OwnsI.lit (w.alloc (.cells #[.float .f64 key, .bool false, .slice a len cap, .int .i64 wt, .int .i64 cell, .int .i64 no] 28)) w.heap.size [⟨1, 0, 0, noS⟩, ⟨4, 0, key, noS⟩, ⟨3, wt, 0, noS⟩, ⟨2, cell, 0, noS⟩, ⟨3, no, 0, noS⟩, ⟨1, (len : Nat), 0, noS⟩] (by simp) (by simp))
    have HWf := hide (below_two w (.cells #[.float .f64 key, .bool false, .slice a len cap, .int .i64 wt, .int .i64 cell, .int .i64 no] 28) (.cells (itVals [⟨1, 0, 0, noS⟩, ⟨4, 0, key, noS⟩, ⟨3, wt, 0, noS⟩, ⟨2, cell, 0, noS⟩, ⟨3, no, 0, noS⟩, ⟨1, (len : Nat), 0, noS⟩]).toArray 73))
    have HXf := hide (HX.out.keep (below_alloc (w.alloc (.cells #[.float .f64 key, .bool false, .slice a len cap, .int .i64 wt, .int .i64 cell, .int .i64 no] 28)) (.cells (itVals [⟨1, 0, 0, noS⟩, ⟨4, 0, key, noS⟩, ⟨3, wt, 0, noS⟩, ⟨2, cell, 0, noS⟩, ⟨3, no, 0, noS⟩, ⟨1, (len : Nat), 0, noS⟩]).toArray 73)))
    have hsz : (w.alloc (.cells #[.float .f64 key, .bool false, .slice a len cap, .int .i64 wt, .int .i64 cell, .int .i64 no] 28)).heap.size = w.heap.size + 1 := by simp
    rw [hsz] at HOf
    clear hsz HX
    go_enter Try.func37, Try.ntmps37
    go_wp2_with fail
    go_loopw [4, 5] (fun v i wr' => ∃ k : Nat, k ≤ len ∧ i = .int .i64 k ∧ Hid (OwnsI wr' w.heap.size v ([⟨1, 0, 0, noS⟩, ⟨4, 0, key, noS⟩, ⟨3, wt, 0, noS⟩, ⟨2, cell, 0, noS⟩, ⟨3, no, 0, noS⟩, ⟨1, (len : Nat), 0, noS⟩] ++ (xs.map numI).take k)) ∧ Hid (Below w.heap.size w wr') ∧ Hid (RwBlk wr' w.heap.size ⟨key, false, xs, wt, cell, no⟩ (.slice a len cap))) (fun _ i _ => len - (intOf i).toNat)
    case atStart => exact ⟨0, by omega, rfl, HOf, HWf, HXf⟩
    case round =>
      obtain ⟨k, hk, rfl, hown, hWr, hXr⟩ := hrel
      have x2 := hXr.out.c2
      rcases Nat.lt_or_ge k len with hlt | hge
      · obtain ⟨b, off, rfl, hc, hmem, hx⟩ := (H.out.keep hWr.out (Nat.le_refl _)).at k hlt
        obtain ⟨x, hxe⟩ : ∃ x, x = xs.getD k 0 := ⟨_, rfl⟩
        rw [← hxe] at hc hmem hx
        have HXE := hide hxe
        have HOk := hide (hown.out.keep (below_alloc wr (.cells #[.int .i64 4, .int .i64 0, .float .f64 x, .string ⟨#[]⟩] 73)) (Nat.le_refl _))
        have HWk := hide (rBelow hWr.out (below_alloc wr (.cells #[.int .i64 4, .int .i64 0, .float .f64 x, .string ⟨#[]⟩] 73)))
        have HXk := hide (hXr.out.keep (below_alloc wr (.cells #[.int .i64 4, .int .i64 0, .float .f64 x, .string ⟨#[]⟩] 73)))
        have HI := hide (is_one wr (numI x) (num_fits x hx))
        unfold numI noS at HI
        simp only at HI
        have HLEN : Hid ((([⟨1, 0, 0, noS⟩, ⟨4, 0, key, noS⟩, ⟨3, wt, 0, noS⟩, ⟨2, cell, 0, noS⟩, ⟨3, no, 0, noS⟩, ⟨1, (len : Nat), 0, noS⟩] : List It) ++ (xs.map numI).take k).length + 1 ≤ 1000000) := by show _ ≤ _; simp; omega
        clear hxe hmem hx
        go_wp2_with (at_builtin; refine wpList_append_items _ rfl (.tmp 38) (.tmp 45) rfl w.heap.size _ _ rfl HOk.out _ _ _ _ rfl HI.out (fun h => by cases h) HLEN.out HWk.out.size ?_)
        intro v7 w7 ho7 hb7 hs7
        have HO7 := hide ho7
        have HW7 := hide (HWk.out.trans hb7)
        have HX7 := hide (HXk.out.stayI hs7)
        clear ho7 hb7 hs7 HOk HI HLEN HXk x2
        go_wp2
        go_roundw
        case rel =>
          have hk' : k < xs.length := by rw [HL.out]; exact hlt
          refine ⟨k + 1, by omega, by go_num, ?_, HW7, HX7⟩
          have e : (xs.map numI).take (k + 1) = (xs.map numI).take k ++ [⟨4, 0, x, ⟨#[]⟩⟩] := by
            rw [List.take_succ_eq_append_getElem (by simpa using hk'), HXE.out]
            simp [numI, noS, List.getD, hk']
          rw [e, ← List.append_assoc]
          exact HO7
        case measure => simp only [intOf]; omega
      · have htk : (xs.map numI).take k = xs.map numI := List.take_of_length_le (by rw [List.length_map, HL.out]; omega)
        rw [htk] at hown
        have hoi : OwnsI wr w.heap.size u4 (Rw.items ⟨key, false, xs, wt, cell, no⟩) := by
          have e : Rw.items ⟨key, false, xs, wt, cell, no⟩ = [⟨1, 0, 0, noS⟩, ⟨4, 0, key, noS⟩, ⟨3, wt, 0, noS⟩, ⟨2, cell, 0, noS⟩, ⟨3, no, 0, noS⟩, ⟨1, (len : Nat), 0, noS⟩] ++ xs.map numI := by
            unfold Rw.items Rw.head
            simp only [HL.out]
            rfl
          rw [e]
          exact hown.out
        obtain ⟨a2, c2, hv2, is2, _⟩ := hoi.is (items_fits HF.out (by show xs.length ≤ 4; rw [HL.out]; exact h4))
        have hil : (Rw.items ⟨key, false, xs, wt, cell, no⟩).length = 6 + xs.length := items_len _
        obtain ⟨n2, hn2⟩ : ∃ n, (Rw.items ⟨key, false, xs, wt, cell, no⟩).length = n := ⟨_, rfl⟩
        rw [hn2] at hv2 is2 hil
        subst hv2
        have HP2 := hide (refPut_any a2 n2 c2 _ wr is2 (by rw [HL.out] at hil; omega))
        rw [items_may HM.out] at HP2
        clear htk hown hoi is2 hil hn2
        go_wp2_with fail
        refine HP2.out.mono ?_
        rintro e w8 ⟨v8, rfl, hb8, ho8, _⟩
        have HW8 := hide (rBelow hWr.out hb8)
        have HO8 := hide ((ho8 (by trivial)).lower hWr.out.size)
        clear hb8 ho8 x2
        go_wp2_with fail
        go_ret
        exact ⟨_, rfl, HO8.out, HW8.out⟩
  · have HOf := hide (OwnsI.lit (w.alloc (.cells #[.float .f64 key, .bool true, .slice a len cap, .int .i64 wt, .int .i64 cell, .int .i64 no] 28)) w.heap.size [⟨1, 1, 0, noS⟩, ⟨4, 0, key, noS⟩, ⟨3, wt, 0, noS⟩, ⟨2, cell, 0, noS⟩, ⟨3, no, 0, noS⟩, ⟨1, (len : Nat), 0, noS⟩] (by simp) (by simp))
    have HWf := hide (below_two w (.cells #[.float .f64 key, .bool true, .slice a len cap, .int .i64 wt, .int .i64 cell, .int .i64 no] 28) (.cells (itVals [⟨1, 1, 0, noS⟩, ⟨4, 0, key, noS⟩, ⟨3, wt, 0, noS⟩, ⟨2, cell, 0, noS⟩, ⟨3, no, 0, noS⟩, ⟨1, (len : Nat), 0, noS⟩]).toArray 73))
    have HXf := hide (HX.out.keep (below_alloc (w.alloc (.cells #[.float .f64 key, .bool true, .slice a len cap, .int .i64 wt, .int .i64 cell, .int .i64 no] 28)) (.cells (itVals [⟨1, 1, 0, noS⟩, ⟨4, 0, key, noS⟩, ⟨3, wt, 0, noS⟩, ⟨2, cell, 0, noS⟩, ⟨3, no, 0, noS⟩, ⟨1, (len : Nat), 0, noS⟩]).toArray 73)))
    have hsz : (w.alloc (.cells #[.float .f64 key, .bool true, .slice a len cap, .int .i64 wt, .int .i64 cell, .int .i64 no] 28)).heap.size = w.heap.size + 1 := by simp
    rw [hsz] at HOf
    clear hsz HX
    go_enter Try.func37, Try.ntmps37
    go_wp2_with fail
    go_loopw [4, 5] (fun v i wr' => ∃ k : Nat, k ≤ len ∧ i = .int .i64 k ∧ Hid (OwnsI wr' w.heap.size v ([⟨1, 1, 0, noS⟩, ⟨4, 0, key, noS⟩, ⟨3, wt, 0, noS⟩, ⟨2, cell, 0, noS⟩, ⟨3, no, 0, noS⟩, ⟨1, (len : Nat), 0, noS⟩] ++ (xs.map numI).take k)) ∧ Hid (Below w.heap.size w wr') ∧ Hid (RwBlk wr' w.heap.size ⟨key, true, xs, wt, cell, no⟩ (.slice a len cap))) (fun _ i _ => len - (intOf i).toNat)
    case atStart => exact ⟨0, by omega, rfl, HOf, HWf, HXf⟩
    case round =>
      obtain ⟨k, hk, rfl, hown, hWr, hXr⟩ := hrel
      have x2 := hXr.out.c2
      rcases Nat.lt_or_ge k len with hlt | hge
      · obtain ⟨b, off, rfl, hc, hmem, hx⟩ := (H.out.keep hWr.out (Nat.le_refl _)).at k hlt
        obtain ⟨x, hxe⟩ : ∃ x, x = xs.getD k 0 := ⟨_, rfl⟩
        rw [← hxe] at hc hmem hx
        have HXE := hide hxe
        have HOk := hide (hown.out.keep (below_alloc wr (.cells #[.int .i64 4, .int .i64 0, .float .f64 x, .string ⟨#[]⟩] 73)) (Nat.le_refl _))
        have HWk := hide (rBelow hWr.out (below_alloc wr (.cells #[.int .i64 4, .int .i64 0, .float .f64 x, .string ⟨#[]⟩] 73)))
        have HXk := hide (hXr.out.keep (below_alloc wr (.cells #[.int .i64 4, .int .i64 0, .float .f64 x, .string ⟨#[]⟩] 73)))
        have HI := hide (is_one wr (numI x) (num_fits x hx))
        unfold numI noS at HI
        simp only at HI
        have HLEN : Hid ((([⟨1, 1, 0, noS⟩, ⟨4, 0, key, noS⟩, ⟨3, wt, 0, noS⟩, ⟨2, cell, 0, noS⟩, ⟨3, no, 0, noS⟩, ⟨1, (len : Nat), 0, noS⟩] : List It) ++ (xs.map numI).take k).length + 1 ≤ 1000000) := by show _ ≤ _; simp; omega
        clear hxe hmem hx
        go_wp2_with (at_builtin; refine wpList_append_items _ rfl (.tmp 38) (.tmp 45) rfl w.heap.size _ _ rfl HOk.out _ _ _ _ rfl HI.out (fun h => by cases h) HLEN.out HWk.out.size ?_)
        intro v7 w7 ho7 hb7 hs7
        have HO7 := hide ho7
        have HW7 := hide (HWk.out.trans hb7)
        have HX7 := hide (HXk.out.stayI hs7)
        clear ho7 hb7 hs7 HOk HI HLEN HXk x2
        go_wp2
        go_roundw
        case rel =>
          have hk' : k < xs.length := by rw [HL.out]; exact hlt
          refine ⟨k + 1, by omega, by go_num, ?_, HW7, HX7⟩
          have e : (xs.map numI).take (k + 1) = (xs.map numI).take k ++ [⟨4, 0, x, ⟨#[]⟩⟩] := by
            rw [List.take_succ_eq_append_getElem (by simpa using hk'), HXE.out]
            simp [numI, noS, List.getD, hk']
          rw [e, ← List.append_assoc]
          exact HO7
        case measure => simp only [intOf]; omega
      · have htk : (xs.map numI).take k = xs.map numI := List.take_of_length_le (by rw [List.length_map, HL.out]; omega)
        rw [htk] at hown
        have hoi : OwnsI wr w.heap.size u4 (Rw.items ⟨key, true, xs, wt, cell, no⟩) := by
          have e : Rw.items ⟨key, true, xs, wt, cell, no⟩ = [⟨1, 1, 0, noS⟩, ⟨4, 0, key, noS⟩, ⟨3, wt, 0, noS⟩, ⟨2, cell, 0, noS⟩, ⟨3, no, 0, noS⟩, ⟨1, (len : Nat), 0, noS⟩] ++ xs.map numI := by
            unfold Rw.items Rw.head
            simp only [HL.out]
            rfl
          rw [e]
          exact hown.out
        obtain ⟨a2, c2, hv2, is2, _⟩ := hoi.is (items_fits HF.out (by show xs.length ≤ 4; rw [HL.out]; exact h4))
        have hil : (Rw.items ⟨key, true, xs, wt, cell, no⟩).length = 6 + xs.length := items_len _
        obtain ⟨n2, hn2⟩ : ∃ n, (Rw.items ⟨key, true, xs, wt, cell, no⟩).length = n := ⟨_, rfl⟩
        rw [hn2] at hv2 is2 hil
        subst hv2
        have HP2 := hide (refPut_any a2 n2 c2 _ wr is2 (by rw [HL.out] at hil; omega))
        rw [items_may HM.out] at HP2
        clear htk hown hoi is2 hil hn2
        go_wp2_with fail
        refine HP2.out.mono ?_
        rintro e w8 ⟨v8, rfl, hb8, ho8, _⟩
        have HW8 := hide (rBelow hWr.out hb8)
        have HO8 := hide ((ho8 (by trivial)).lower hWr.out.size)
        clear hb8 ho8 x2
        go_wp2_with fail
        go_ret
        exact ⟨_, rfl, HO8.out, HW8.out⟩

end Go.Proofs.Ytnhhapipadiffaa
