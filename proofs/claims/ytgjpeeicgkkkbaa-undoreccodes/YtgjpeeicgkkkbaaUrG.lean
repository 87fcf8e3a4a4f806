/-
  An undoing is read back: awake; and the law of which undoings are alike: its walk.
-/
import Derived.Test.YtgjpeeicgkkkbaaUrF
namespace Go.Proofs.Ytgjpeeicgkkkbaa
open Go.RowKit

/-- Bytes of an undoing that may be, told. -/
structure Enc (w : World) (a : Option Addr) (n cap : Nat) (u : Un) : Prop where
  came : Came w a n cap u.bytes
  len : n = u.bytes.length
  few : n ≤ 66

theorem Enc.keep {w w' : World} {a : Option Addr} {n cap : Nat} {u : Un} (h : Enc w a n cap u) (hb : Below w.heap.size w w') : Enc w' a n cap u := ⟨h.came.keep hb (Nat.le_refl _), h.len, h.few⟩

theorem encodeU_yes (u : Un) (a : Option Addr) (len cap : Nat) (w : World) (h : Fs w a len cap u.row.xs) (hf : u.fits) (hm : u.may = true) :
    Calls Try.prog 8 #[u.val (.slice a len cap)] w fun e w' => ∃ (x : Option Addr) (n c : Nat), e = .returned (.tuple #[.slice x n c, .int .i64 0]) ∧ Below w.heap.size w w' ∧ Enc w' x n c u := by
  refine (encodeU_any u a len cap w h hf).mono ?_
  rintro e w' ⟨v, rfl, hb, ho, _⟩
  have h66 := Un.bytes_66 hm
  obtain ⟨x, c, rfl, hc⟩ := (ho hm).cameN (Un.bytes_bytes hm) rfl (by omega)
  rw [hm]
  exact ⟨x, _, c, rfl, hb, hc, rfl, h66⟩

theorem encodeU_no (u : Un) (a : Option Addr) (len cap : Nat) (w : World) (h : Fs w a len cap u.row.xs) (hf : u.fits) (hm : u.may = false) :
    Calls Try.prog 8 #[u.val (.slice a len cap)] w fun e w' => e = .returned (.tuple #[.slice none 0 0, .int .i64 1]) ∧ Below w.heap.size w w' := by
  refine (encodeU_any u a len cap w h hf).mono ?_
  rintro e w' ⟨v, rfl, hb, _, hn⟩
  rw [hm, hn hm]
  exact ⟨rfl, hb⟩

theorem decodeU_yes (u : Un) (hf : u.fits) (hm : u.may = true) (x : Option Addr) (n c : Nat) (w : World) (h : Enc w x n c u) :
    Calls Try.prog 11 #[.slice x n c] w fun e w' => ∃ (a : Option Addr) (len cap : Nat), e = .returned (.tuple #[u.val (.slice a len cap), .int .i64 0]) ∧ Below w.heap.size w w' ∧ Fs w' a len cap u.row.xs := by
  refine (decodeU_any x n c u.bytes w h.came (by have := h.few; omega)).mono ?_
  rintro e w' ⟨hb, _, hy⟩
  obtain ⟨_, a, len, cap, rfl, hfs, _⟩ := hy u (dec_undo hm hf)
  exact ⟨a, len, cap, rfl, hb, hfs⟩

/-- A box for an undoing. -/
theorem box_un (w : World) (u : Un) (a : Option Addr) (len cap : Nat) : ∃ W, (Instr.storeAt 29 (.pointer (some ⟨w.heap.size, 0, none⟩)) (u.val (.slice a len cap))).run Try.prog (w.alloc (.cells #[.int .i64 0, .int .i64 0, .int .i64 0, .int .i64 0, .int .i64 0, .int .i64 0, .float .f64 0, .bool false, .slice none 0 0, .int .i64 0, .int .i64 0, .int .i64 0] 29)) = .ok () W ∧ UnBlk W w.heap.size u (.slice a len cap) ∧ Below w.heap.size w W :=
  ⟨setUn (w.alloc (.cells #[.int .i64 0, .int .i64 0, .int .i64 0, .int .i64 0, .int .i64 0, .int .i64 0, .float .f64 0, .bool false, .slice none 0 0, .int .i64 0, .int .i64 0, .int .i64 0] 29)) w.heap.size u (.slice a len cap), st_un _ _ zeroU (.slice none 0 0) (unBlk_new w zeroU (.slice none 0 0)) u a len cap, setUn_blk (unBlk_new w zeroU (.slice none 0 0)) u _, setUn_below (below_alloc w _) (Nat.le_refl _) u _⟩

set_option maxHeartbeats 4000000 in
set_option maxRecDepth 100000 in
theorem awakeU_any (w : World) : Calls Try.prog 7 #[] w fun e w' => e = .returned (.bool true) ∧ Below w.heap.size w w' := by
  have HE : Hid (Calls Try.prog 8 #[.agg #[.int .i64 1, .int .i64 2, .int .i64 0, .int .i64 1, .int .i64 3, .int .i64 0, .float .f64 0, .bool false, .slice none 0 0, .int .i64 0, .int .i64 0, .int .i64 0]] w fun e w' => ∃ (x : Option Addr) (n c : Nat), e = .returned (.tuple #[.slice x n c, .int .i64 0]) ∧ Below w.heap.size w w' ∧ Enc w' x n c oneUn) := encodeU_yes oneUn none 0 0 w (fs_nil w) oneUn_fits oneUn_may
  go_enter Try.func7, Try.ntmps7
  go_wp2_with fail
  refine HE.out.mono ?_
  rintro e w1 ⟨x, n, c, rfl, hb1, henc⟩
  have hn : n = 14 := henc.len.trans oneUn_len
  subst hn
  have HW1 := hide hb1
  have HD := hide (decodeU_yes oneUn oneUn_fits oneUn_may x 14 c w1 henc)
  clear hb1 henc HE
  go_wp2_with fail
  refine HD.out.mono ?_
  rintro e w2 ⟨ra, rl, rc, rfl, hb2, _⟩
  have HW2 := hide (rBelow HW1.out hb2)
  obtain ⟨W, hst, hblk, hbw⟩ := box_un w2 oneUn ra rl rc
  have HST := hide hst
  have HW3 := hide (rBelow HW2.out hbw)
  have x1 := hblk.c1
  have x4 := hblk.c4
  unfold oneUn at x1 x4
  simp only at x1 x4
  generalize hov : oneUn.val (.slice ra rl rc) = ov at *
  clear hb2 hst hblk hbw HD hov
  go_wp2_with (first | refine wpList_alloc _ rfl 29 rfl (.pointer (some ⟨w2.heap.size, 0, none⟩)) (w2.alloc (.cells #[.int .i64 0, .int .i64 0, .int .i64 0, .int .i64 0, .int .i64 0, .int .i64 0, .float .f64 0, .bool false, .slice none 0 0, .int .i64 0, .int .i64 0, .int .i64 0] 29)) (alloc_un w2) ?_ | refine wpList_store _ rfl rfl 29 (.tmp 3) (.tmp 13) rfl (.pointer (some ⟨w2.heap.size, 0, none⟩)) ov rfl rfl W HST.out ?_)
  go_ret
  exact ⟨by simp, HW3.out⟩

theorem unSelf_any (u : Un) (a : Option Addr) (len cap : Nat) (b : Option Addr) (len' cap' : Nat) (w : World) (h : Fs w a len cap u.row.xs) (h' : Fs w b len' cap' u.row.xs) :
    Calls Try.prog 15 #[u.val (.slice a len cap), u.val (.slice b len' cap')] w fun e w' => e = .returned (.bool true) ∧ Below w.heap.size w w' := by
  have := unSame_any u u a len cap b len' cap' w h h'
  rw [Un.same_self] at this
  exact this

theorem refUnSelf_any (u : Un) (a : Option Addr) (len cap : Nat) (b : Option Addr) (len' cap' : Nat) (w : World) (h : Fs w a len cap u.row.xs) (h' : Fs w b len' cap' u.row.xs) :
    Calls Try.prog 13 #[u.val (.slice a len cap), u.val (.slice b len' cap')] w fun e w' => e = .returned (.bool true) ∧ Below w.heap.size w w' := by
  have := refUnSame_any u u a len cap b len' cap' w h h'
  rw [Un.same_self] at this
  exact this

set_option maxHeartbeats 4000000 in
set_option maxRecDepth 100000 in
theorem unSame_far (A B : Un) (a : Option Addr) (len cap : Nat) (b : Option Addr) (len' cap' : Nat) (w : World) (h1 : len ≤ 9223372036854775807) (h2 : len' ≤ 9223372036854775807) (hd : 100 < len ∨ 100 < len') :
    Calls Try.prog 5 #[A.val (.slice a len cap), B.val (.slice b len' cap')] w fun e w' => e = .returned (.bool true) ∧ Below w.heap.size w w' := by
  have HA := hide awakeU_any
  have HW := hide (below_two w (.cells #[.int .i64 A.tx, .int .i64 A.no, .int .i64 A.prev, .int .i64 A.kind, .int .i64 A.page, .int .i64 A.slot, .float .f64 A.row.key, .bool A.row.dead, .slice a len cap, .int .i64 A.row.wr, .int .i64 A.row.cell, .int .i64 A.row.no] 29) (.cells #[.int .i64 B.tx, .int .i64 B.no, .int .i64 B.prev, .int .i64 B.kind, .int .i64 B.page, .int .i64 B.slot, .float .f64 B.row.key, .bool B.row.dead, .slice b len' cap', .int .i64 B.row.wr, .int .i64 B.row.cell, .int .i64 B.row.no] 29))
  unfold Un.val
  by_cases hx : 100 < len
  · have i1 : (100 : Int) < (len : Int) := by omega
    go_enter Try.func5, Try.ntmps5
    go_wp2_with fail
    refine (HA.out _).mono ?_
    rintro e w' ⟨rfl, hb⟩
    have HB := hide (rBelow HW.out hb)
    clear hb
    go_wp2_with fail
    go_ret
    exact ⟨rfl, HB.out⟩
  · have i1 : ¬ (100 : Int) < (len : Int) := by omega
    have i2 : (100 : Int) < (len' : Int) := by omega
    go_enter Try.func5, Try.ntmps5
    go_wp2_with fail
    refine (HA.out _).mono ?_
    rintro e w' ⟨rfl, hb⟩
    have HB := hide (rBelow HW.out hb)
    clear hb
    go_wp2_with fail
    go_ret
    exact ⟨rfl, HB.out⟩

set_option maxHeartbeats 4000000 in
set_option maxRecDepth 100000 in
theorem unSame_nx (A B : Un) (a : Option Addr) (len cap : Nat) (b : Option Addr) (len' cap' : Nat) (w : World) (h : Fs w a len cap A.row.xs) (h' : Fs w b len' cap' B.row.xs) (fA : A.fits) (fB : B.fits) (h1 : len ≤ 100) (h2 : len' ≤ 100) (hA : A.may = false) (hB : B.may = false) :
    Calls Try.prog 5 #[A.val (.slice a len cap), B.val (.slice b len' cap')] w fun e w' => e = .returned (.bool true) ∧ Below w.heap.size w w' := by
  have i1 : ¬ (100 : Int) < (len : Int) := by omega
  have i2 : ¬ (100 : Int) < (len' : Int) := by omega
  have HW0 := hide (below_two w (.cells #[.int .i64 A.tx, .int .i64 A.no, .int .i64 A.prev, .int .i64 A.kind, .int .i64 A.page, .int .i64 A.slot, .float .f64 A.row.key, .bool A.row.dead, .slice a len cap, .int .i64 A.row.wr, .int .i64 A.row.cell, .int .i64 A.row.no] 29) (.cells #[.int .i64 B.tx, .int .i64 B.no, .int .i64 B.prev, .int .i64 B.kind, .int .i64 B.page, .int .i64 B.slot, .float .f64 B.row.key, .bool B.row.dead, .slice b len' cap', .int .i64 B.row.wr, .int .i64 B.row.cell, .int .i64 B.row.no] 29))
  have HX0 := hide ((unBlk_new w A (.slice a len cap)).keep (below_alloc _ (.cells #[.int .i64 B.tx, .int .i64 B.no, .int .i64 B.prev, .int .i64 B.kind, .int .i64 B.page, .int .i64 B.slot, .float .f64 B.row.key, .bool B.row.dead, .slice b len' cap', .int .i64 B.row.wr, .int .i64 B.row.cell, .int .i64 B.row.no] 29)))
  have HY0 : Hid (UnBlk ((w.alloc (.cells #[.int .i64 A.tx, .int .i64 A.no, .int .i64 A.prev, .int .i64 A.kind, .int .i64 A.page, .int .i64 A.slot, .float .f64 A.row.key, .bool A.row.dead, .slice a len cap, .int .i64 A.row.wr, .int .i64 A.row.cell, .int .i64 A.row.no] 29)).alloc (.cells #[.int .i64 B.tx, .int .i64 B.no, .int .i64 B.prev, .int .i64 B.kind, .int .i64 B.page, .int .i64 B.slot, .float .f64 B.row.key, .bool B.row.dead, .slice b len' cap', .int .i64 B.row.wr, .int .i64 B.row.cell, .int .i64 B.row.no] 29)) (w.heap.size + 1) B (.slice b len' cap')) := by
    have := unBlk_new (w.alloc (.cells #[.int .i64 A.tx, .int .i64 A.no, .int .i64 A.prev, .int .i64 A.kind, .int .i64 A.page, .int .i64 A.slot, .float .f64 A.row.key, .bool A.row.dead, .slice a len cap, .int .i64 A.row.wr, .int .i64 A.row.cell, .int .i64 A.row.no] 29)) B (.slice b len' cap')
    have hsz : (w.alloc (.cells #[.int .i64 A.tx, .int .i64 A.no, .int .i64 A.prev, .int .i64 A.kind, .int .i64 A.page, .int .i64 A.slot, .float .f64 A.row.key, .bool A.row.dead, .slice a len cap, .int .i64 A.row.wr, .int .i64 A.row.cell, .int .i64 A.row.no] 29)).heap.size = w.heap.size + 1 := by simp
    rw [hsz] at this
    exact hide this
  have FA : Hid (∀ w', Below w.heap.size w w' → Fs w' a len cap A.row.xs) := fun w' hb => h.keep hb (Nat.le_refl _)
  have FB : Hid (∀ w', Below w.heap.size w w' → Fs w' b len' cap' B.row.xs) := fun w' hb => h'.keep hb (Nat.le_refl _)
  have HR : Hid (∀ w', Below w.heap.size w w' → Calls Try.prog 13 #[A.val (.slice a len cap), B.val (.slice b len' cap')] w' fun e w'' => e = .returned (.bool (A.same B)) ∧ Below w'.heap.size w' w'') := fun w' hb => refUnSame_any A B a len cap b len' cap' w' (FA.out w' hb) (FB.out w' hb)
  have HS : Hid (∀ w', Below w.heap.size w w' → Calls Try.prog 15 #[A.val (.slice a len cap), B.val (.slice b len' cap')] w' fun e w'' => e = .returned (.bool (A.same B)) ∧ Below w'.heap.size w' w'') := fun w' hb => unSame_any A B a len cap b len' cap' w' (FA.out w' hb) (FB.out w' hb)
  have HSS : Hid (∀ w', Below w.heap.size w w' → Calls Try.prog 15 #[A.val (.slice a len cap), A.val (.slice a len cap)] w' fun e w'' => e = .returned (.bool true) ∧ Below w'.heap.size w' w'') := fun w' hb => unSelf_any A a len cap a len cap w' (FA.out w' hb) (FA.out w' hb)
  have HEA : Hid (∀ w', Below w.heap.size w w' → _) := fun w' hb => encodeU_no A a len cap w' (FA.out w' hb) fA hA
  have HEB : Hid (∀ w', Below w.heap.size w w' → _) := fun w' hb => encodeU_no B b len' cap' w' (FB.out w' hb) fB hB
  have HAW := hide awakeU_any
  clear h h' fA fB hA hB h1 h2
  generalize A.same B = m at *
  have HR0 := hide (HR.out _ HW0.out)
  unfold Un.val at HR0 ⊢
  go_enter Try.func5, Try.ntmps5
  go_wp2_with fail
  refine HR0.out.mono ?_
  rintro e w1 ⟨rfl, hb1⟩
  have HW1 := hide (rBelow HW0.out hb1)
  have HX1 := hide (HX0.out.keep hb1)
  have HY1 := hide (HY0.out.keep hb1)
  have HLA := hide (load_un _ _ _ ⟨_, _, _, rfl⟩ _ HX1.out)
  have HLB := hide (load_un _ _ _ ⟨_, _, _, rfl⟩ _ HY1.out)
  clear hb1 HR HR0 HX0 HY0
  go_wp2_with (refine wpList_load _ rfl 29 (.tmp 2) rfl (.pointer (some ⟨w.heap.size, 0, none⟩)) (A.val (.slice a len cap)) rfl HLA.out ?_)
  refine (HEA.out _ HW1.out).mono ?_
  rintro e w2 ⟨rfl, hb2⟩
  clear HLA HLB
  have HW2 := hide (rBelow HW1.out hb2)
  have HX2 := hide (HX1.out.keep hb2)
  have HY2 := hide (HY1.out.keep hb2)
  have HLA := hide (load_un _ _ _ ⟨_, _, _, rfl⟩ _ HX2.out)
  have HLB := hide (load_un _ _ _ ⟨_, _, _, rfl⟩ _ HY2.out)
  clear hb2
  go_wp2_with (refine wpList_load _ rfl 29 (.tmp 3) rfl (.pointer (some ⟨w.heap.size + 1, 0, none⟩)) (B.val (.slice b len' cap')) rfl HLB.out ?_)
  refine (HEB.out _ HW2.out).mono ?_
  rintro e w3 ⟨rfl, hb3⟩
  clear HLA HLB
  have HW3 := hide (rBelow HW2.out hb3)
  have HX3 := hide (HX2.out.keep hb3)
  have HY3 := hide (HY2.out.keep hb3)
  have HLA := hide (load_un _ _ _ ⟨_, _, _, rfl⟩ _ HX3.out)
  have HLB := hide (load_un _ _ _ ⟨_, _, _, rfl⟩ _ HY3.out)
  clear hb3
  go_wp2_with (first | refine wpList_load _ rfl 29 (.tmp 2) rfl (.pointer (some ⟨w.heap.size, 0, none⟩)) (A.val (.slice a len cap)) rfl HLA.out ?_ | refine wpList_load _ rfl 29 (.tmp 3) rfl (.pointer (some ⟨w.heap.size + 1, 0, none⟩)) (B.val (.slice b len' cap')) rfl HLB.out ?_)
  refine (HS.out _ HW3.out).mono ?_
  rintro e w4 ⟨rfl, hb4⟩
  clear HLA HLB
  have HW4 := hide (rBelow HW3.out hb4)
  have HX4 := hide (HX3.out.keep hb4)
  have HY4 := hide (HY3.out.keep hb4)
  have HLA := hide (load_un _ _ _ ⟨_, _, _, rfl⟩ _ HX4.out)
  have HLB := hide (load_un _ _ _ ⟨_, _, _, rfl⟩ _ HY4.out)
  have x0 := HX4.out.c0
  have x1 := HX4.out.c1
  have x2 := HX4.out.c2
  have x3 := HX4.out.c3
  have x4 := HX4.out.c4
  have x5 := HX4.out.c5
  have x6 := HX4.out.c6
  have x7 := HX4.out.c7
  have x8 := HX4.out.c8
  have x9 := HX4.out.c9
  have x10 := HX4.out.c10
  have x11 := HX4.out.c11
  clear hb4 HLA HLB
  have HSS4 := hide (HSS.out _ HW4.out)
  unfold Un.val at HSS4
  go_wp2_with fail
  refine HSS4.out.mono ?_
  rintro e w5 ⟨rfl, hb5⟩
  have HW5 := hide (rBelow HW4.out hb5)
  clear hb5 HSS4 x0 x1 x2 x3 x4 x5 x6 x7 x8 x9 x10 x11
  go_wp2_with fail
  refine (HAW.out _).mono ?_
  rintro e w6 ⟨rfl, hb6⟩
  have HW6 := hide (rBelow HW5.out hb6)
  clear hb6
  go_wp2_with fail
  go_ret
  exact ⟨by simp, HW6.out⟩

set_option maxHeartbeats 4000000 in
set_option maxRecDepth 100000 in
theorem unSame_ny (A B : Un) (a : Option Addr) (len cap : Nat) (b : Option Addr) (len' cap' : Nat) (w : World) (h : Fs w a len cap A.row.xs) (h' : Fs w b len' cap' B.row.xs) (fA : A.fits) (fB : B.fits) (h1 : len ≤ 100) (h2 : len' ≤ 100) (hA : A.may = false) (hB : B.may = true) :
    Calls Try.prog 5 #[A.val (.slice a len cap), B.val (.slice b len' cap')] w fun e w' => e = .returned (.bool true) ∧ Below w.heap.size w w' := by
  have i1 : ¬ (100 : Int) < (len : Int) := by omega
  have i2 : ¬ (100 : Int) < (len' : Int) := by omega
  have HW0 := hide (below_two w (.cells #[.int .i64 A.tx, .int .i64 A.no, .int .i64 A.prev, .int .i64 A.kind, .int .i64 A.page, .int .i64 A.slot, .float .f64 A.row.key, .bool A.row.dead, .slice a len cap, .int .i64 A.row.wr, .int .i64 A.row.cell, .int .i64 A.row.no] 29) (.cells #[.int .i64 B.tx, .int .i64 B.no, .int .i64 B.prev, .int .i64 B.kind, .int .i64 B.page, .int .i64 B.slot, .float .f64 B.row.key, .bool B.row.dead, .slice b len' cap', .int .i64 B.row.wr, .int .i64 B.row.cell, .int .i64 B.row.no] 29))
  have HX0 := hide ((unBlk_new w A (.slice a len cap)).keep (below_alloc _ (.cells #[.int .i64 B.tx, .int .i64 B.no, .int .i64 B.prev, .int .i64 B.kind, .int .i64 B.page, .int .i64 B.slot, .float .f64 B.row.key, .bool B.row.dead, .slice b len' cap', .int .i64 B.row.wr, .int .i64 B.row.cell, .int .i64 B.row.no] 29)))
  have HY0 : Hid (UnBlk ((w.alloc (.cells #[.int .i64 A.tx, .int .i64 A.no, .int .i64 A.prev, .int .i64 A.kind, .int .i64 A.page, .int .i64 A.slot, .float .f64 A.row.key, .bool A.row.dead, .slice a len cap, .int .i64 A.row.wr, .int .i64 A.row.cell, .int .i64 A.row.no] 29)).alloc (.cells #[.int .i64 B.tx, .int .i64 B.no, .int .i64 B.prev, .int .i64 B.kind, .int .i64 B.page, .int .i64 B.slot, .float .f64 B.row.key, .bool B.row.dead, .slice b len' cap', .int .i64 B.row.wr, .int .i64 B.row.cell, .int .i64 B.row.no] 29)) (w.heap.size + 1) B (.slice b len' cap')) := by
    have := unBlk_new (w.alloc (.cells #[.int .i64 A.tx, .int .i64 A.no, .int .i64 A.prev, .int .i64 A.kind, .int .i64 A.page, .int .i64 A.slot, .float .f64 A.row.key, .bool A.row.dead, .slice a len cap, .int .i64 A.row.wr, .int .i64 A.row.cell, .int .i64 A.row.no] 29)) B (.slice b len' cap')
    have hsz : (w.alloc (.cells #[.int .i64 A.tx, .int .i64 A.no, .int .i64 A.prev, .int .i64 A.kind, .int .i64 A.page, .int .i64 A.slot, .float .f64 A.row.key, .bool A.row.dead, .slice a len cap, .int .i64 A.row.wr, .int .i64 A.row.cell, .int .i64 A.row.no] 29)).heap.size = w.heap.size + 1 := by simp
    rw [hsz] at this
    exact hide this
  have FA : Hid (∀ w', Below w.heap.size w w' → Fs w' a len cap A.row.xs) := fun w' hb => h.keep hb (Nat.le_refl _)
  have FB : Hid (∀ w', Below w.heap.size w w' → Fs w' b len' cap' B.row.xs) := fun w' hb => h'.keep hb (Nat.le_refl _)
  have HR : Hid (∀ w', Below w.heap.size w w' → Calls Try.prog 13 #[A.val (.slice a len cap), B.val (.slice b len' cap')] w' fun e w'' => e = .returned (.bool (A.same B)) ∧ Below w'.heap.size w' w'') := fun w' hb => refUnSame_any A B a len cap b len' cap' w' (FA.out w' hb) (FB.out w' hb)
  have HS : Hid (∀ w', Below w.heap.size w w' → Calls Try.prog 15 #[A.val (.slice a len cap), B.val (.slice b len' cap')] w' fun e w'' => e = .returned (.bool (A.same B)) ∧ Below w'.heap.size w' w'') := fun w' hb => unSame_any A B a len cap b len' cap' w' (FA.out w' hb) (FB.out w' hb)
  have HSS : Hid (∀ w', Below w.heap.size w w' → Calls Try.prog 15 #[A.val (.slice a len cap), A.val (.slice a len cap)] w' fun e w'' => e = .returned (.bool true) ∧ Below w'.heap.size w' w'') := fun w' hb => unSelf_any A a len cap a len cap w' (FA.out w' hb) (FA.out w' hb)
  have HEA : Hid (∀ w', Below w.heap.size w w' → _) := fun w' hb => encodeU_no A a len cap w' (FA.out w' hb) fA hA
  have HEB : Hid (∀ w', Below w.heap.size w w' → _) := fun w' hb => encodeU_yes B b len' cap' w' (FB.out w' hb) fB hB
  have HAW := hide awakeU_any
  clear h h' fA fB hA hB h1 h2
  generalize A.same B = m at *
  have HR0 := hide (HR.out _ HW0.out)
  unfold Un.val at HR0 ⊢
  go_enter Try.func5, Try.ntmps5
  go_wp2_with fail
  refine HR0.out.mono ?_
  rintro e w1 ⟨rfl, hb1⟩
  have HW1 := hide (rBelow HW0.out hb1)
  have HX1 := hide (HX0.out.keep hb1)
  have HY1 := hide (HY0.out.keep hb1)
  have HLA := hide (load_un _ _ _ ⟨_, _, _, rfl⟩ _ HX1.out)
  have HLB := hide (load_un _ _ _ ⟨_, _, _, rfl⟩ _ HY1.out)
  clear hb1 HR HR0 HX0 HY0
  go_wp2_with (refine wpList_load _ rfl 29 (.tmp 2) rfl (.pointer (some ⟨w.heap.size, 0, none⟩)) (A.val (.slice a len cap)) rfl HLA.out ?_)
  refine (HEA.out _ HW1.out).mono ?_
  rintro e w2 ⟨rfl, hb2⟩
  clear HLA HLB
  have HW2 := hide (rBelow HW1.out hb2)
  have HX2 := hide (HX1.out.keep hb2)
  have HY2 := hide (HY1.out.keep hb2)
  have HLA := hide (load_un _ _ _ ⟨_, _, _, rfl⟩ _ HX2.out)
  have HLB := hide (load_un _ _ _ ⟨_, _, _, rfl⟩ _ HY2.out)
  clear hb2
  go_wp2_with (refine wpList_load _ rfl 29 (.tmp 3) rfl (.pointer (some ⟨w.heap.size + 1, 0, none⟩)) (B.val (.slice b len' cap')) rfl HLB.out ?_)
  refine (HEB.out _ HW2.out).mono ?_
  rintro e w3 ⟨ya, yn, yc, rfl, hb3, henB⟩
  clear HLA HLB
  have HW3 := hide (rBelow HW2.out hb3)
  have HX3 := hide (HX2.out.keep hb3)
  have HY3 := hide (HY2.out.keep hb3)
  have HLA := hide (load_un _ _ _ ⟨_, _, _, rfl⟩ _ HX3.out)
  have HLB := hide (load_un _ _ _ ⟨_, _, _, rfl⟩ _ HY3.out)
  clear hb3 henB
  go_wp2_with (first | refine wpList_load _ rfl 29 (.tmp 2) rfl (.pointer (some ⟨w.heap.size, 0, none⟩)) (A.val (.slice a len cap)) rfl HLA.out ?_ | refine wpList_load _ rfl 29 (.tmp 3) rfl (.pointer (some ⟨w.heap.size + 1, 0, none⟩)) (B.val (.slice b len' cap')) rfl HLB.out ?_)
  refine (HS.out _ HW3.out).mono ?_
  rintro e w4 ⟨rfl, hb4⟩
  clear HLA HLB
  have HW4 := hide (rBelow HW3.out hb4)
  have HX4 := hide (HX3.out.keep hb4)
  have HY4 := hide (HY3.out.keep hb4)
  have HLA := hide (load_un _ _ _ ⟨_, _, _, rfl⟩ _ HX4.out)
  have HLB := hide (load_un _ _ _ ⟨_, _, _, rfl⟩ _ HY4.out)
  have x0 := HX4.out.c0
  have x1 := HX4.out.c1
  have x2 := HX4.out.c2
  have x3 := HX4.out.c3
  have x4 := HX4.out.c4
  have x5 := HX4.out.c5
  have x6 := HX4.out.c6
  have x7 := HX4.out.c7
  have x8 := HX4.out.c8
  have x9 := HX4.out.c9
  have x10 := HX4.out.c10
  have x11 := HX4.out.c11
  clear hb4 HLA HLB
  have HSS4 := hide (HSS.out _ HW4.out)
  unfold Un.val at HSS4
  go_wp2_with fail
  refine HSS4.out.mono ?_
  rintro e w5 ⟨rfl, hb5⟩
  have HW5 := hide (rBelow HW4.out hb5)
  clear hb5 HSS4 x0 x1 x2 x3 x4 x5 x6 x7 x8 x9 x10 x11
  go_wp2_with fail
  refine (HAW.out _).mono ?_
  rintro e w6 ⟨rfl, hb6⟩
  have HW6 := hide (rBelow HW5.out hb6)
  clear hb6
  go_wp2_with fail
  go_ret
  exact ⟨by simp, HW6.out⟩

set_option maxHeartbeats 4000000 in
set_option maxRecDepth 100000 in
theorem unSame_yn (A B : Un) (a : Option Addr) (len cap : Nat) (b : Option Addr) (len' cap' : Nat) (w : World) (h : Fs w a len cap A.row.xs) (h' : Fs w b len' cap' B.row.xs) (fA : A.fits) (fB : B.fits) (h1 : len ≤ 100) (h2 : len' ≤ 100) (hA : A.may = true) (hB : B.may = false) :
    Calls Try.prog 5 #[A.val (.slice a len cap), B.val (.slice b len' cap')] w fun e w' => e = .returned (.bool true) ∧ Below w.heap.size w w' := by
  have i1 : ¬ (100 : Int) < (len : Int) := by omega
  have i2 : ¬ (100 : Int) < (len' : Int) := by omega
  have HW0 := hide (below_two w (.cells #[.int .i64 A.tx, .int .i64 A.no, .int .i64 A.prev, .int .i64 A.kind, .int .i64 A.page, .int .i64 A.slot, .float .f64 A.row.key, .bool A.row.dead, .slice a len cap, .int .i64 A.row.wr, .int .i64 A.row.cell, .int .i64 A.row.no] 29) (.cells #[.int .i64 B.tx, .int .i64 B.no, .int .i64 B.prev, .int .i64 B.kind, .int .i64 B.page, .int .i64 B.slot, .float .f64 B.row.key, .bool B.row.dead, .slice b len' cap', .int .i64 B.row.wr, .int .i64 B.row.cell, .int .i64 B.row.no] 29))
  have HX0 := hide ((unBlk_new w A (.slice a len cap)).keep (below_alloc _ (.cells #[.int .i64 B.tx, .int .i64 B.no, .int .i64 B.prev, .int .i64 B.kind, .int .i64 B.page, .int .i64 B.slot, .float .f64 B.row.key, .bool B.row.dead, .slice b len' cap', .int .i64 B.row.wr, .int .i64 B.row.cell, .int .i64 B.row.no] 29)))
  have HY0 : Hid (UnBlk ((w.alloc (.cells #[.int .i64 A.tx, .int .i64 A.no, .int .i64 A.prev, .int .i64 A.kind, .int .i64 A.page, .int .i64 A.slot, .float .f64 A.row.key, .bool A.row.dead, .slice a len cap, .int .i64 A.row.wr, .int .i64 A.row.cell, .int .i64 A.row.no] 29)).alloc (.cells #[.int .i64 B.tx, .int .i64 B.no, .int .i64 B.prev, .int .i64 B.kind, .int .i64 B.page, .int .i64 B.slot, .float .f64 B.row.key, .bool B.row.dead, .slice b len' cap', .int .i64 B.row.wr, .int .i64 B.row.cell, .int .i64 B.row.no] 29)) (w.heap.size + 1) B (.slice b len' cap')) := by
    have := unBlk_new (w.alloc (.cells #[.int .i64 A.tx, .int .i64 A.no, .int .i64 A.prev, .int .i64 A.kind, .int .i64 A.page, .int .i64 A.slot, .float .f64 A.row.key, .bool A.row.dead, .slice a len cap, .int .i64 A.row.wr, .int .i64 A.row.cell, .int .i64 A.row.no] 29)) B (.slice b len' cap')
    have hsz : (w.alloc (.cells #[.int .i64 A.tx, .int .i64 A.no, .int .i64 A.prev, .int .i64 A.kind, .int .i64 A.page, .int .i64 A.slot, .float .f64 A.row.key, .bool A.row.dead, .slice a len cap, .int .i64 A.row.wr, .int .i64 A.row.cell, .int .i64 A.row.no] 29)).heap.size = w.heap.size + 1 := by simp
    rw [hsz] at this
    exact hide this
  have FA : Hid (∀ w', Below w.heap.size w w' → Fs w' a len cap A.row.xs) := fun w' hb => h.keep hb (Nat.le_refl _)
  have FB : Hid (∀ w', Below w.heap.size w w' → Fs w' b len' cap' B.row.xs) := fun w' hb => h'.keep hb (Nat.le_refl _)
  have HR : Hid (∀ w', Below w.heap.size w w' → Calls Try.prog 13 #[A.val (.slice a len cap), B.val (.slice b len' cap')] w' fun e w'' => e = .returned (.bool (A.same B)) ∧ Below w'.heap.size w' w'') := fun w' hb => refUnSame_any A B a len cap b len' cap' w' (FA.out w' hb) (FB.out w' hb)
  have HS : Hid (∀ w', Below w.heap.size w w' → Calls Try.prog 15 #[A.val (.slice a len cap), B.val (.slice b len' cap')] w' fun e w'' => e = .returned (.bool (A.same B)) ∧ Below w'.heap.size w' w'') := fun w' hb => unSame_any A B a len cap b len' cap' w' (FA.out w' hb) (FB.out w' hb)
  have HSS : Hid (∀ w', Below w.heap.size w w' → Calls Try.prog 15 #[A.val (.slice a len cap), A.val (.slice a len cap)] w' fun e w'' => e = .returned (.bool true) ∧ Below w'.heap.size w' w'') := fun w' hb => unSelf_any A a len cap a len cap w' (FA.out w' hb) (FA.out w' hb)
  have HEA : Hid (∀ w', Below w.heap.size w w' → _) := fun w' hb => encodeU_yes A a len cap w' (FA.out w' hb) fA hA
  have HEB : Hid (∀ w', Below w.heap.size w w' → _) := fun w' hb => encodeU_no B b len' cap' w' (FB.out w' hb) fB hB
  have HAW := hide awakeU_any
  clear h h' fA fB hA hB h1 h2
  generalize A.same B = m at *
  have HR0 := hide (HR.out _ HW0.out)
  unfold Un.val at HR0 ⊢
  go_enter Try.func5, Try.ntmps5
  go_wp2_with fail
  refine HR0.out.mono ?_
  rintro e w1 ⟨rfl, hb1⟩
  have HW1 := hide (rBelow HW0.out hb1)
  have HX1 := hide (HX0.out.keep hb1)
  have HY1 := hide (HY0.out.keep hb1)
  have HLA := hide (load_un _ _ _ ⟨_, _, _, rfl⟩ _ HX1.out)
  have HLB := hide (load_un _ _ _ ⟨_, _, _, rfl⟩ _ HY1.out)
  clear hb1 HR HR0 HX0 HY0
  go_wp2_with (refine wpList_load _ rfl 29 (.tmp 2) rfl (.pointer (some ⟨w.heap.size, 0, none⟩)) (A.val (.slice a len cap)) rfl HLA.out ?_)
  refine (HEA.out _ HW1.out).mono ?_
  rintro e w2 ⟨xa, xn, xc, rfl, hb2, henA⟩
  clear HLA HLB
  have HW2 := hide (rBelow HW1.out hb2)
  have HX2 := hide (HX1.out.keep hb2)
  have HY2 := hide (HY1.out.keep hb2)
  have HLA := hide (load_un _ _ _ ⟨_, _, _, rfl⟩ _ HX2.out)
  have HLB := hide (load_un _ _ _ ⟨_, _, _, rfl⟩ _ HY2.out)
  clear hb2
  go_wp2_with (refine wpList_load _ rfl 29 (.tmp 3) rfl (.pointer (some ⟨w.heap.size + 1, 0, none⟩)) (B.val (.slice b len' cap')) rfl HLB.out ?_)
  refine (HEB.out _ HW2.out).mono ?_
  rintro e w3 ⟨rfl, hb3⟩
  clear HLA HLB
  have HW3 := hide (rBelow HW2.out hb3)
  have HX3 := hide (HX2.out.keep hb3)
  have HY3 := hide (HY2.out.keep hb3)
  have HLA := hide (load_un _ _ _ ⟨_, _, _, rfl⟩ _ HX3.out)
  have HLB := hide (load_un _ _ _ ⟨_, _, _, rfl⟩ _ HY3.out)
  clear hb3 henA
  go_wp2_with (first | refine wpList_load _ rfl 29 (.tmp 2) rfl (.pointer (some ⟨w.heap.size, 0, none⟩)) (A.val (.slice a len cap)) rfl HLA.out ?_ | refine wpList_load _ rfl 29 (.tmp 3) rfl (.pointer (some ⟨w.heap.size + 1, 0, none⟩)) (B.val (.slice b len' cap')) rfl HLB.out ?_)
  refine (HS.out _ HW3.out).mono ?_
  rintro e w4 ⟨rfl, hb4⟩
  clear HLA HLB
  have HW4 := hide (rBelow HW3.out hb4)
  have HX4 := hide (HX3.out.keep hb4)
  have HY4 := hide (HY3.out.keep hb4)
  have HLA := hide (load_un _ _ _ ⟨_, _, _, rfl⟩ _ HX4.out)
  have HLB := hide (load_un _ _ _ ⟨_, _, _, rfl⟩ _ HY4.out)
  have x0 := HX4.out.c0
  have x1 := HX4.out.c1
  have x2 := HX4.out.c2
  have x3 := HX4.out.c3
  have x4 := HX4.out.c4
  have x5 := HX4.out.c5
  have x6 := HX4.out.c6
  have x7 := HX4.out.c7
  have x8 := HX4.out.c8
  have x9 := HX4.out.c9
  have x10 := HX4.out.c10
  have x11 := HX4.out.c11
  clear hb4 HLA HLB
  have HSS4 := hide (HSS.out _ HW4.out)
  unfold Un.val at HSS4
  go_wp2_with fail
  refine HSS4.out.mono ?_
  rintro e w5 ⟨rfl, hb5⟩
  have HW5 := hide (rBelow HW4.out hb5)
  clear hb5 HSS4 x0 x1 x2 x3 x4 x5 x6 x7 x8 x9 x10 x11
  go_wp2_with fail
  refine (HAW.out _).mono ?_
  rintro e w6 ⟨rfl, hb6⟩
  have HW6 := hide (rBelow HW5.out hb6)
  clear hb6
  go_wp2_with fail
  go_ret
  exact ⟨by simp, HW6.out⟩

set_option maxHeartbeats 4000000 in
set_option maxRecDepth 100000 in
theorem unSame_yy (A B : Un) (a : Option Addr) (len cap : Nat) (b : Option Addr) (len' cap' : Nat) (w : World) (h : Fs w a len cap A.row.xs) (h' : Fs w b len' cap' B.row.xs) (fA : A.fits) (fB : B.fits) (h1 : len ≤ 100) (h2 : len' ≤ 100) (hA : A.may = true) (hB : B.may = true) :
    Calls Try.prog 5 #[A.val (.slice a len cap), B.val (.slice b len' cap')] w fun e w' => e = .returned (.bool true) ∧ Below w.heap.size w w' := by
  have i1 : ¬ (100 : Int) < (len : Int) := by omega
  have i2 : ¬ (100 : Int) < (len' : Int) := by omega
  have HW0 := hide (below_two w (.cells #[.int .i64 A.tx, .int .i64 A.no, .int .i64 A.prev, .int .i64 A.kind, .int .i64 A.page, .int .i64 A.slot, .float .f64 A.row.key, .bool A.row.dead, .slice a len cap, .int .i64 A.row.wr, .int .i64 A.row.cell, .int .i64 A.row.no] 29) (.cells #[.int .i64 B.tx, .int .i64 B.no, .int .i64 B.prev, .int .i64 B.kind, .int .i64 B.page, .int .i64 B.slot, .float .f64 B.row.key, .bool B.row.dead, .slice b len' cap', .int .i64 B.row.wr, .int .i64 B.row.cell, .int .i64 B.row.no] 29))
  have HX0 := hide ((unBlk_new w A (.slice a len cap)).keep (below_alloc _ (.cells #[.int .i64 B.tx, .int .i64 B.no, .int .i64 B.prev, .int .i64 B.kind, .int .i64 B.page, .int .i64 B.slot, .float .f64 B.row.key, .bool B.row.dead, .slice b len' cap', .int .i64 B.row.wr, .int .i64 B.row.cell, .int .i64 B.row.no] 29)))
  have HY0 : Hid (UnBlk ((w.alloc (.cells #[.int .i64 A.tx, .int .i64 A.no, .int .i64 A.prev, .int .i64 A.kind, .int .i64 A.page, .int .i64 A.slot, .float .f64 A.row.key, .bool A.row.dead, .slice a len cap, .int .i64 A.row.wr, .int .i64 A.row.cell, .int .i64 A.row.no] 29)).alloc (.cells #[.int .i64 B.tx, .int .i64 B.no, .int .i64 B.prev, .int .i64 B.kind, .int .i64 B.page, .int .i64 B.slot, .float .f64 B.row.key, .bool B.row.dead, .slice b len' cap', .int .i64 B.row.wr, .int .i64 B.row.cell, .int .i64 B.row.no] 29)) (w.heap.size + 1) B (.slice b len' cap')) := by
    have := unBlk_new (w.alloc (.cells #[.int .i64 A.tx, .int .i64 A.no, .int .i64 A.prev, .int .i64 A.kind, .int .i64 A.page, .int .i64 A.slot, .float .f64 A.row.key, .bool A.row.dead, .slice a len cap, .int .i64 A.row.wr, .int .i64 A.row.cell, .int .i64 A.row.no] 29)) B (.slice b len' cap')
    have hsz : (w.alloc (.cells #[.int .i64 A.tx, .int .i64 A.no, .int .i64 A.prev, .int .i64 A.kind, .int .i64 A.page, .int .i64 A.slot, .float .f64 A.row.key, .bool A.row.dead, .slice a len cap, .int .i64 A.row.wr, .int .i64 A.row.cell, .int .i64 A.row.no] 29)).heap.size = w.heap.size + 1 := by simp
    rw [hsz] at this
    exact hide this
  have FA : Hid (∀ w', Below w.heap.size w w' → Fs w' a len cap A.row.xs) := fun w' hb => h.keep hb (Nat.le_refl _)
  have FB : Hid (∀ w', Below w.heap.size w w' → Fs w' b len' cap' B.row.xs) := fun w' hb => h'.keep hb (Nat.le_refl _)
  have HR : Hid (∀ w', Below w.heap.size w w' → Calls Try.prog 13 #[A.val (.slice a len cap), B.val (.slice b len' cap')] w' fun e w'' => e = .returned (.bool (A.same B)) ∧ Below w'.heap.size w' w'') := fun w' hb => refUnSame_any A B a len cap b len' cap' w' (FA.out w' hb) (FB.out w' hb)
  have HS : Hid (∀ w', Below w.heap.size w w' → Calls Try.prog 15 #[A.val (.slice a len cap), B.val (.slice b len' cap')] w' fun e w'' => e = .returned (.bool (A.same B)) ∧ Below w'.heap.size w' w'') := fun w' hb => unSame_any A B a len cap b len' cap' w' (FA.out w' hb) (FB.out w' hb)
  have HSS : Hid (∀ w', Below w.heap.size w w' → Calls Try.prog 15 #[A.val (.slice a len cap), A.val (.slice a len cap)] w' fun e w'' => e = .returned (.bool true) ∧ Below w'.heap.size w' w'') := fun w' hb => unSelf_any A a len cap a len cap w' (FA.out w' hb) (FA.out w' hb)
  have HEA : Hid (∀ w', Below w.heap.size w w' → _) := fun w' hb => encodeU_yes A a len cap w' (FA.out w' hb) fA hA
  have HEB : Hid (∀ w', Below w.heap.size w w' → _) := fun w' hb => encodeU_yes B b len' cap' w' (FB.out w' hb) fB hB
  have HAW := hide awakeU_any
  have HQ : Hid (((bstr A.bytes).toList == (bstr B.bytes).toList) = A.same B) := by
    show _ = _
    cases hs : A.same B
    · exact str_ne (Un.bytes_bytes hA) (Un.bytes_bytes hB) (fun e => by
        have := Un.bytes_inj hA hB fA fB e
        rw [this, Un.same_self] at hs
        cases hs)
    · rw [Un.same_eq hs]
      exact beq_self_eq_true _
  have HBA := hide (Un.bytes_bytes hA)
  have HBB := hide (Un.bytes_bytes hB)
  clear h h' fA fB hA hB h1 h2
  generalize A.same B = m at *
  have HR0 := hide (HR.out _ HW0.out)
  unfold Un.val at HR0 ⊢
  go_enter Try.func5, Try.ntmps5
  go_wp2_with fail
  refine HR0.out.mono ?_
  rintro e w1 ⟨rfl, hb1⟩
  have HW1 := hide (rBelow HW0.out hb1)
  have HX1 := hide (HX0.out.keep hb1)
  have HY1 := hide (HY0.out.keep hb1)
  have HLA := hide (load_un _ _ _ ⟨_, _, _, rfl⟩ _ HX1.out)
  have HLB := hide (load_un _ _ _ ⟨_, _, _, rfl⟩ _ HY1.out)
  clear hb1 HR HR0 HX0 HY0
  go_wp2_with (refine wpList_load _ rfl 29 (.tmp 2) rfl (.pointer (some ⟨w.heap.size, 0, none⟩)) (A.val (.slice a len cap)) rfl HLA.out ?_)
  refine (HEA.out _ HW1.out).mono ?_
  rintro e w2 ⟨xa, xn, xc, rfl, hb2, henA⟩
  clear HLA HLB
  have HW2 := hide (rBelow HW1.out hb2)
  have HX2 := hide (HX1.out.keep hb2)
  have HY2 := hide (HY1.out.keep hb2)
  have HLA := hide (load_un _ _ _ ⟨_, _, _, rfl⟩ _ HX2.out)
  have HLB := hide (load_un _ _ _ ⟨_, _, _, rfl⟩ _ HY2.out)
  clear hb2
  go_wp2_with (refine wpList_load _ rfl 29 (.tmp 3) rfl (.pointer (some ⟨w.heap.size + 1, 0, none⟩)) (B.val (.slice b len' cap')) rfl HLB.out ?_)
  refine (HEB.out _ HW2.out).mono ?_
  rintro e w3 ⟨ya, yn, yc, rfl, hb3, henB⟩
  have HCA := hide (henA.keep hb3)
  have HCB := hide henB
  clear HLA HLB
  have HW3 := hide (rBelow HW2.out hb3)
  have HX3 := hide (HX2.out.keep hb3)
  have HY3 := hide (HY2.out.keep hb3)
  have HLA := hide (load_un _ _ _ ⟨_, _, _, rfl⟩ _ HX3.out)
  have HLB := hide (load_un _ _ _ ⟨_, _, _, rfl⟩ _ HY3.out)
  clear hb3 henA henB
  go_wp2_with (first | refine wpList_load _ rfl 29 (.tmp 2) rfl (.pointer (some ⟨w.heap.size, 0, none⟩)) (A.val (.slice a len cap)) rfl HLA.out ?_ | refine wpList_load _ rfl 29 (.tmp 3) rfl (.pointer (some ⟨w.heap.size + 1, 0, none⟩)) (B.val (.slice b len' cap')) rfl HLB.out ?_)
  refine (HS.out _ HW3.out).mono ?_
  rintro e w4 ⟨rfl, hb4⟩
  clear HLA HLB
  have HW4 := hide (rBelow HW3.out hb4)
  have HX4 := hide (HX3.out.keep hb4)
  have HY4 := hide (HY3.out.keep hb4)
  have HLA := hide (load_un _ _ _ ⟨_, _, _, rfl⟩ _ HX4.out)
  have HLB := hide (load_un _ _ _ ⟨_, _, _, rfl⟩ _ HY4.out)
  have x0 := HX4.out.c0
  have x1 := HX4.out.c1
  have x2 := HX4.out.c2
  have x3 := HX4.out.c3
  have x4 := HX4.out.c4
  have x5 := HX4.out.c5
  have x6 := HX4.out.c6
  have x7 := HX4.out.c7
  have x8 := HX4.out.c8
  have x9 := HX4.out.c9
  have x10 := HX4.out.c10
  have x11 := HX4.out.c11
  have HCA4 := hide (HCA.out.keep hb4)
  have HCB4 := hide (HCB.out.keep hb4)
  clear hb4 HLA HLB
  have HSS4 := hide (HSS.out _ HW4.out)
  unfold Un.val at HSS4
  go_wp2_with fail
  refine HSS4.out.mono ?_
  rintro e w5 ⟨rfl, hb5⟩
  have HW5 := hide (rBelow HW4.out hb5)
  have hcv1 : (convert 31 9 (.slice xa xn xc)).run Try.prog w5 = .ok (.string (bstr A.bytes)) w5 := run_string_of xc (HCA4.out.keep hb5).came.bs
  have hcv2 : (convert 31 9 (.slice ya yn yc)).run Try.prog w5 = .ok (.string (bstr B.bytes)) w5 := run_string_of yc (HCB4.out.keep hb5).came.bs
  have hq := HQ.out
  generalize bstr A.bytes = sA at *
  generalize bstr B.bytes = sB at *
  clear hb5 HSS4 x0 x1 x2 x3 x4 x5 x6 x7 x8 x9 x10 x11
  go_wp2_with fail
  refine (HAW.out _).mono ?_
  rintro e w6 ⟨rfl, hb6⟩
  have HW6 := hide (rBelow HW5.out hb6)
  clear hb6
  go_wp2_with fail
  go_ret
  exact ⟨by simp, HW6.out⟩

theorem unSame_walk (A B : Un) (a : Option Addr) (len cap : Nat) (b : Option Addr) (len' cap' : Nat) (w : World) (h : Fs w a len cap A.row.xs) (h' : Fs w b len' cap' B.row.xs) (fA : A.fits) (fB : B.fits) (h1 : len ≤ 100) (h2 : len' ≤ 100) :
    Calls Try.prog 5 #[A.val (.slice a len cap), B.val (.slice b len' cap')] w fun e w' => e = .returned (.bool true) ∧ Below w.heap.size w w' := by
  cases hA : A.may <;> cases hB : B.may
  · exact unSame_nx A B a len cap b len' cap' w h h' fA fB h1 h2 hA hB
  · exact unSame_ny A B a len cap b len' cap' w h h' fA fB h1 h2 hA hB
  · exact unSame_yn A B a len cap b len' cap' w h h' fA fB h1 h2 hA hB
  · exact unSame_yy A B a len cap b len' cap' w h h' fA fB h1 h2 hA hB

end Go.Proofs.Ytgjpeeicgkkkbaa
