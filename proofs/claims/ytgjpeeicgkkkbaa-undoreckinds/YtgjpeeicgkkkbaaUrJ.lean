/-
  The law of an undoing of each kind: its walk.
-/
import Derived.Test.YtgjpeeicgkkkbaaUrG
namespace Go.Proofs.Ytgjpeeicgkkkbaa
open Go.RowKit

/-- To insert, and to update with a row. -/
def insU (A : Un) : Un := ⟨A.tx, A.no, A.prev, 1, A.page, A.slot, zeroR⟩
def updU (A : Un) (R : Rw) : Un := ⟨A.tx, A.no, A.prev, 2, A.page, A.slot, R⟩

theorem insU_fits {A : Un} (h : A.fits) : (insU A).fits := ⟨h.tx, h.no, h.prev, (by decide : (Lit.int .i64 1).wf = true), h.page, h.slot, zeroR_fits⟩
theorem updU_fits {A : Un} (h : A.fits) {R : Rw} (hr : R.fits) : (updU A R).fits := ⟨h.tx, h.no, h.prev, (by decide : (Lit.int .i64 2).wf = true), h.page, h.slot, hr⟩

theorem insU_may {A : Un} {R : Rw} (h : (updU A R).may = true) : (insU A).may = true := by
  have p := Un.parts h
  have e : (insU A).may = undoB (insU A).kind (insU A).row := mayU_yes (by
    have p1 := p.tx
    have p2 := p.no
    have p3 := p.prev
    have p4 := p.page
    have p5 := p.slot
    simp only [updU] at p1 p2 p3 p4 p5
    simp only [insU]
    omega)
  rw [e]
  exact Rw.same_self zeroR

theorem insU_len (A : Un) : (insU A).bytes.length = 14 := by
  rw [Un.bytes_len]
  show 14 + noS.size = 14
  rfl

theorem updU_len (A : Un) (R : Rw) : (updU A R).bytes.length = 34 + 8 * R.xs.length := by
  rw [Un.bytes_len]
  have : (updU A R).text = bstr R.bytes := rfl
  rw [this, bstr_size, bytes_len]
  omega

/-- A kind is laid into an undoing. -/
theorem st_unKind (w : World) (g : Nat) (u : Un) (c0 : Value) (h : UnBlk w g u c0) (k : Int) :
    ∃ W, (Instr.storeAt 3 (.pointer (some ⟨g, 3, none⟩)) (.int .i64 k)).run Try.prog w = .ok () W ∧ UnBlk W g ⟨u.tx, u.no, u.prev, k, u.page, u.slot, u.row⟩ c0 ∧ (∀ k, k ≠ g → W.heap[k]? = w.heap[k]?) ∧ ∀ (B : Nat) (w0 : World), Below B w0 w → B ≤ g → Below B w0 W := by
  have z3 := h.c3
  have f0 := h.fz
  refine ⟨w.setCell ⟨g, 3, none⟩ (.int .i64 k), by simp [go_sem, Instr.storeAt, z3, f0], ?_, fun k hk => Below.heap_setCell _ ⟨g, 3, none⟩ _ k hk, fun B w0 hb hg => hb.setCell (p := ⟨g, 3, none⟩) hg _⟩
  have h1 := heap_setCell_same w g 3 _ 29 (.int .i64 k) h
  unfold UnBlk
  rw [h1]
  simp

set_option maxHeartbeats 4000000 in
set_option maxRecDepth 100000 in
theorem kindsL_far (A : Un) (R : Rw) (a : Option Addr) (len cap : Nat) (b : Option Addr) (len' cap' : Nat) (w : World) (h1 : len ≤ 9223372036854775807) (h2 : len' ≤ 9223372036854775807) (hd : 100 < len ∨ 100 < len') :
    Calls Try.prog 6 #[A.val (.slice a len cap), R.val (.slice b len' cap')] w fun e w' => e = .returned (.bool true) ∧ Below w.heap.size w w' := by
  have HA := hide awakeU_any
  have HW := hide (below_two w (.cells #[.int .i64 A.tx, .int .i64 A.no, .int .i64 A.prev, .int .i64 A.kind, .int .i64 A.page, .int .i64 A.slot, .float .f64 A.row.key, .bool A.row.dead, .slice a len cap, .int .i64 A.row.wr, .int .i64 A.row.cell, .int .i64 A.row.no] 29) (.cells #[.float .f64 R.key, .bool R.dead, .slice b len' cap', .int .i64 R.wr, .int .i64 R.cell, .int .i64 R.no] 27))
  unfold Un.val Rw.val
  by_cases hx : 100 < len'
  · have i1 : (100 : Int) < (len' : Int) := by omega
    go_enter Try.func6, Try.ntmps6
    go_wp2_with fail
    refine (HA.out _).mono ?_
    rintro e w' ⟨rfl, hb⟩
    have HB := hide (rBelow HW.out hb)
    clear hb
    go_wp2_with fail
    go_ret
    exact ⟨rfl, HB.out⟩
  · have i1 : ¬ (100 : Int) < (len' : Int) := by omega
    have i2 : (100 : Int) < (len : Int) := by omega
    go_enter Try.func6, Try.ntmps6
    go_wp2_with fail
    refine (HA.out _).mono ?_
    rintro e w' ⟨rfl, hb⟩
    have HB := hide (rBelow HW.out hb)
    clear hb
    go_wp2_with fail
    go_ret
    exact ⟨rfl, HB.out⟩

set_option maxHeartbeats 4000000 in
set_option maxRecDepth 100000 in
theorem kindsL_nn (A : Un) (R : Rw) (a : Option Addr) (len cap : Nat) (b : Option Addr) (len' cap' : Nat) (w : World) (hB : Fs w b len' cap' R.xs) (fA : A.fits) (fR : R.fits) (h1 : len ≤ 100) (h2 : len' ≤ 100) (hm1 : (insU A).may = false) (hm2 : (updU A R).may = false) :
    Calls Try.prog 6 #[A.val (.slice a len cap), R.val (.slice b len' cap')] w fun e w' => e = .returned (.bool true) ∧ Below w.heap.size w w' := by
  have i1 : ¬ (100 : Int) < (len : Int) := by omega
  have i2 : ¬ (100 : Int) < (len' : Int) := by omega
  have HB := hide hB
  have HFU := hide (updU_fits fA fR)
  have HFI := hide (insU_fits fA)
  have HM2 := hide hm2
  have HAW := hide awakeU_any
  have hw0 := below_two w (.cells #[.int .i64 A.tx, .int .i64 A.no, .int .i64 A.prev, .int .i64 A.kind, .int .i64 A.page, .int .i64 A.slot, .float .f64 A.row.key, .bool A.row.dead, .slice a len cap, .int .i64 A.row.wr, .int .i64 A.row.cell, .int .i64 A.row.no] 29) (.cells #[.float .f64 R.key, .bool R.dead, .slice b len' cap', .int .i64 R.wr, .int .i64 R.cell, .int .i64 R.no] 27)
  have hx0 : UnBlk ((w.alloc (.cells #[.int .i64 A.tx, .int .i64 A.no, .int .i64 A.prev, .int .i64 A.kind, .int .i64 A.page, .int .i64 A.slot, .float .f64 A.row.key, .bool A.row.dead, .slice a len cap, .int .i64 A.row.wr, .int .i64 A.row.cell, .int .i64 A.row.no] 29)).alloc (.cells #[.float .f64 R.key, .bool R.dead, .slice b len' cap', .int .i64 R.wr, .int .i64 R.cell, .int .i64 R.no] 27)) w.heap.size A (.slice a len cap) := (unBlk_new w A (.slice a len cap)).keep (below_alloc _ _)
  have hr0 : RwBlk ((w.alloc (.cells #[.int .i64 A.tx, .int .i64 A.no, .int .i64 A.prev, .int .i64 A.kind, .int .i64 A.page, .int .i64 A.slot, .float .f64 A.row.key, .bool A.row.dead, .slice a len cap, .int .i64 A.row.wr, .int .i64 A.row.cell, .int .i64 A.row.no] 29)).alloc (.cells #[.float .f64 R.key, .bool R.dead, .slice b len' cap', .int .i64 R.wr, .int .i64 R.cell, .int .i64 R.no] 27)) (w.heap.size + 1) R (.slice b len' cap') := by
    have := rwBlk_new (w.alloc (.cells #[.int .i64 A.tx, .int .i64 A.no, .int .i64 A.prev, .int .i64 A.kind, .int .i64 A.page, .int .i64 A.slot, .float .f64 A.row.key, .bool A.row.dead, .slice a len cap, .int .i64 A.row.wr, .int .i64 A.row.cell, .int .i64 A.row.no] 29)) R (.slice b len' cap')
    have hsz : (w.alloc (.cells #[.int .i64 A.tx, .int .i64 A.no, .int .i64 A.prev, .int .i64 A.kind, .int .i64 A.page, .int .i64 A.slot, .float .f64 A.row.key, .bool A.row.dead, .slice a len cap, .int .i64 A.row.wr, .int .i64 A.row.cell, .int .i64 A.row.no] 29)).heap.size = w.heap.size + 1 := by simp
    rw [hsz] at this
    exact this
  obtain ⟨w1, hs1, hx1, ho1, hl1⟩ := st_unKind _ _ _ _ hx0 1
  obtain ⟨w2, hs2, hx2, ho2, hl2⟩ := st_unRow w1 _ _ _ hx1 zeroR none 0 0
  have HW2 := hide (hl2 _ _ (hl1 _ _ hw0 (Nat.le_refl _)) (Nat.le_refl _))
  have HX2 : Hid (UnBlk w2 w.heap.size (insU A) (.slice none 0 0)) := hx2
  have HR2 : Hid (RwBlk w2 (w.heap.size + 1) R (.slice b len' cap')) := (ho2 _ (by omega)).trans ((ho1 _ (by omega)).trans hr0)
  have HS1 := hide hs1
  have HS2 := hide hs2
  have HE1 := hide (encodeU_no (insU A) none 0 0 w2 (fs_nil w2) HFI.out hm1)
  have HLU := hide (load_un _ _ _ ⟨_, _, _, rfl⟩ _ HX2.out)
  have HI14 := hide (insU_len A)
  have HU34 := hide (updU_len A R)
  have HBL := hide hB.len
  have HKU : Hid (∀ w' : World, UnBlk w' w.heap.size ⟨(insU A).tx, (insU A).no, (insU A).prev, 2, (insU A).page, (insU A).slot, R⟩ (.slice b len' cap') → UnBlk w' w.heap.size (updU A R) (.slice b len' cap')) := fun w' h => h
  have HIX : Hid ((updU A R).row.xs = R.xs) := rfl
  unfold Rw.val zeroR at HS2
  simp only at HS2
  generalize (insU A) = I1 at *
  generalize (updU A R) = I2 at *
  unfold Un.val Rw.val
  clear hw0 hx0 hr0 hs1 hx1 ho1 hl1 hs2 hx2 ho2 hl2 hB fA fR hm1 hm2 h1 HFI
  go_enter Try.func6, Try.ntmps6
  go_wp2_with (first | refine wpList_store _ rfl rfl 3 (.tmp 23) (.const (.int .i64 1)) rfl (.pointer (some ⟨w.heap.size, 3, none⟩)) (.int .i64 1) rfl rfl w1 HS1.out ?_ | refine wpList_store _ rfl rfl 27 (.tmp 25) (.tmp 24) rfl (.pointer (some ⟨w.heap.size, 6, none⟩)) (.agg #[.float .f64 0, .bool false, .slice none 0 0, .int .i64 0, .int .i64 0, .int .i64 0]) rfl rfl w2 HS2.out ?_ | refine wpList_load _ rfl 29 (.tmp 2) rfl (.pointer (some ⟨w.heap.size, 0, none⟩)) (I1.val (.slice none 0 0)) rfl HLU.out ?_)
  refine HE1.out.mono ?_
  rintro e w3 ⟨rfl, hb3⟩
  have hx3 := HX2.out.keep hb3
  have HR3 := hide (HR2.out.keep hb3)
  obtain ⟨w4, hs4, hx4, ho4, hl4⟩ := st_unKind w3 _ _ _ hx3 2
  obtain ⟨w5, hs5, hx5, ho5, hl5⟩ := st_unRow w4 _ _ _ hx4 R b len' cap'
  have hr4 : RwBlk w4 (w.heap.size + 1) R (.slice b len' cap') := (ho4 _ (by omega)).trans HR3.out
  have HR5 : Hid (RwBlk w5 (w.heap.size + 1) R (.slice b len' cap')) := (ho5 _ (by omega)).trans hr4
  have HX5 := hide (HKU.out _ hx5)
  have HW5 := hide (hl5 _ _ (hl4 _ _ (rBelow HW2.out hb3) (Nat.le_refl _)) (Nat.le_refl _))
  have HS4 := hide hs4
  have HS5 := hide hs5
  have HLR := hide (load_rw _ _ _ ⟨_, _, _, rfl⟩ _ hr4)
  clear HLU
  have HLU := hide (load_un _ _ _ ⟨_, _, _, rfl⟩ _ HX5.out)
  have HE2 := hide (encodeU_no I2 b len' cap' w5 (by have := HB.out.keep HW5.out (Nat.le_refl _); rw [HIX.out]; exact this) HFU.out HM2.out)
  clear hb3 hx3 hs4 hx4 ho4 hl4 hs5 hx5 ho5 hl5 hr4 HE1 HS1 HS2 HR3
  go_wp2_with (first | refine wpList_store _ rfl rfl 3 (.tmp 31) (.const (.int .i64 2)) rfl (.pointer (some ⟨w.heap.size, 3, none⟩)) (.int .i64 2) rfl rfl w4 HS4.out ?_ | refine wpList_load _ rfl 27 (.tmp 3) rfl (.pointer (some ⟨w.heap.size + 1, 0, none⟩)) (R.val (.slice b len' cap')) rfl HLR.out ?_ | refine wpList_store _ rfl rfl 27 (.tmp 33) (.tmp 32) rfl (.pointer (some ⟨w.heap.size, 6, none⟩)) (R.val (.slice b len' cap')) rfl rfl w5 HS5.out ?_ | refine wpList_load _ rfl 29 (.tmp 2) rfl (.pointer (some ⟨w.heap.size, 0, none⟩)) (I2.val (.slice b len' cap')) rfl HLU.out ?_)
  refine HE2.out.mono ?_
  rintro e w6 ⟨rfl, hb6⟩
  have HW6 := hide (rBelow HW5.out hb6)
  clear hb6 HE2 HLU HLR HS4 HS5
  go_wp2_with fail
  refine (HAW.out _).mono ?_
  rintro e w7 ⟨rfl, hb7⟩
  have HW7 := hide (rBelow HW6.out hb7)
  clear hb7
  go_wp2_with fail
  go_ret
  exact ⟨rfl, HW7.out⟩

set_option maxHeartbeats 4000000 in
set_option maxRecDepth 100000 in
theorem kindsL_yn (A : Un) (R : Rw) (a : Option Addr) (len cap : Nat) (b : Option Addr) (len' cap' : Nat) (w : World) (hB : Fs w b len' cap' R.xs) (fA : A.fits) (fR : R.fits) (h1 : len ≤ 100) (h2 : len' ≤ 100) (hm1 : (insU A).may = true) (hm2 : (updU A R).may = false) :
    Calls Try.prog 6 #[A.val (.slice a len cap), R.val (.slice b len' cap')] w fun e w' => e = .returned (.bool true) ∧ Below w.heap.size w w' := by
  have i1 : ¬ (100 : Int) < (len : Int) := by omega
  have i2 : ¬ (100 : Int) < (len' : Int) := by omega
  have HB := hide hB
  have HFU := hide (updU_fits fA fR)
  have HFI := hide (insU_fits fA)
  have HM2 := hide hm2
  have HAW := hide awakeU_any
  have hw0 := below_two w (.cells #[.int .i64 A.tx, .int .i64 A.no, .int .i64 A.prev, .int .i64 A.kind, .int .i64 A.page, .int .i64 A.slot, .float .f64 A.row.key, .bool A.row.dead, .slice a len cap, .int .i64 A.row.wr, .int .i64 A.row.cell, .int .i64 A.row.no] 29) (.cells #[.float .f64 R.key, .bool R.dead, .slice b len' cap', .int .i64 R.wr, .int .i64 R.cell, .int .i64 R.no] 27)
  have hx0 : UnBlk ((w.alloc (.cells #[.int .i64 A.tx, .int .i64 A.no, .int .i64 A.prev, .int .i64 A.kind, .int .i64 A.page, .int .i64 A.slot, .float .f64 A.row.key, .bool A.row.dead, .slice a len cap, .int .i64 A.row.wr, .int .i64 A.row.cell, .int .i64 A.row.no] 29)).alloc (.cells #[.float .f64 R.key, .bool R.dead, .slice b len' cap', .int .i64 R.wr, .int .i64 R.cell, .int .i64 R.no] 27)) w.heap.size A (.slice a len cap) := (unBlk_new w A (.slice a len cap)).keep (below_alloc _ _)
  have hr0 : RwBlk ((w.alloc (.cells #[.int .i64 A.tx, .int .i64 A.no, .int .i64 A.prev, .int .i64 A.kind, .int .i64 A.page, .int .i64 A.slot, .float .f64 A.row.key, .bool A.row.dead, .slice a len cap, .int .i64 A.row.wr, .int .i64 A.row.cell, .int .i64 A.row.no] 29)).alloc (.cells #[.float .f64 R.key, .bool R.dead, .slice b len' cap', .int .i64 R.wr, .int .i64 R.cell, .int .i64 R.no] 27)) (w.heap.size + 1) R (.slice b len' cap') := by
    have := rwBlk_new (w.alloc (.cells #[.int .i64 A.tx, .int .i64 A.no, .int .i64 A.prev, .int .i64 A.kind, .int .i64 A.page, .int .i64 A.slot, .float .f64 A.row.key, .bool A.row.dead, .slice a len cap, .int .i64 A.row.wr, .int .i64 A.row.cell, .int .i64 A.row.no] 29)) R (.slice b len' cap')
    have hsz : (w.alloc (.cells #[.int .i64 A.tx, .int .i64 A.no, .int .i64 A.prev, .int .i64 A.kind, .int .i64 A.page, .int .i64 A.slot, .float .f64 A.row.key, .bool A.row.dead, .slice a len cap, .int .i64 A.row.wr, .int .i64 A.row.cell, .int .i64 A.row.no] 29)).heap.size = w.heap.size + 1 := by simp
    rw [hsz] at this
    exact this
  obtain ⟨w1, hs1, hx1, ho1, hl1⟩ := st_unKind _ _ _ _ hx0 1
  obtain ⟨w2, hs2, hx2, ho2, hl2⟩ := st_unRow w1 _ _ _ hx1 zeroR none 0 0
  have HW2 := hide (hl2 _ _ (hl1 _ _ hw0 (Nat.le_refl _)) (Nat.le_refl _))
  have HX2 : Hid (UnBlk w2 w.heap.size (insU A) (.slice none 0 0)) := hx2
  have HR2 : Hid (RwBlk w2 (w.heap.size + 1) R (.slice b len' cap')) := (ho2 _ (by omega)).trans ((ho1 _ (by omega)).trans hr0)
  have HS1 := hide hs1
  have HS2 := hide hs2
  have HE1 := hide (encodeU_yes (insU A) none 0 0 w2 (fs_nil w2) HFI.out hm1)
  have HLU := hide (load_un _ _ _ ⟨_, _, _, rfl⟩ _ HX2.out)
  have HI14 := hide (insU_len A)
  have HU34 := hide (updU_len A R)
  have HBL := hide hB.len
  have HKU : Hid (∀ w' : World, UnBlk w' w.heap.size ⟨(insU A).tx, (insU A).no, (insU A).prev, 2, (insU A).page, (insU A).slot, R⟩ (.slice b len' cap') → UnBlk w' w.heap.size (updU A R) (.slice b len' cap')) := fun w' h => h
  have HIX : Hid ((updU A R).row.xs = R.xs) := rfl
  unfold Rw.val zeroR at HS2
  simp only at HS2
  generalize (insU A) = I1 at *
  generalize (updU A R) = I2 at *
  unfold Un.val Rw.val
  clear hw0 hx0 hr0 hs1 hx1 ho1 hl1 hs2 hx2 ho2 hl2 hB fA fR hm1 hm2 h1 HFI
  go_enter Try.func6, Try.ntmps6
  go_wp2_with (first | refine wpList_store _ rfl rfl 3 (.tmp 23) (.const (.int .i64 1)) rfl (.pointer (some ⟨w.heap.size, 3, none⟩)) (.int .i64 1) rfl rfl w1 HS1.out ?_ | refine wpList_store _ rfl rfl 27 (.tmp 25) (.tmp 24) rfl (.pointer (some ⟨w.heap.size, 6, none⟩)) (.agg #[.float .f64 0, .bool false, .slice none 0 0, .int .i64 0, .int .i64 0, .int .i64 0]) rfl rfl w2 HS2.out ?_ | refine wpList_load _ rfl 29 (.tmp 2) rfl (.pointer (some ⟨w.heap.size, 0, none⟩)) (I1.val (.slice none 0 0)) rfl HLU.out ?_)
  refine HE1.out.mono ?_
  rintro e w3 ⟨ya, yn, yc, rfl, hb3, hen⟩
  have hyn : yn = 14 := hen.len.trans HI14.out
  subst hyn
  have hx3 := HX2.out.keep hb3
  have HR3 := hide (HR2.out.keep hb3)
  obtain ⟨w4, hs4, hx4, ho4, hl4⟩ := st_unKind w3 _ _ _ hx3 2
  obtain ⟨w5, hs5, hx5, ho5, hl5⟩ := st_unRow w4 _ _ _ hx4 R b len' cap'
  have hr4 : RwBlk w4 (w.heap.size + 1) R (.slice b len' cap') := (ho4 _ (by omega)).trans HR3.out
  have HR5 : Hid (RwBlk w5 (w.heap.size + 1) R (.slice b len' cap')) := (ho5 _ (by omega)).trans hr4
  have HX5 := hide (HKU.out _ hx5)
  have HW5 := hide (hl5 _ _ (hl4 _ _ (rBelow HW2.out hb3) (Nat.le_refl _)) (Nat.le_refl _))
  have HS4 := hide hs4
  have HS5 := hide hs5
  have HLR := hide (load_rw _ _ _ ⟨_, _, _, rfl⟩ _ hr4)
  clear HLU
  have HLU := hide (load_un _ _ _ ⟨_, _, _, rfl⟩ _ HX5.out)
  have HE2 := hide (encodeU_no I2 b len' cap' w5 (by have := HB.out.keep HW5.out (Nat.le_refl _); rw [HIX.out]; exact this) HFU.out HM2.out)
  clear hb3 hx3 hs4 hx4 ho4 hl4 hs5 hx5 ho5 hl5 hr4 hen HE1 HS1 HS2 HR3
  go_wp2_with (first | refine wpList_store _ rfl rfl 3 (.tmp 31) (.const (.int .i64 2)) rfl (.pointer (some ⟨w.heap.size, 3, none⟩)) (.int .i64 2) rfl rfl w4 HS4.out ?_ | refine wpList_load _ rfl 27 (.tmp 3) rfl (.pointer (some ⟨w.heap.size + 1, 0, none⟩)) (R.val (.slice b len' cap')) rfl HLR.out ?_ | refine wpList_store _ rfl rfl 27 (.tmp 33) (.tmp 32) rfl (.pointer (some ⟨w.heap.size, 6, none⟩)) (R.val (.slice b len' cap')) rfl rfl w5 HS5.out ?_ | refine wpList_load _ rfl 29 (.tmp 2) rfl (.pointer (some ⟨w.heap.size, 0, none⟩)) (I2.val (.slice b len' cap')) rfl HLU.out ?_)
  refine HE2.out.mono ?_
  rintro e w6 ⟨rfl, hb6⟩
  have HW6 := hide (rBelow HW5.out hb6)
  clear hb6 HE2 HLU HLR HS4 HS5
  go_wp2_with fail
  refine (HAW.out _).mono ?_
  rintro e w7 ⟨rfl, hb7⟩
  have HW7 := hide (rBelow HW6.out hb7)
  clear hb7
  go_wp2_with fail
  go_ret
  exact ⟨rfl, HW7.out⟩

set_option maxHeartbeats 4000000 in
set_option maxRecDepth 100000 in
theorem kindsL_yy (A : Un) (R : Rw) (a : Option Addr) (len cap : Nat) (b : Option Addr) (len' cap' : Nat) (w : World) (hB : Fs w b len' cap' R.xs) (fA : A.fits) (fR : R.fits) (h1 : len ≤ 100) (h2 : len' ≤ 100) (hm1 : (insU A).may = true) (hm2 : (updU A R).may = true) :
    Calls Try.prog 6 #[A.val (.slice a len cap), R.val (.slice b len' cap')] w fun e w' => e = .returned (.bool true) ∧ Below w.heap.size w w' := by
  have i1 : ¬ (100 : Int) < (len : Int) := by omega
  have i2 : ¬ (100 : Int) < (len' : Int) := by omega
  have HB := hide hB
  have HFU := hide (updU_fits fA fR)
  have HFI := hide (insU_fits fA)
  have HM2 := hide hm2
  have HAW := hide awakeU_any
  have hw0 := below_two w (.cells #[.int .i64 A.tx, .int .i64 A.no, .int .i64 A.prev, .int .i64 A.kind, .int .i64 A.page, .int .i64 A.slot, .float .f64 A.row.key, .bool A.row.dead, .slice a len cap, .int .i64 A.row.wr, .int .i64 A.row.cell, .int .i64 A.row.no] 29) (.cells #[.float .f64 R.key, .bool R.dead, .slice b len' cap', .int .i64 R.wr, .int .i64 R.cell, .int .i64 R.no] 27)
  have hx0 : UnBlk ((w.alloc (.cells #[.int .i64 A.tx, .int .i64 A.no, .int .i64 A.prev, .int .i64 A.kind, .int .i64 A.page, .int .i64 A.slot, .float .f64 A.row.key, .bool A.row.dead, .slice a len cap, .int .i64 A.row.wr, .int .i64 A.row.cell, .int .i64 A.row.no] 29)).alloc (.cells #[.float .f64 R.key, .bool R.dead, .slice b len' cap', .int .i64 R.wr, .int .i64 R.cell, .int .i64 R.no] 27)) w.heap.size A (.slice a len cap) := (unBlk_new w A (.slice a len cap)).keep (below_alloc _ _)
  have hr0 : RwBlk ((w.alloc (.cells #[.int .i64 A.tx, .int .i64 A.no, .int .i64 A.prev, .int .i64 A.kind, .int .i64 A.page, .int .i64 A.slot, .float .f64 A.row.key, .bool A.row.dead, .slice a len cap, .int .i64 A.row.wr, .int .i64 A.row.cell, .int .i64 A.row.no] 29)).alloc (.cells #[.float .f64 R.key, .bool R.dead, .slice b len' cap', .int .i64 R.wr, .int .i64 R.cell, .int .i64 R.no] 27)) (w.heap.size + 1) R (.slice b len' cap') := by
    have := rwBlk_new (w.alloc (.cells #[.int .i64 A.tx, .int .i64 A.no, .int .i64 A.prev, .int .i64 A.kind, .int .i64 A.page, .int .i64 A.slot, .float .f64 A.row.key, .bool A.row.dead, .slice a len cap, .int .i64 A.row.wr, .int .i64 A.row.cell, .int .i64 A.row.no] 29)) R (.slice b len' cap')
    have hsz : (w.alloc (.cells #[.int .i64 A.tx, .int .i64 A.no, .int .i64 A.prev, .int .i64 A.kind, .int .i64 A.page, .int .i64 A.slot, .float .f64 A.row.key, .bool A.row.dead, .slice a len cap, .int .i64 A.row.wr, .int .i64 A.row.cell, .int .i64 A.row.no] 29)).heap.size = w.heap.size + 1 := by simp
    rw [hsz] at this
    exact this
  obtain ⟨w1, hs1, hx1, ho1, hl1⟩ := st_unKind _ _ _ _ hx0 1
  obtain ⟨w2, hs2, hx2, ho2, hl2⟩ := st_unRow w1 _ _ _ hx1 zeroR none 0 0
  have HW2 := hide (hl2 _ _ (hl1 _ _ hw0 (Nat.le_refl _)) (Nat.le_refl _))
  have HX2 : Hid (UnBlk w2 w.heap.size (insU A) (.slice none 0 0)) := hx2
  have HR2 : Hid (RwBlk w2 (w.heap.size + 1) R (.slice b len' cap')) := (ho2 _ (by omega)).trans ((ho1 _ (by omega)).trans hr0)
  have HS1 := hide hs1
  have HS2 := hide hs2
  have HE1 := hide (encodeU_yes (insU A) none 0 0 w2 (fs_nil w2) HFI.out hm1)
  have HLU := hide (load_un _ _ _ ⟨_, _, _, rfl⟩ _ HX2.out)
  have HI14 := hide (insU_len A)
  have HU34 := hide (updU_len A R)
  have HBL := hide hB.len
  have HKU : Hid (∀ w' : World, UnBlk w' w.heap.size ⟨(insU A).tx, (insU A).no, (insU A).prev, 2, (insU A).page, (insU A).slot, R⟩ (.slice b len' cap') → UnBlk w' w.heap.size (updU A R) (.slice b len' cap')) := fun w' h => h
  have HIX : Hid ((updU A R).row.xs = R.xs) := rfl
  unfold Rw.val zeroR at HS2
  simp only at HS2
  generalize (insU A) = I1 at *
  generalize (updU A R) = I2 at *
  unfold Un.val Rw.val
  clear hw0 hx0 hr0 hs1 hx1 ho1 hl1 hs2 hx2 ho2 hl2 hB fA fR hm1 hm2 h1 HFI
  go_enter Try.func6, Try.ntmps6
  go_wp2_with (first | refine wpList_store _ rfl rfl 3 (.tmp 23) (.const (.int .i64 1)) rfl (.pointer (some ⟨w.heap.size, 3, none⟩)) (.int .i64 1) rfl rfl w1 HS1.out ?_ | refine wpList_store _ rfl rfl 27 (.tmp 25) (.tmp 24) rfl (.pointer (some ⟨w.heap.size, 6, none⟩)) (.agg #[.float .f64 0, .bool false, .slice none 0 0, .int .i64 0, .int .i64 0, .int .i64 0]) rfl rfl w2 HS2.out ?_ | refine wpList_load _ rfl 29 (.tmp 2) rfl (.pointer (some ⟨w.heap.size, 0, none⟩)) (I1.val (.slice none 0 0)) rfl HLU.out ?_)
  refine HE1.out.mono ?_
  rintro e w3 ⟨ya, yn, yc, rfl, hb3, hen⟩
  have hyn : yn = 14 := hen.len.trans HI14.out
  subst hyn
  have hx3 := HX2.out.keep hb3
  have HR3 := hide (HR2.out.keep hb3)
  obtain ⟨w4, hs4, hx4, ho4, hl4⟩ := st_unKind w3 _ _ _ hx3 2
  obtain ⟨w5, hs5, hx5, ho5, hl5⟩ := st_unRow w4 _ _ _ hx4 R b len' cap'
  have hr4 : RwBlk w4 (w.heap.size + 1) R (.slice b len' cap') := (ho4 _ (by omega)).trans HR3.out
  have HR5 : Hid (RwBlk w5 (w.heap.size + 1) R (.slice b len' cap')) := (ho5 _ (by omega)).trans hr4
  have HX5 := hide (HKU.out _ hx5)
  have HW5 := hide (hl5 _ _ (hl4 _ _ (rBelow HW2.out hb3) (Nat.le_refl _)) (Nat.le_refl _))
  have HS4 := hide hs4
  have HS5 := hide hs5
  have HLR := hide (load_rw _ _ _ ⟨_, _, _, rfl⟩ _ hr4)
  clear HLU
  have HLU := hide (load_un _ _ _ ⟨_, _, _, rfl⟩ _ HX5.out)
  have HE2 := hide (encodeU_yes I2 b len' cap' w5 (by have := HB.out.keep HW5.out (Nat.le_refl _); rw [HIX.out]; exact this) HFU.out HM2.out)
  clear hb3 hx3 hs4 hx4 ho4 hl4 hs5 hx5 ho5 hl5 hr4 hen HE1 HS1 HS2 HR3
  go_wp2_with (first | refine wpList_store _ rfl rfl 3 (.tmp 31) (.const (.int .i64 2)) rfl (.pointer (some ⟨w.heap.size, 3, none⟩)) (.int .i64 2) rfl rfl w4 HS4.out ?_ | refine wpList_load _ rfl 27 (.tmp 3) rfl (.pointer (some ⟨w.heap.size + 1, 0, none⟩)) (R.val (.slice b len' cap')) rfl HLR.out ?_ | refine wpList_store _ rfl rfl 27 (.tmp 33) (.tmp 32) rfl (.pointer (some ⟨w.heap.size, 6, none⟩)) (R.val (.slice b len' cap')) rfl rfl w5 HS5.out ?_ | refine wpList_load _ rfl 29 (.tmp 2) rfl (.pointer (some ⟨w.heap.size, 0, none⟩)) (I2.val (.slice b len' cap')) rfl HLU.out ?_)
  refine HE2.out.mono ?_
  rintro e w6 ⟨za, zn, zc, rfl, hb6, hen2⟩
  have HW6 := hide (rBelow HW5.out hb6)
  have HX6 := hide (HX5.out.keep hb6)
  have HR6 := hide (HR5.out.keep hb6)
  have hzn : zn = 34 + 8 * len' := by rw [hen2.len, HU34.out, HBL.out]
  have HD := hide (decodeU_yes I2 HFU.out HM2.out za zn zc w6 hen2)
  have HZN := hide hzn
  clear hb6 HE2 HLU HLR HS4 HS5 hen2 hzn
  go_wp2_with fail
  refine HD.out.mono ?_
  rintro e w7 ⟨xa, xl, xc, rfl, hb7, hfx⟩
  have HW7 := hide (rBelow HW6.out hb7)
  obtain ⟨w8, hst, hblk, hbw⟩ := box_un w7 I2 xa xl xc
  have HST := hide hst
  have HW8 := hide (rBelow HW7.out hbw)
  have HX8 := hide ((HX6.out.keep hb7).keep hbw)
  have HR8 := hide ((HR6.out.keep hb7).keep hbw)
  have HQ8 := hide hblk
  have HSM := hide (refUnSelf_any I2 xa xl xc b len' cap' w8 (hfx.keep hbw (Nat.le_refl _)) (by have := HB.out.keep HW8.out (Nat.le_refl _); rw [HIX.out]; exact this))
  unfold Un.val at HSM
  have x0 := HX8.out.c0
  have y0 := HQ8.out.c0
  have x1 := HX8.out.c1
  have y1 := HQ8.out.c1
  have x2 := HX8.out.c2
  have y2 := HQ8.out.c2
  have x3 := HX8.out.c3
  have y3 := HQ8.out.c3
  have x4 := HX8.out.c4
  have y4 := HQ8.out.c4
  have x5 := HX8.out.c5
  have y5 := HQ8.out.c5
  have x6 := HX8.out.c6
  have y6 := HQ8.out.c6
  have x7 := HX8.out.c7
  have y7 := HQ8.out.c7
  have x8 := HX8.out.c8
  have y8 := HQ8.out.c8
  have x9 := HX8.out.c9
  have y9 := HQ8.out.c9
  have x10 := HX8.out.c10
  have y10 := HQ8.out.c10
  have x11 := HX8.out.c11
  have y11 := HQ8.out.c11
  clear hb7 hst hblk hbw HD hfx
  go_wp2_with (first | refine wpList_alloc _ rfl 29 rfl (.pointer (some ⟨w7.heap.size, 0, none⟩)) (w7.alloc (.cells #[.int .i64 0, .int .i64 0, .int .i64 0, .int .i64 0, .int .i64 0, .int .i64 0, .float .f64 0, .bool false, .slice none 0 0, .int .i64 0, .int .i64 0, .int .i64 0] 29)) (alloc_un w7) ?_ | refine wpList_store _ rfl rfl 29 (.tmp 9) (.tmp 60) rfl (.pointer (some ⟨w7.heap.size, 0, none⟩)) (I2.val (.slice xa xl xc)) rfl rfl w8 HST.out ?_)
  refine HSM.out.mono ?_
  rintro e w9 ⟨rfl, hb9⟩
  have HW9 := hide (rBelow HW8.out hb9)
  have r2 := (HR8.out.keep hb9).c2
  have hzn : (zn : Int) = 34 + 8 * (len' : Int) := by have := HZN.out; omega
  have e34 : ((zn : Int) == 34 + 8 * (len' : Int)) = true := by rw [hzn]; exact beq_self_eq_true _
  have HH2 := hide h2
  clear hb9 HSM hzn x0 y0 x1 y1 x2 y2 x3 y3 x4 y4 x5 y5 x6 y6 x7 y7 x8 y8 x9 y9 x10 y10 x11 y11
  go_wp2_with fail
  refine (HAW.out _).mono ?_
  rintro e w10 ⟨rfl, hb10⟩
  have HW10 := hide (rBelow HW9.out hb10)
  clear hb10
  go_wp2_with fail
  go_ret
  exact ⟨by simp, HW10.out⟩

theorem kindsL_walk (A : Un) (R : Rw) (a : Option Addr) (len cap : Nat) (b : Option Addr) (len' cap' : Nat) (w : World) (_ : Fs w a len cap A.row.xs) (fA : A.fits) (hB : Fs w b len' cap' R.xs) (fR : R.fits) (h1 : len ≤ 100) (h2 : len' ≤ 100) :
    Calls Try.prog 6 #[A.val (.slice a len cap), R.val (.slice b len' cap')] w fun e w' => e = .returned (.bool true) ∧ Below w.heap.size w w' := by
  cases hm2 : (updU A R).may
  · cases hm1 : (insU A).may
    · exact kindsL_nn A R a len cap b len' cap' w hB fA fR h1 h2 hm1 hm2
    · exact kindsL_yn A R a len cap b len' cap' w hB fA fR h1 h2 hm1 hm2
  · exact kindsL_yy A R a len cap b len' cap' w hB fA fR h1 h2 (insU_may hm2) hm2

end Go.Proofs.Ytgjpeeicgkkkbaa
