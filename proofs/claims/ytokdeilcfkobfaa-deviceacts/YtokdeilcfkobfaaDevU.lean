/-
  The document's device: New.
-/
import Derived.Test.YtokdeilcfkobfaaDevT
import Derived.Test.YtokdeilcfkobfaaLdO
namespace Go.Proofs.Ytokdeilcfkobfaa
open Go.RowKit
variable {K : Home}

/-- A new device, as the document has it. -/
def Dv.new (n : Nat) : Dv := ⟨⟨List.replicate (512 * n) 0, 0, []⟩, ⟨List.replicate (512 * n) 0, 0, []⟩, [], false, -1⟩

set_option maxHeartbeats 8000000 in
set_option maxRecDepth 100000 in
theorem refNew_any (w : World) (hK : K.low ≤ w.heap.size) (n : Nat) (hn : n ≤ 64) : Calls Try.prog 12 #[.int .i64 ((n : Nat) : Int)] w fun e w' => Below w.heap.size w w' ∧ ∃ L, e = .returned ((Dv.new n).val L) ∧ DvIn K w' (Dv.new n) L := by
  obtain ⟨W1, hW1⟩ : ∃ W1, W1 = w.alloc (.cells #[.slice none 0 0, .int .i64 0, .slice none 0 0, .slice none 0 0, .int .i64 0, .slice none 0 0, .slice none 0 0, .bool false, .int .i64 0] 35) := ⟨_, rfl⟩
  have hs1 : W1.heap.size = w.heap.size + 1 := by rw [hW1]; simp
  have hb1 : Below w.heap.size w W1 := by rw [hW1]; exact below_alloc w _
  have hz1 : DvBlk W1 w.heap.size Sl.nil.val 0 Sl.nil.val Sl.nil.val 0 Sl.nil.val Sl.nil.val false 0 := by rw [hW1]; exact dvBlk_new w _ _ _ _ _ _ _ _ _
  have hmk := make_bytes (512 * n) (by omega) W1
  have hcm := came_made W1 (512 * n) (by omega)
  have hb2 := below_alloc W1 (.cells (vals (List.replicate (512 * n) 0)).toArray 5)
  generalize (.cells (vals (List.replicate (512 * n) 0)).toArray 5 : Obj) = C at hmk hcm hb2
  have hbs : BsS K (W1.alloc C) ⟨some ⟨W1.heap.size, 0, none⟩, 512 * n, 512 * n⟩ (List.replicate (512 * n) 0) := ⟨hcm, Nat.le_trans hK (rBelow hb1 hb2).size, fun _ ad ha => by cases ha; exact K.all _ (Nat.le_trans hK (by show w.heap.size ≤ W1.heap.size; omega))⟩
  have hz2 := hz1.keep hb2
  have hs2 : (W1.alloc C).heap.size = w.heap.size + 1 + 1 := by simp; omega
  rw [hs1] at hmk hbs
  have HM := hide hmk
  have HBS := hide hbs
  have HB2 := hide (rBelow hb1 hb2)
  have hW1' := hW1
  have HW1 := hide hW1
  generalize hW2 : W1.alloc C = W2 at hmk hbs hz2 hs2 HM HBS HB2
  clear hcm hb2 hb1 hz1 hmk hbs hW2 hW1 hW1'
  have HZ2 := hide hz2
  have HS2 := hide hs2
  have hmul : IntKind.i64.wrap (512 * ((n : Nat) : Int)) = 512 * ((n : Nat) : Int) := by rw [IntKind.wrap_i64]; omega
  have hmk2 := HM.out
  rw [show (((512 * n : Nat)) : Int) = 512 * ((n : Nat) : Int) by omega] at hmk2
  have HM2 := hide hmk2
  clear hmk2 hz2
  obtain ⟨s, hs⟩ : ∃ s : Sl, s = ⟨some ⟨w.heap.size + 1, 0, none⟩, 512 * n, 512 * n⟩ := ⟨_, rfl⟩
  have hb3 := below_alloc W2 (.cells #[s.val, .int .i64 0, Sl.nil.val] 32)
  have HZ3 := hide (HZ2.out.keep hb3)
  have HSD := hide (store_dv w.heap.size (Dv.new n) ⟨s, Sl.nil, s, Sl.nil, Sl.nil⟩ _ HZ3.out)
  have HB3 := hide (HB2.out.trans (hb3.mono HB2.out.size))
  have HBS3 := hide (HBS.out.keep hb3 (Nat.le_refl _))
  rw [← hs] at HBS3
  clear hb3
  have HSV : Hid (s.val = .slice (some ⟨w.heap.size + 1, 0, none⟩) (512 * n) (512 * n)) := by rw [hs]; exact hide rfl
  have HVV : Hid ((Dv.new n).val ⟨s, Sl.nil, s, Sl.nil, Sl.nil⟩ = .agg #[.slice (some ⟨w.heap.size + 1, 0, none⟩) (512 * n) (512 * n), .int .i64 0, .slice none 0 0, .slice (some ⟨w.heap.size + 1, 0, none⟩) (512 * n) (512 * n), .int .i64 0, .slice none 0 0, .slice none 0 0, .bool false, .int .i64 (-1)]) := by rw [hs]; exact hide rfl
  have hsd := HSD.out
  rw [HVV.out, HSV.out] at hsd
  have HSD2 := hide hsd
  rw [HSV.out] at HZ3 HB3 HBS3
  have HS := hide hs
  clear HSD hsd hs
  unfold Sl.nil Sl.val at HSD2 HZ3 HB3 HBS3
  simp only at HSD2 HZ3 HB3 HBS3
  obtain ⟨W3, hW3⟩ : ∃ W3, W3 = W2.alloc (.cells #[.slice (some ⟨w.heap.size + 1, 0, none⟩) (512 * n) (512 * n), .int .i64 0, .slice none 0 0] 32) := ⟨_, rfl⟩
  rw [← hW3] at HSD2 HZ3 HB3 HBS3
  have HW3 := hide hW3
  clear hW3
  go_enter Try.func12, Try.ntmps12
  go_wp2_with (first | (rw [← HW1.out]; refine wpList_make _ rfl 30 (.tmp 5) (.tmp 5) rfl (.int .i64 (512 * ((n : Nat) : Int))) (.int .i64 (512 * ((n : Nat) : Int))) (.slice (some ⟨w.heap.size + 1, 0, none⟩) (512 * n) (512 * n)) rfl rfl W2 HM2.out ?_) | (rw [← HW3.out]; refine wpList_store _ rfl rfl 35 (.tmp 2) (.tmp 10) rfl (.pointer (some ⟨w.heap.size, 0, none⟩)) _ rfl rfl _ HSD2.out ?_))
  refine dv_end rfl HZ3.out (Dv.new n) ⟨⟨some ⟨w.heap.size + 1, 0, none⟩, 512 * n, 512 * n⟩, Sl.nil, ⟨some ⟨w.heap.size + 1, 0, none⟩, 512 * n, 512 * n⟩, Sl.nil, Sl.nil⟩ (by rfl) rfl ?_
  have hbs3 := HBS3.out
  rw [HS.out] at hbs3
  have hno : ∀ o i, W3.cell? ⟨w.heap.size, o, none⟩ ≠ some (.int .u8 i) := DvBlk.no8 (s0 := Sl.nil) (s2 := Sl.nil) (s3 := Sl.nil) (s5 := Sl.nil) (s6 := Sl.nil) HZ3.out
  have hbb := setDv_below HB3.out (Nat.le_refl w.heap.size) (Sl.val ⟨some ⟨w.heap.size + 1, 0, none⟩, 512 * n, 512 * n⟩) 0 Sl.nil.val (Sl.val ⟨some ⟨w.heap.size + 1, 0, none⟩, 512 * n, 512 * n⟩) 0 Sl.nil.val Sl.nil.val false (-1)
  have hlow : K.low ≤ (setDv W3 w.heap.size (Sl.val ⟨some ⟨w.heap.size + 1, 0, none⟩, 512 * n, 512 * n⟩) 0 Sl.nil.val (Sl.val ⟨some ⟨w.heap.size + 1, 0, none⟩, 512 * n, 512 * n⟩) 0 Sl.nil.val Sl.nil.val false (-1)).heap.size := Nat.le_trans hK hbb.size
  have hin : DkIn K (setDv W3 w.heap.size (Sl.val ⟨some ⟨w.heap.size + 1, 0, none⟩, 512 * n, 512 * n⟩) 0 Sl.nil.val (Sl.val ⟨some ⟨w.heap.size + 1, 0, none⟩, 512 * n, 512 * n⟩) 0 Sl.nil.val Sl.nil.val false (-1)) ⟨List.replicate (512 * n) 0, 0, []⟩ ⟨some ⟨w.heap.size + 1, 0, none⟩, 512 * n, 512 * n⟩ Sl.nil :=
    ⟨hbs3.other hno (fun k hk => setDv_other _ _ _ _ _ _ _ _ _ _ _ k hk) (by rw [setDv_size]; exact Nat.le_refl _), bsS_nil _ hlow⟩
  exact ⟨hbb, _, rfl, hin, hin, ⟨rfl, (fun i hi => by cases hi), (fun j hj => absurd hj (Nat.not_lt_zero j))⟩, (fun _ => rfl), Nat.le_refl _⟩


end Go.Proofs.Ytokdeilcfkobfaa
