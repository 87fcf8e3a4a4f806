/-
  Layer 11, the landed table: Encode.
-/
import Derived.Test.YtdbgbldmjgonjaaTcI
import Derived.Test.YtdbgbldmjgonjaaTcB
import Derived.Test.YtdbgbldmjgonjaaTbO
namespace Go.Proofs.Ytdbgbldmjgonjaa
open Go.RowKit
set_option linter.unusedVariables false

def z508 : List Nat := List.replicate 508 0
theorem make508 (w : World) : (Instr.makeSlice 26 (.int .i64 508) (.int .i64 508)).run Try.prog w = .ok (.slice (some ⟨w.heap.size, 0, none⟩) 508 508) (w.alloc (.cells (vals z508).toArray 5)) := make_bytesT 508 (by decide) w
/-- Bytes copied over noughts. -/
theorem copy508 (w : World) (g b : Nat) (cap : Nat) (ys : List Nat) (hg : w.heap[g]? = some (Obj.cells (vals z508).toArray 5 (0, 0))) (hy : Bs w (some ⟨b, 0, none⟩) 145 ys) (ty : TypeId) :
    (Builtin.copy_ #[26, 26] ty #[.slice (some ⟨g, 0, none⟩) 508 508, .slice (some ⟨b, 0, none⟩) 145 cap]).run Try.prog w = .ok (.int .i64 145) (w.setRow g (vals (ys ++ List.replicate 363 0)).toArray) := by
  have hinfo : (Try.prog.info? 5).map (·.size) = some 1 := by kernel_rfl
  have hyl := hy.1
  have hsrc : ∀ j v, (vals ys)[j]? = some v → w.cell? ((⟨b, 0, none⟩ : Addr).add j) = some v := by
    intro j v hj
    have hjl : j < ys.length := by
      have := (List.getElem?_eq_some_iff.1 hj).1
      simpa [vals] using this
    rw [Addr.add_lit]
    obtain ⟨b', o', e, hc⟩ := hy.2.2 j (by omega)
    simp only [Option.some.injEq, Addr.mk.injEq, and_true] at e
    obtain ⟨rfl, rfl⟩ := e
    rw [hc]
    rw [vals_get hjl] at hj
    exact hj
  have h := run_copy_row (P := Try.prog) w 26 26 ty 5 g 0 508 508 ⟨b, 0, none⟩ 145 cap (vals z508).toArray 5 (vals ys) Try.underlying26 hinfo hg (by rw [vals_length, hyl]; rfl) hsrc (by rw [vals_length, hyl, List.size_toArray, vals_length]; unfold z508; rw [List.length_replicate]; decide) (vals_one ys)
  rw [h, vals_length, hyl]
  have e : List.take 0 (vals z508).toArray.toList ++ vals ys ++ List.drop (0 + 145) (vals z508).toArray.toList = vals (ys ++ List.replicate 363 0) := by
    rw [List.take_zero, List.nil_append, Nat.zero_add]
    show vals ys ++ List.drop 145 (vals z508) = _
    rw [show List.drop 145 (vals z508) = vals (List.replicate 363 0) by unfold z508 vals; rw [← List.map_drop, List.drop_replicate]]
    unfold vals
    rw [List.map_append]
  rw [e]
  rfl

/-- What Encode tells. -/
def EncSay (t : Tb) (w : World) (e : Ending) (w' : World) : Prop := ∃ u, e = .returned (.tuple #[u, .int .i64 (checkL t)]) ∧ Below w.heap.size w w' ∧ (mayB t = true → Owns w' w.heap.size u (pageT t)) ∧ (mayB t = false → ∃ a c, u = .slice a 0 c)

set_option maxHeartbeats 8000000 in
set_option maxRecDepth 100000 in
theorem encT_any (t : Tb) (v : Sl) (w : World) (h : Es w v t.es) : Calls Try.prog 9 #[t.val v] w (EncSay t w) := by
  have hA := below_box w t v
  have HA := hide hA
  have HT := hide (TbBlk.new w t v)
  have HLD := hide (load_tb w.heap.size t v _ HT.out)
  have HE := hide (h.keep hA (Nat.le_refl _))
  cases hm : mayB t with
  | false =>
    have HC := hide (checkT_no hm v _ HE.out)
    have HF : Hid (∀ w', Below w.heap.size w w' → EncSay t w (.returned (.tuple #[.slice none 0 0, .int .i64 1])) w') := fun w' hb => ⟨.slice none 0 0, by rw [checkL_no hm], hb, (fun k => by rw [hm] at k; cases k), fun _ => ⟨none, 0, rfl⟩⟩
    clear h hA hm HE HT
    unfold Tb.val
    go_enter Try.func9, Try.ntmps9
    go_wp2_with (refine wpList_load _ rfl 24 (.tmp 1) rfl (.pointer (some ⟨w.heap.size, 0, none⟩)) (t.val v) rfl HLD.out ?_)
    refine HC.out.mono ?_
    rintro e w1 ⟨rfl, hb1⟩
    have HB1 := hide (rBelow HA.out hb1)
    clear hb1
    go_wp2_with fail
    go_ret2
    exact HF.out _ HB1.out
  | true =>
    have hM := mayB_iff.1 hm
    have HM := hide hM
    have HC := hide (checkT_yes hM v _ HE.out)
    have HF : Hid (∀ u w', Below w.heap.size w w' → Owns w' w.heap.size u (pageT t) → EncSay t w (.returned (.tuple #[u, .int .i64 0])) w') := fun u w' hb ho => ⟨u, by rw [checkL_yes hM], hb, fun _ => ho, (fun k => by rw [hm] at k; cases k)⟩
    clear h hA hm hM
    unfold Tb.val
    go_enter Try.func9, Try.ntmps9
    go_wp2_with (refine wpList_load _ rfl 24 (.tmp 1) rfl (.pointer (some ⟨w.heap.size, 0, none⟩)) (t.val v) rfl HLD.out ?_)
    refine HC.out.mono ?_
    rintro e w1 ⟨rfl, hb1⟩
    have HB1 := hide (rBelow HA.out hb1)
    have HLD1 := hide (load_tb w.heap.size t v _ (HT.out.keep hb1))
    have HI := hide (itemsT_any t v w1 (HE.out.keep hb1 (Nat.le_refl _)) HM.out)
    clear hb1 HE HT HLD HC
    go_wp2_with (refine wpList_load _ rfl 24 (.tmp 1) rfl (.pointer (some ⟨w.heap.size, 0, none⟩)) (t.val v) rfl HLD1.out ?_)
    refine HI.out.mono ?_
    rintro e w2 ⟨ia, ic, rfl, his, hb2⟩
    have hput := put_any ia 52 ic (itemsT t) w2 his (by decide)
    rw [itemsT_all HM.out] at hput
    have HP := hide hput
    have HB2 := hide (rBelow HB1.out hb2)
    clear his hb2 hput HI HLD1
    go_wp2_with fail
    refine HP.out.mono ?_
    rintro e w3 ⟨v3, rfl, hb3, ho3, _⟩
    have ho3' := ho3 (by trivial)
    have hln := itemsT_bytes HM.out.len
    obtain ⟨g3, c3, hv3, _, _, _⟩ := ho3'.pos (by rw [hln]; decide)
    rw [hln] at hv3
    subst hv3
    have hbs := (ho3'.row (by
      have h1 := bodyT_bytes HM.out
      exact fun x hx => h1 x (List.mem_append_left _ hx))).2
    rw [hln] at hbs
    have HB3 := hide (rBelow HB2.out hb3)
    have hB4 := below_alloc w3 (.cells (vals z508).toArray 5)
    have HMK := hide (make508 w3)
    have hg4 := heap_alloc_new w3 (.cells (vals z508).toArray 5)
    have HCP := hide (fun ty => copy508 (w3.alloc (.cells (vals z508).toArray 5)) w3.heap.size g3 c3 _ hg4 (hbs.keep hB4 (Nat.le_refl _)) ty)
    have hg5 := row_setT hg4 (vals (putB (itemsT t) ++ List.replicate 363 0)).toArray
    have HB5 := hide (HB3.out.trans ((below_setRow hB4 (Nat.le_refl _) (vals (putB (itemsT t) ++ List.replicate 363 0)).toArray).mono HB3.out.size))
    have ebd : putB (itemsT t) ++ List.replicate 363 0 = bodyT t := by unfold bodyT; rw [hln]
    rw [ebd] at hg5 HCP HB5
    generalize (w3.alloc (.cells (vals z508).toArray 5)).setRow w3.heap.size (vals (bodyT t)).toArray = W5 at *
    generalize w3.alloc (.cells (vals z508).toArray 5) = W4 at *
    have hlb := bodyT_len HM.out.len
    have hb5 : Bs W5 (some ⟨w3.heap.size, 0, none⟩) 508 (bodyT t) := by
      refine ⟨hlb, bodyT_bytes HM.out, fun i hi => ⟨w3.heap.size, 0, rfl, ?_⟩⟩
      rw [Nat.zero_add, cell_of_row _ _ _ _ _ _ hg5]
      simpa using vals_get (by rw [hlb]; exact hi)
    have HSL := hide (seal_any (some ⟨w3.heap.size, 0, none⟩) 508 508 (bodyT t) W5 hb5 (fun h => by cases h) (by decide))
    have hcopy := HCP.out
    clear ho3 ho3' hln hbs hB4 hg4 hg5 ebd hlb hb5 hb3 HP HCP
    go_wp2_with (refine wpList_makeT _ rfl 26 (.const (.int .i64 508)) (.const (.int .i64 508)) rfl (.int .i64 508) (.int .i64 508) (.slice (some ⟨w3.heap.size, 0, none⟩) 508 508) rfl rfl W4 HMK.out ?_)
    refine HSL.out.mono ?_
    rintro e w6 ⟨v6, rfl, ho6, hb6⟩
    have HB6 := hide (rBelow HB5.out hb6)
    have HO6 : Hid (Owns w6 w.heap.size v6 (pageT t)) := ho6.lower HB5.out.size
    clear ho6 hb6 HSL hcopy
    go_wp2_with fail
    go_ret2
    exact HF.out _ _ HB6.out HO6.out

end Go.Proofs.Ytdbgbldmjgonjaa
