/-
  An undoing's items and bytes: undorec's own, and the document's; the row that a text tells.
-/
import Derived.Test.YtnhhapipadiffaaUrB
namespace Go.Proofs.Ytnhhapipadiffaa
open Go.RowKit

section
variable {ops : Array Oper} {rest : List Oper} {o : Oper} {a : Act} {Q : Exit → Act → World → Prop}
theorem wpList_conv (w : World) (hgd : o.guard = none) (s d : TypeId) (x : Operand) (ho : o.op = .convert s d x) (u v : Value) (hu : a.eval x = u) (w' : World) (hrun : (convert s d u).run Try.prog w = .ok v w') (hK : wpList Try.prog ops Q rest (a.put o.dst v) w') : wpList Try.prog ops Q (o :: rest) a w := by
  refine wpList_val w hgd v w' ?_ hK
  have e : execOp a.eval o = (do pure (.value (← convert s d (a.eval x)))) := by
    unfold execOp
    rw [ho]
  rw [e, hu]
  simp [hrun]
end

/-- []byte(s). -/
theorem bytes_str (w : World) (s : ByteArray) (hl : s.size ≤ 100000) : ∃ (cap : Nat) (W : World), (convert 9 32 (.string s)).run Try.prog w = .ok (.slice (some ⟨w.heap.size, 0, none⟩) s.size cap) W ∧ Came W (some ⟨w.heap.size, 0, none⟩) s.size cap (strB s) ∧ Below w.heap.size w W := by
  have h := run_bytes_of_string (P := Try.prog) w 9 32 5 s Try.underlying9 Try.underlying32 Try.underlying5
  have hge := grownCap_ge w s.size 0 5
  refine ⟨grownCap w s.size 0 5, _, h, ⟨⟨strB_length s, strB_bytes s, fun i hi => ⟨w.heap.size, 0, rfl, ?_⟩⟩, fun e => (by cases e), hge, by omega⟩, (((Below.refl w.heap.size w).drew).alloc (Nat.le_refl _) _)⟩
  have hi' : i < (strB s).length := by rw [strB_length]; exact hi
  rw [Nat.zero_add]
  show (w.drew.alloc _).cell? ⟨w.drew.heap.size, i, none⟩ = _
  rw [World.cell?_alloc_mark]
  have e1 : s.data.map (fun x => Value.int .u8 ((x.toNat : Nat) : Int)) = (vals (strB s)).toArray := by
    apply Array.toList_inj.1
    rw [Array.toList_map]
    show _ = vals (strB s)
    unfold vals strB
    rw [List.map_map]
    rfl
  unfold bytesRow
  rw [e1]
  have : i < (vals (strB s)).length := by rw [vals_length]; exact hi'
  rw [Array.getElem?_append_left (by simpa using this)]
  simpa using vals_get hi'

theorem kindsU_any (w : World) : Calls Try.prog 55 #[] w fun e w' => e = .returned (.slice (some ⟨w.heap.size, 0, none⟩) 7 7) ∧ w'.heap[w.heap.size]? = some (Obj.cells (kVals undoK).toArray 3 (0, 0)) ∧ Below w.heap.size w w' := by
  have HK := hide (heap_alloc_new w (.cells (kVals undoK).toArray 3))
  have HW := hide (below_alloc w (.cells #[.int .i64 1, .int .i64 3, .int .i64 3, .int .i64 2, .int .i64 1, .int .i64 1, .int .i64 5] 3))
  go_enter Try.func55, Try.ntmps55
  go_wp2_with fail
  go_ret
  exact ⟨rfl, HK.out, HW.out⟩

set_option maxHeartbeats 4000000 in
set_option maxRecDepth 100000 in
theorem textOf_any (u : Un) (a : Option Addr) (len cap : Nat) (w : World) (h : Fs w a len cap u.row.xs) (hf : u.row.fits) (hm : u.row.may = true) :
    Calls Try.prog 67 #[u.val (.slice a len cap)] w fun e w' => e = .returned (.string u.text) ∧ Below w.heap.size w w' := by
  obtain ⟨tx, no, prev, kind, page, slot, r⟩ := u
  simp only at h hf hm
  have HW := hide (below_alloc w (.cells #[.int .i64 tx, .int .i64 no, .int .i64 prev, .int .i64 kind, .int .i64 page, .int .i64 slot, .float .f64 r.key, .bool r.dead, .slice a len cap, .int .i64 r.wr, .int .i64 r.cell, .int .i64 r.no] 30))
  unfold Un.text Un.val
  simp only
  by_cases k1 : kind = 1
  · subst k1
    rw [if_pos rfl]
    clear h hf hm
    go_enter Try.func67, Try.ntmps67
    go_wp2_with fail
    go_ret
    exact ⟨rfl, HW.out⟩
  · rw [if_neg k1]
    have e1 : (kind == 1) = false := beq_eq_false_iff_ne.2 k1
    have HE := hide (encode_any r a len cap _ (h.keep HW.out (Nat.le_refl _)) hf)
    rw [hm] at HE
    have HB := hide (bytes_bytes hm)
    unfold chk at HE
    unfold Rw.val at HE
    clear h hf hm k1
    go_enter Try.func67, Try.ntmps67
    go_wp2_with fail
    refine HE.out.mono ?_
    rintro e w1 ⟨v1, rfl, hb1, ho1, _⟩
    have HW1 := hide (rBelow HW.out hb1)
    obtain ⟨a1, c1, rfl, hbs1, _⟩ := (ho1 (by trivial)).bs HB.out
    obtain ⟨n1, hn1⟩ : ∃ n, r.bytes.length = n := ⟨_, rfl⟩
    rw [hn1] at hbs1 ⊢
    have hcv : (convert 32 9 (.slice a1 n1 c1)).run Try.prog w1 = .ok (.string (bstr r.bytes)) w1 := run_string_of c1 hbs1
    clear hb1 ho1 hbs1 hn1 HE
    go_wp2_with (refine wpList_conv _ rfl 32 9 (.tmp 14) rfl (.slice a1 n1 c1) (.string (bstr r.bytes)) rfl _ hcv ?_)
    go_ret
    exact ⟨rfl, HW1.out⟩

/-- What rowOf tells. -/
def RowTold (k : Int) (s : ByteArray) (w : World) (e : Ending) (w' : World) : Prop :=
  Below w.heap.size w w' ∧ (rowT k s = none → e = .returned (.tuple #[zeroV, .int .i64 4])) ∧
    (∀ r, rowT k s = some r → r.fits ∧ ∃ a len cap, e = .returned (.tuple #[r.val (.slice a len cap), .int .i64 0]) ∧ Fs w' a len cap r.xs ∧ OwnsV 23 w' w.heap.size (.slice a len cap) (fVals r.xs))

theorem Fs.small {w : World} {a : Option Addr} {len cap : Nat} {xs : List Nat} (h : Fs w a len cap xs) (hl : len ≤ 1000000) : xs.length ≤ 1000000 := by rw [h.len]; exact hl

theorem ownsV_len {w : World} {b : Nat} {a : Option Addr} {len cap : Nat} {xs : List Nat} (h : OwnsV 23 w b (.slice a len cap) (fVals xs)) : len = xs.length ∧ xs.length ≤ maxLen := by
  have hl : (fVals xs).length = xs.length := by simp [fVals]
  rcases h.2 with ⟨hv, h0⟩ | ⟨g, cp, cur, hv, _, _, hle, hm, _⟩
  · simp only [Value.slice.injEq] at hv
    rw [hl] at h0
    exact ⟨by omega, by rw [h0]; exact Nat.zero_le _⟩
  · simp only [Value.slice.injEq] at hv
    rw [hl] at hv hle
    exact ⟨hv.2.1, by omega⟩

set_option maxHeartbeats 4000000 in
set_option maxRecDepth 100000 in
theorem rowOfU_any (k : Int) (s : ByteArray) (hs : s.size ≤ 100000) (w : World) :
    Calls Try.prog 56 #[.int .i64 k, .string s] w (RowTold k s w) := by
  have hsf : ∀ (w : World) (a : Addr) (m : Mode) (x : Nat), (store a (.float .f64 x) m).run Try.prog w = stored Try.prog w a (.float .f64 x) m := fun w a m x => run_store Try.prog w a _ m rfl
  have HZ := hide (rwBlk_new w zeroR (.slice none 0 0))
  have HW := hide (below_alloc w (.cells #[.float .f64 0, .bool false, .slice none 0 0, .int .i64 0, .int .i64 0, .int .i64 0] 28))
  by_cases k1 : k = 1
  · subst k1
    by_cases hn : s.toList = []
    · have hT : rowT 1 s = some zeroR := by unfold rowT; rw [if_pos rfl, if_pos hn]
      have e1 : s.toList.isEmpty = true := by rw [hn]; rfl
      have HT := hide hT
      clear hT hn
      go_enter Try.func56, Try.ntmps56
      go_wp2_with fail
      refine bodyPost_ret (rw_results2 rfl HZ.out _ (.int .i64 0) rfl rfl ⟨_, _, _, rfl⟩) rfl ?_
      refine ⟨HW.out, (fun h => by rw [HT.out] at h; cases h), fun r h => ?_⟩
      rw [HT.out] at h
      simp only [Option.some.injEq] at h
      subst h
      exact ⟨zeroR_fits, none, 0, 0, rfl, fs_nil _, OwnsV.nil _ _ _⟩
    · have hT : rowT 1 s = none := by unfold rowT; rw [if_pos rfl, if_neg hn]
      have e1 : s.toList.isEmpty = false := by cases h : s.toList with | nil => exact absurd h hn | cons x l => rfl
      have HT := hide hT
      clear hT hn
      go_enter Try.func56, Try.ntmps56
      go_wp2_with fail
      refine bodyPost_ret (rw_results2 rfl HZ.out _ (.int .i64 4) rfl rfl ⟨_, _, _, rfl⟩) rfl ?_
      exact ⟨HW.out, fun _ => rfl, fun r h => by rw [HT.out] at h; cases h⟩
  · have e1 : (k == 1) = false := beq_eq_false_iff_ne.2 k1
    have e2 : (k != 1) = true := by simp [k1]
    have HT : Hid (rowT k s = decB (strB s)) := by show _ = _; unfold rowT; rw [if_neg k1]
    obtain ⟨c1, w1, hcv, hcm, hb1⟩ := bytes_str (w.alloc (.cells #[.float .f64 0, .bool false, .slice none 0 0, .int .i64 0, .int .i64 0, .int .i64 0] 28)) s hs
    have HD := hide (decode_any _ s.size c1 (strB s) w1 hcm hs)
    have hsz : (w.alloc (.cells #[.float .f64 0, .bool false, .slice none 0 0, .int .i64 0, .int .i64 0, .int .i64 0] 28)).heap.size = w.heap.size + 1 := by simp
    rw [hsz] at hcv HD
    have HW1 := hide (rBelow HW.out hb1)
    have HZ1 := hide (HZ.out.keep hb1)
    have HLT : Hid (w.heap.size < w1.heap.size) := (Array.getElem?_eq_some_iff.1 HZ1.out).1
    obtain ⟨n1, hn1⟩ : ∃ n, s.size = n := ⟨_, rfl⟩
    rw [hn1] at hcv HD
    have HCV := hide hcv
    clear hcm hb1 hsz k1 hs hn1 hcv
    go_enter Try.func56, Try.ntmps56
    go_wp2_with (refine wpList_conv _ rfl 9 32 (.tmp 8) rfl (.string s) (.slice (some ⟨w.heap.size + 1, 0, none⟩) n1 c1) rfl _ HCV.out ?_)
    refine HD.out.mono ?_
    cases hd : decB (strB s) with
    | none =>
      rintro e w2 ⟨hb2, he, _⟩
      obtain rfl := he hd
      have HN : Hid (rowT k s = none) := HT.out.trans hd
      have HW2 := hide (rBelow HW1.out hb2)
      have HZ2 := hide (HZ1.out.keep hb2)
      have z0 := HZ2.out.c0
      have z1 := HZ2.out.c1
      have z2 := HZ2.out.c2
      have z3 := HZ2.out.c3
      have z4 := HZ2.out.c4
      have z5 := HZ2.out.c5
      have f0 := HZ2.out.fz
      unfold zeroV
      clear hb2 hd HD HT HCV
      go_wp2_with fail
      show bodyPost Try.prog Try.f56 _ Exit.ret _ (setRw w2 w.heap.size zeroR (.slice none 0 0))
      refine rw_end2 rfl HZ2.out zeroR (.slice none 0 0) (.int .i64 4) ⟨_, _, _, rfl⟩ (by rfl) (by rfl) (by rfl) ?_
      exact ⟨setRw_below HW2.out (Nat.le_refl _) _ _, fun _ => rfl, fun r h => by rw [HN.out] at h; cases h⟩
    | some r =>
      rintro e w2 ⟨hb2, _, he⟩
      obtain ⟨hfit, ca, cl, cc, rfl, hfs, hown⟩ := he r hd
      have HN : Hid (rowT k s = some r) := HT.out.trans hd
      have HW2 := hide (rBelow HW1.out hb2)
      have HZ2 := hide (HZ1.out.keep hb2)
      have HO := hide hown
      have HFit := hide hfit
      have z0 := HZ2.out.c0
      have z1 := HZ2.out.c1
      have z2 := HZ2.out.c2
      have z3 := HZ2.out.c3
      have z4 := HZ2.out.c4
      have z5 := HZ2.out.c5
      have f0 := HZ2.out.fz
      unfold Rw.val
      clear hb2 hd HD HT HCV hfs hown hfit he
      go_wp2_with fail
      show bodyPost Try.prog Try.f56 _ Exit.ret _ (setRw w2 w.heap.size r (.slice ca cl cc))
      refine rw_end2 rfl HZ2.out r (.slice ca cl cc) (.int .i64 0) ⟨_, _, _, rfl⟩ (by rfl) (by rfl) (by rfl) ?_
      refine ⟨setRw_below HW2.out (Nat.le_refl _) _ _, (fun h => by rw [HN.out] at h; cases h), fun r' h => ?_⟩
      rw [HN.out] at h
      simp only [Option.some.injEq] at h
      subst h
      have ho := HO.out.setRw HZ2.out r (.slice ca cl cc)
      have hl := ownsV_len ho
      refine ⟨HFit.out, ca, cl, cc, rfl, ?_, ho.lower (Nat.le_of_lt HLT.out)⟩
      obtain ⟨a', cap', hv, hvs, hnil, hle⟩ := ho.vs (fVals_one _)
      have hfl : (fVals r.xs).length = r.xs.length := by simp [fVals]
      simp only [Value.slice.injEq] at hv
      obtain ⟨rfl, e2, rfl⟩ := hv
      rw [← e2] at hvs hle
      exact ⟨hvs, HFit.out.xs, hnil, hle, by have := hl.1; have h2 := hl.2; unfold maxLen at h2; omega⟩

end Go.Proofs.Ytnhhapipadiffaa
