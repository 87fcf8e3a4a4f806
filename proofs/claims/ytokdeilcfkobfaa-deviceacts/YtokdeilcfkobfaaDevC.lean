/-
  The document's device: a disk behind a sector's write.
-/
import Derived.Test.YtokdeilcfkobfaaDevB
namespace Go.Proofs.Ytokdeilcfkobfaa
open Go.RowKit
variable {K : Home}

/-- Bytes stay where another block turns that holds none. -/
theorem BsS.other {w w' : World} {s : Sl} {xs : List Nat} {g : Nat} (h : BsS K w s xs) (hg : ∀ o i, w.cell? ⟨g, o, none⟩ ≠ some (.int .u8 i)) (ho : ∀ k, k ≠ g → w'.heap[k]? = w.heap[k]?) (hs : w.heap.size ≤ w'.heap.size := by first | (simp only [setCell_size, Nat.le_refl]; done) | (simp only [setDk_size, setCell_size, Nat.le_refl]; done) | (simp only [setPt_size, setDk_size, setCell_size, Nat.le_refl]; done) | (simp only [setNow_size, setDv_size, setPt_size, setDk_size, setCell_size, Nat.le_refl]; done)) : BsS K w' s xs := by
  refine ⟨⟨⟨h.bs.1, h.bs.2.1, fun i hi => ?_⟩, h.nil, h.le, h.big⟩, Nat.le_trans h.low hs, h.home⟩
  obtain ⟨b, off, ha, hc⟩ := h.bs.2.2 i hi
  refine ⟨b, off, ha, ?_⟩
  have hne : b ≠ g := by
    intro e
    subst e
    exact hg _ _ hc
  have := ho b hne
  simp only [World.cell?] at hc ⊢
  rw [this]
  exact hc
theorem DkBlk.no8 {w : World} {g : Nat} {s1 s2 : Sl} {b : Int} (h : DkBlk w g s1.val b s2.val) : ∀ o i, w.cell? ⟨g, o, none⟩ ≠ some (.int .u8 i) := by
  intro o i
  unfold DkBlk Sl.val at h
  rcases o with _ | _ | _ | o <;> simp [World.cell?, h]
theorem DkBlk.set0 {w : World} {g : Nat} {x y : Value} {b : Int} (h : DkBlk w g x b y) (u : Value) : DkBlk (w.setCell ⟨g, 0, none⟩ u) g u b y := by
  have := heap_setCell_same w g 0 _ 32 u h
  unfold DkBlk
  rw [this]
  simp
theorem DkBlk.set2 {w : World} {g : Nat} {x y : Value} {b : Int} (h : DkBlk w g x b y) (u : Value) : DkBlk (w.setCell ⟨g, 2, none⟩ u) g x b u := by
  have := heap_setCell_same w g 2 _ 32 u h
  unfold DkBlk
  rw [this]
  simp
theorem DkBlk.off {w : World} {g : Nat} {x y : Value} {b : Int} (h : DkBlk w g x b y) {q o : Nat} (hq : g ≠ q) (u : Value) : DkBlk (w.setCell ⟨q, o, none⟩ u) g x b y := by
  unfold DkBlk
  rw [Below.heap_setCell _ ⟨q, o, none⟩ _ g hq]
  exact h

set_option maxHeartbeats 4000000 in
set_option maxRecDepth 100000 in
theorem turn_sector (d : Dk) (p s : Sl) (u : Pt) (q : Sl) (k : Nat) (w : World) (h : DkIn K w d p s) (hu : BsS K w q u.b) (ha : u.at_ = (k : Nat)) (hl : 128 * k + 128 ≤ p.len) (hp : p.len ≤ 100000) (hb : q.len ≤ 1000) :
    Calls Try.prog 41 #[d.val p s, u.val q] w fun e w' => Below w.heap.size w w' ∧ ∃ p' s', e = .returned (Dk.val ⟨d.pg.take (128 * k) ++ u.b ++ d.pg.drop (128 * k + 128), d.base, d.st⟩ p' s') ∧ DkIn K w' ⟨d.pg.take (128 * k) ++ u.b ++ d.pg.drop (128 * k + 128), d.base, d.st⟩ p' s' := by
  obtain ⟨pg, base, st⟩ := d
  obtain ⟨at_, b, trim, to⟩ := u
  obtain ⟨pa, pl, pc⟩ := p
  obtain ⟨sa, sl, sc⟩ := s
  obtain ⟨qa, ql, qc⟩ := q
  simp only at h hu ha hl hp hb ⊢
  subst ha
  obtain ⟨K, hK⟩ : ∃ K, K = 128 * k := ⟨_, rfl⟩
  rw [← hK] at hl ⊢
  have hle := h.pg.le
  simp only at hle
  obtain ⟨K2, hK2⟩ : ∃ K2, K2 = K + 128 := ⟨_, rfl⟩
  rw [← hK2] at hl ⊢
  have hs1 := slice_upto pa pl pc K (by omega)
  have hs2 := slice_from pa pl pc K2 (by omega)
  rw [show ((K : Nat) : Int) = 128 * ((k : Nat) : Int) by omega] at hs1
  rw [show ((K2 : Nat) : Int) = 128 * ((k : Nat) : Int) + 128 by omega] at hs2
  subst hK2
  subst hK
  have H := hide h
  have HU := hide hu
  have HXB := hide h.pg.bs.2.1
  have HXU := hide hu.bs.2.1
  have HLp := hide h.pg.len
  have HLu := hide hu.len
  have hk0 : (0 : Int) ≤ ((k : Nat) : Int) := by omega
  obtain ⟨W, hW⟩ : ∃ W, W = ((w.alloc (.cells #[.slice pa pl pc, .int .i64 base, .slice sa sl sc] 32)).alloc (.cells #[.int .i64 ((k : Nat) : Int), .slice qa ql qc, .bool trim, .int .i64 to] 81)).alloc (.cells #[.slice none 0 0, .int .i64 0, .slice none 0 0] 32) := ⟨_, rfl⟩
  have hWs : W.heap.size = w.heap.size + 1 + 1 + 1 := by rw [hW]; simp
  have hWb : Below w.heap.size w W := by rw [hW]; exact rBelow (below_two w _ _) (below_alloc _ _)
  have hB2 : DkBlk W w.heap.size (.slice pa pl pc) base (.slice sa sl sc) := by
    rw [hW]
    exact ((dkBlk_new w (.slice pa pl pc) base (.slice sa sl sc)).keep (below_alloc _ _)).keep (below_alloc _ _)
  have hB4 : DkBlk W (w.heap.size + 1 + 1) (.slice none 0 0) 0 (.slice none 0 0) := by
    rw [hW]
    have := dkBlk_new ((w.alloc (.cells #[.slice pa pl pc, .int .i64 base, .slice sa sl sc] 32)).alloc (.cells #[.int .i64 ((k : Nat) : Int), .slice qa ql qc, .bool trim, .int .i64 to] 81)) (.slice none 0 0) 0 (.slice none 0 0)
    simpa using this
  have hB3 : PtBlk W (w.heap.size + 1) ((k : Nat) : Int) (.slice qa ql qc) trim to := by
    rw [hW]
    have := (ptBlk_new (w.alloc (.cells #[.slice pa pl pc, .int .i64 base, .slice sa sl sc] 32)) ((k : Nat) : Int) (.slice qa ql qc) trim to).keep (below_alloc _ (.cells #[.slice none 0 0, .int .i64 0, .slice none 0 0] 32))
    simpa using this
  have HWB := hide hWb
  have HB2 := hide hB2
  have HB3 := hide hB3
  have HB4 := hide hB4
  have HWE := hide hW
  have HWS := hide hWs
  have HO : Hid (Owns (W.alloc (.cells #[] 5)) W.heap.size (.slice (some ⟨W.heap.size, 0, none⟩) 0 0) []) := own_new W
  have HA := hide (below_alloc W (.cells #[] 5))
  have HV1 := hide ((h.pg.bs.upto (cap := pc) (k := 128 * k) (by show 128 * k ≤ pl; omega)).keep (rBelow hWb (below_alloc W (.cells #[] 5))) (Nat.le_refl _))
  have HN1 : Hid (fromA pa pc 0 = none → pc = 0) := by
    intro e
    unfold fromA at e
    split at e
    · omega
    · cases hpa : pa with
      | none => exact h.pg.nil hpa
      | some x => rw [hpa] at e; simp at e
  have HL1 : Hid (([] : List Nat).length + 128 * k ≤ 1000000) := by show _ ≤ _; simp; omega
  have HAS : Hid (w.heap.size + 1 + 1 + 1 ≤ (W.alloc (.cells #[] 5)).heap.size) := by show _ ≤ _; rw [← hWs]; exact (below_alloc W _).size
  rw [hWs] at HO
  rw [hW] at HO HV1 HAS
  clear h hu hW hWs hWb hB2 hB3 hB4
  unfold Dk.val Pt.val Sl.val
  simp only
  go_enter Try.func41, Try.ntmps41
  go_wp2_with (at_builtin; refine wpList_append_bytes' _ rfl (.tmp 9) (.tmp 15) rfl (w.heap.size + 1 + 1 + 1) _ [] rfl HO.out _ _ _ _ rfl HV1.out HN1.out HL1.out HAS.out ?_)
  intro v1 w1 ho1 hb1 hs1'
  clear hs1'
  rw [← HWE.out] at hb1
  have hW1 : Below W.heap.size W w1 := HA.out.trans (by rw [HWS.out]; exact hb1)
  have HO1 := hide ho1
  have HW1 := hide hW1
  have HV2 := hide (HU.out.bs.keep (rBelow HWB.out hW1) (Nat.le_refl _))
  have HN2 : Hid (qa = none → qc = 0) := HU.out.nil
  have HL2 : Hid ((pg.take (128 * k)).length + ql ≤ 1000000) := by
    show _ ≤ _
    rw [List.length_take]; omega
  have HS1 : Hid (w.heap.size + 1 + 1 + 1 ≤ w1.heap.size) := by
    show _ ≤ _
    rw [← HWS.out]; exact hW1.size
  have c1 := (HB3.out.keep hW1).c1
  clear HO HV1 HN1 HL1 HAS ho1 hb1 hW1 hs1
  go_wp2_with (at_builtin; refine wpList_append_bytes' _ rfl (.tmp 17) (.tmp 19) rfl (w.heap.size + 1 + 1 + 1) _ (pg.take (128 * k)) rfl HO1.out _ _ _ _ rfl HV2.out HN2.out HL2.out HS1.out ?_)
  intro v2 w2 ho2 hb2 hs2'
  clear hs2' c1
  have hW2 : Below W.heap.size W w2 := HW1.out.trans (by rw [HWS.out]; exact hb2)
  have HO2 := hide ho2
  have HW2 := hide hW2
  have HV3 := hide ((H.out.pg.bs.from (cap := pc) (k := 128 * k + 128) hl hle).keep (rBelow HWB.out hW2) (Nat.le_refl _))
  have HN3 : Hid (fromA pa pc (128 * k + 128) = none → pc - (128 * k + 128) = 0) := (H.out.pg.from_ (k := 128 * k + 128) hl).nil
  have HL3 : Hid ((pg.take (128 * k) ++ b).length + (pl - (128 * k + 128)) ≤ 1000000) := by
    have e2 := HLu.out
    show _ ≤ _
    rw [List.length_append, List.length_take, e2]; omega
  have HS2 : Hid (w.heap.size + 1 + 1 + 1 ≤ w2.heap.size) := by
    show _ ≤ _
    rw [← HWS.out]; exact hW2.size
  have c0 := (HB2.out.keep hW2).c0
  have c3 := (HB3.out.keep hW2).c0
  clear HO1 HV2 HN2 HL2 HS1 HW1 ho2 hb2 hW2
  go_wp2_with (at_builtin; refine wpList_append_bytes' _ rfl (.tmp 21) (.tmp 28) rfl (w.heap.size + 1 + 1 + 1) _ (pg.take (128 * k) ++ b) rfl HO2.out _ _ _ _ rfl HV3.out HN3.out HL3.out HS2.out ?_)
  intro v3 w3 ho3 hb3 hs3'
  clear hs3' c0 c3
  have hW3 : Below W.heap.size W w3 := HW2.out.trans (by rw [HWS.out]; exact hb3)
  have hxs : Bytes (pg.take (128 * k) ++ b ++ pg.drop (128 * k + 128)) := by
    intro x hx
    rcases List.mem_append.1 hx with h1 | h1
    · rcases List.mem_append.1 h1 with h2 | h2
      · exact HXB.out x (List.mem_of_mem_take h2)
      · exact HXU.out x h2
    · exact HXB.out x (List.mem_of_mem_drop h1)
  rw [← List.append_assoc] at ho3
  obtain ⟨s3, rfl, hs3⟩ := ho3.sl (K := K) hxs (by
    have e1 := HLp.out
    have e2 := HLu.out
    simp only [List.length_append, List.length_take, List.length_drop, e1, e2]; omega) (by have := H.out.pg.low; omega) (by have h1 := H.out.pg.low; have h2 := (rBelow HWB.out hW3).size; omega)
  obtain ⟨a3, l3, k3⟩ := s3
  have hG2 := HB2.out.keep hW3
  have hG4 := HB4.out.keep hW3
  have hG2' := hG2.set0 (Sl.val ⟨a3, l3, k3⟩)
  have hG4' := hG4.off (q := w.heap.size) (o := 0) (by omega) (Sl.val ⟨a3, l3, k3⟩)
  have HS3 := hide hs3
  have HW3 := hide hW3
  have HG2 := hide hG2
  have HG2' := hide hG2'
  have HG4' := hide hG4'
  unfold Sl.val at hG2' hG4'
  simp only at hG2' hG4'
  have c0 := hG2.c0
  have f0 := hG2.fz
  have d0 := hG2'.c0
  have d1 := hG2'.c1
  have d2 := hG2'.c2
  have z0 := hG4'.c0
  have z1 := hG4'.c1
  have z2 := hG4'.c2
  have fz := hG4'.fz
  unfold Sl.val
  simp only
  clear HO2 HV3 HN3 HL3 HS2 HW2 ho3 hb3 hW3 hs3 hG2 hG2' hG4 hG4' hxs hs2
  go_wp2_with fail
  show bodyPost Try.prog Try.f41 _ Exit.ret _ (setDk (w3.setCell ⟨w.heap.size, 0, none⟩ (Sl.val ⟨a3, l3, k3⟩)) (w.heap.size + 1 + 1) (Sl.val ⟨a3, l3, k3⟩) base (Sl.val ⟨sa, sl, sc⟩))
  refine dk_end rfl HG4'.out ⟨pg.take (128 * k) ++ b ++ pg.drop (128 * k + 128), base, st⟩ ⟨a3, l3, k3⟩ ⟨sa, sl, sc⟩ (by rfl) rfl ?_
  have hbb : Below w.heap.size w (setDk (w3.setCell ⟨w.heap.size, 0, none⟩ (Sl.val ⟨a3, l3, k3⟩)) (w.heap.size + 1 + 1) (Sl.val ⟨a3, l3, k3⟩) base (Sl.val ⟨sa, sl, sc⟩)) :=
    setDk_below ((rBelow HWB.out HW3.out).setCell (p := ⟨w.heap.size, 0, none⟩) (Nat.le_refl _) _) (by omega) _ _ _
  refine ⟨hbb, ⟨a3, l3, k3⟩, ⟨sa, sl, sc⟩, rfl, ?_, H.out.st.keep hbb (Nat.le_refl _)⟩
  exact (HS3.out.other (DkBlk.no8 (s1 := ⟨pa, pl, pc⟩) (s2 := ⟨sa, sl, sc⟩) HG2.out) fun j hj => Below.heap_setCell _ ⟨w.heap.size, 0, none⟩ _ j hj).other (DkBlk.no8 (s1 := Sl.nil) (s2 := Sl.nil) HG4'.out) fun j hj => setDk_other _ _ _ _ _ j hj

end Go.Proofs.Ytokdeilcfkobfaa
