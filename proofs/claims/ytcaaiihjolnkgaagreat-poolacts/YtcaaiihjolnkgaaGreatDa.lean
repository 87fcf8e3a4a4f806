/-
  The document's device: a disk behind a sector's write.
  The document's device: a disk behind bytes that are appended to its stream.
  The document's device: the first units of a part.
  The document's device: rows of parts, and those that a call has made itself.
  The document's device: a device in a block of its own; a part more among what was done.
  The document's device: a disk behind any part that fits it; devices.
  The document's device: a part is done.
-/
import Derived.Test.YtcaaiihjolnkgaaGreatBb
import Derived.Test.YtcaaiihjolnkgaaGreatBa
namespace Go.Proofs.YtcaaiihjolnkgaaGreat
open Go.RowKit
set_option maxRecDepth 100000
variable {K : Home}

/-- Bytes stay where another block turns that holds none. -/
theorem BsS.other {w w' : World} {s : Sl} {xs : List Nat} {g : Nat} (h : BsS K w s xs) (hg : ∀ o i, w.cell? ⟨g, o, none⟩ ≠ some (.int .u8 i)) (ho : ∀ k, k ≠ g → w'.heap[k]? = w.heap[k]?) (hs : w.heap.size ≤ w'.heap.size := by first | (simp only [setCell_size, Nat.le_refl]; done) | (simp only [setDk_size, setCell_size, Nat.le_refl]; done) | (simp only [setPt_size, setDk_size, setCell_size, Nat.le_refl]; done) | (simp only [setNow_size, setDv_size, setPt_size, setDk_size, setCell_size, Nat.le_refl]; done)) : BsS K w' s xs := by
  refine ⟨⟨⟨h.bs.1, h.bs.2.1, fun i hi => ?_⟩, h.nil, h.le, h.big⟩, Nat.le_trans h.low hs, h.home⟩
  obtain ⟨b, off, ha, hc⟩ := h.bs.2.2 i hi
  refine ⟨b, off, ha, ?_⟩
  have hne : b ≠ g := by
    intro e
    subst e
    exact hg _ _ hc
  have := ho b hne
  simp only [World.cell?] at hc ⊢
  rw [this]
  exact hc
theorem DkBlk.no8 {w : World} {g : Nat} {s1 s2 : Sl} {b : Int} (h : DkBlk w g s1.val b s2.val) : ∀ o i, w.cell? ⟨g, o, none⟩ ≠ some (.int .u8 i) := by
  intro o i
  unfold DkBlk Sl.val at h
  rcases o with _ | _ | _ | o <;> simp [World.cell?, h]
theorem DkBlk.set0 {w : World} {g : Nat} {x y : Value} {b : Int} (h : DkBlk w g x b y) (u : Value) : DkBlk (w.setCell ⟨g, 0, none⟩ u) g u b y := by
  have := heap_setCell_same w g 0 _ 34 u h
  unfold DkBlk
  rw [this]
  simp
theorem DkBlk.set2 {w : World} {g : Nat} {x y : Value} {b : Int} (h : DkBlk w g x b y) (u : Value) : DkBlk (w.setCell ⟨g, 2, none⟩ u) g x b u := by
  have := heap_setCell_same w g 2 _ 34 u h
  unfold DkBlk
  rw [this]
  simp
theorem DkBlk.off {w : World} {g : Nat} {x y : Value} {b : Int} (h : DkBlk w g x b y) {q o : Nat} (hq : g ≠ q) (u : Value) : DkBlk (w.setCell ⟨q, o, none⟩ u) g x b y := by
  unfold DkBlk
  rw [Below.heap_setCell _ ⟨q, o, none⟩ _ g hq]
  exact h

set_option maxHeartbeats 4000000 in
set_option maxRecDepth 100000 in
theorem turn_sector (d : Dk) (p s : Sl) (u : Pt) (q : Sl) (k : Nat) (w : World) (h : DkIn K w d p s) (hu : BsS K w q u.b) (ha : u.at_ = (k : Nat)) (hl : 128 * k + 128 ≤ p.len) (hp : p.len ≤ 100000) (hb : q.len ≤ 1000) :
    Calls Tryz.prog 69 #[d.val p s, u.val q] w fun e w' => Below w.heap.size w w' ∧ ∃ p' s', e = .returned (Dk.val ⟨d.pg.take (128 * k) ++ u.b ++ d.pg.drop (128 * k + 128), d.base, d.st⟩ p' s') ∧ DkIn K w' ⟨d.pg.take (128 * k) ++ u.b ++ d.pg.drop (128 * k + 128), d.base, d.st⟩ p' s' := by
  obtain ⟨pg, base, st⟩ := d
  obtain ⟨at_, b, trim, to⟩ := u
  obtain ⟨pa, pl, pc⟩ := p
  obtain ⟨sa, sl, sc⟩ := s
  obtain ⟨qa, ql, qc⟩ := q
  simp only at h hu ha hl hp hb ⊢
  subst ha
  obtain ⟨K, hK⟩ : ∃ K, K = 128 * k := ⟨_, rfl⟩
  rw [← hK] at hl ⊢
  have hle := h.pg.le
  simp only at hle
  obtain ⟨K2, hK2⟩ : ∃ K2, K2 = K + 128 := ⟨_, rfl⟩
  rw [← hK2] at hl ⊢
  have hs1 := slice_upto pa pl pc K (by omega)
  have hs2 := slice_from pa pl pc K2 (by omega)
  rw [show ((K : Nat) : Int) = 128 * ((k : Nat) : Int) by omega] at hs1
  rw [show ((K2 : Nat) : Int) = 128 * ((k : Nat) : Int) + 128 by omega] at hs2
  subst hK2
  subst hK
  have H := hide h
  have HU := hide hu
  have HXB := hide h.pg.bs.2.1
  have HXU := hide hu.bs.2.1
  have HLp := hide h.pg.len
  have HLu := hide hu.len
  have hk0 : (0 : Int) ≤ ((k : Nat) : Int) := by omega
  obtain ⟨W, hW⟩ : ∃ W, W = ((w.alloc (.cells #[.slice pa pl pc, .int .i64 base, .slice sa sl sc] 34)).alloc (.cells #[.int .i64 ((k : Nat) : Int), .slice qa ql qc, .bool trim, .int .i64 to] 102)).alloc (.cells #[.slice none 0 0, .int .i64 0, .slice none 0 0] 34) := ⟨_, rfl⟩
  have hWs : W.heap.size = w.heap.size + 1 + 1 + 1 := by rw [hW]; simp
  have hWb : Below w.heap.size w W := by rw [hW]; exact rBelow (below_two w _ _) (below_alloc _ _)
  have hB2 : DkBlk W w.heap.size (.slice pa pl pc) base (.slice sa sl sc) := by
    rw [hW]
    exact ((dkBlk_new w (.slice pa pl pc) base (.slice sa sl sc)).keep (below_alloc _ _)).keep (below_alloc _ _)
  have hB4 : DkBlk W (w.heap.size + 1 + 1) (.slice none 0 0) 0 (.slice none 0 0) := by
    rw [hW]
    have := dkBlk_new ((w.alloc (.cells #[.slice pa pl pc, .int .i64 base, .slice sa sl sc] 34)).alloc (.cells #[.int .i64 ((k : Nat) : Int), .slice qa ql qc, .bool trim, .int .i64 to] 102)) (.slice none 0 0) 0 (.slice none 0 0)
    simpa using this
  have hB3 : PtBlk W (w.heap.size + 1) ((k : Nat) : Int) (.slice qa ql qc) trim to := by
    rw [hW]
    have := (ptBlk_new (w.alloc (.cells #[.slice pa pl pc, .int .i64 base, .slice sa sl sc] 34)) ((k : Nat) : Int) (.slice qa ql qc) trim to).keep (below_alloc _ (.cells #[.slice none 0 0, .int .i64 0, .slice none 0 0] 34))
    simpa using this
  have HWB := hide hWb
  have HB2 := hide hB2
  have HB3 := hide hB3
  have HB4 := hide hB4
  have HWE := hide hW
  have HWS := hide hWs
  have HO : Hid (Owns (W.alloc (.cells #[] 5)) W.heap.size (.slice (some ⟨W.heap.size, 0, none⟩) 0 0) []) := own_new W
  have HA := hide (below_alloc W (.cells #[] 5))
  have HV1 := hide ((h.pg.bs.upto (cap := pc) (k := 128 * k) (by show 128 * k ≤ pl; omega)).keep (rBelow hWb (below_alloc W (.cells #[] 5))) (Nat.le_refl _))
  have HN1 : Hid (fromA pa pc 0 = none → pc = 0) := by
    intro e
    unfold fromA at e
    split at e
    · omega
    · cases hpa : pa with
      | none => exact h.pg.nil hpa
      | some x => rw [hpa] at e; simp at e
  have HL1 : Hid (([] : List Nat).length + 128 * k ≤ 1000000) := by show _ ≤ _; simp; omega
  have HAS : Hid (w.heap.size + 1 + 1 + 1 ≤ (W.alloc (.cells #[] 5)).heap.size) := by show _ ≤ _; rw [← hWs]; exact (below_alloc W _).size
  rw [hWs] at HO
  rw [hW] at HO HV1 HAS
  clear h hu hW hWs hWb hB2 hB3 hB4
  unfold Dk.val Pt.val Sl.val
  simp only
  go_enter Tryz.func69, Tryz.ntmps69
  go_wp2_with (at_builtin; refine wpList_append_bytes' _ rfl (.tmp 9) (.tmp 15) rfl (w.heap.size + 1 + 1 + 1) _ [] rfl HO.out _ _ _ _ rfl HV1.out HN1.out HL1.out HAS.out ?_)
  intro v1 w1 ho1 hb1 hs1'
  clear hs1'
  rw [← HWE.out] at hb1
  have hW1 : Below W.heap.size W w1 := HA.out.trans (by rw [HWS.out]; exact hb1)
  have HO1 := hide ho1
  have HW1 := hide hW1
  have HV2 := hide (HU.out.bs.keep (rBelow HWB.out hW1) (Nat.le_refl _))
  have HN2 : Hid (qa = none → qc = 0) := HU.out.nil
  have HL2 : Hid ((pg.take (128 * k)).length + ql ≤ 1000000) := by
    show _ ≤ _
    rw [List.length_take]; omega
  have HS1 : Hid (w.heap.size + 1 + 1 + 1 ≤ w1.heap.size) := by
    show _ ≤ _
    rw [← HWS.out]; exact hW1.size
  have c1 := (HB3.out.keep hW1).c1
  clear HO HV1 HN1 HL1 HAS ho1 hb1 hW1 hs1
  go_wp2_with (at_builtin; refine wpList_append_bytes' _ rfl (.tmp 17) (.tmp 19) rfl (w.heap.size + 1 + 1 + 1) _ (pg.take (128 * k)) rfl HO1.out _ _ _ _ rfl HV2.out HN2.out HL2.out HS1.out ?_)
  intro v2 w2 ho2 hb2 hs2'
  clear hs2' c1
  have hW2 : Below W.heap.size W w2 := HW1.out.trans (by rw [HWS.out]; exact hb2)
  have HO2 := hide ho2
  have HW2 := hide hW2
  have HV3 := hide ((H.out.pg.bs.from (cap := pc) (k := 128 * k + 128) hl hle).keep (rBelow HWB.out hW2) (Nat.le_refl _))
  have HN3 : Hid (fromA pa pc (128 * k + 128) = none → pc - (128 * k + 128) = 0) := (H.out.pg.from_ (k := 128 * k + 128) hl).nil
  have HL3 : Hid ((pg.take (128 * k) ++ b).length + (pl - (128 * k + 128)) ≤ 1000000) := by
    have e2 := HLu.out
    show _ ≤ _
    rw [List.length_append, List.length_take, e2]; omega
  have HS2 : Hid (w.heap.size + 1 + 1 + 1 ≤ w2.heap.size) := by
    show _ ≤ _
    rw [← HWS.out]; exact hW2.size
  have c0 := (HB2.out.keep hW2).c0
  have c3 := (HB3.out.keep hW2).c0
  clear HO1 HV2 HN2 HL2 HS1 HW1 ho2 hb2 hW2
  go_wp2_with (at_builtin; refine wpList_append_bytes' _ rfl (.tmp 21) (.tmp 28) rfl (w.heap.size + 1 + 1 + 1) _ (pg.take (128 * k) ++ b) rfl HO2.out _ _ _ _ rfl HV3.out HN3.out HL3.out HS2.out ?_)
  intro v3 w3 ho3 hb3 hs3'
  clear hs3' c0 c3
  have hW3 : Below W.heap.size W w3 := HW2.out.trans (by rw [HWS.out]; exact hb3)
  have hxs : Bytes (pg.take (128 * k) ++ b ++ pg.drop (128 * k + 128)) := by
    intro x hx
    rcases List.mem_append.1 hx with h1 | h1
    · rcases List.mem_append.1 h1 with h2 | h2
      · exact HXB.out x (List.mem_of_mem_take h2)
      · exact HXU.out x h2
    · exact HXB.out x (List.mem_of_mem_drop h1)
  rw [← List.append_assoc] at ho3
  obtain ⟨s3, rfl, hs3⟩ := ho3.sl (K := K) hxs (by
    have e1 := HLp.out
    have e2 := HLu.out
    simp only [List.length_append, List.length_take, List.length_drop, e1, e2]; omega) (by have := H.out.pg.low; omega) (by have h1 := H.out.pg.low; have h2 := (rBelow HWB.out hW3).size; omega)
  obtain ⟨a3, l3, k3⟩ := s3
  have hG2 := HB2.out.keep hW3
  have hG4 := HB4.out.keep hW3
  have hG2' := hG2.set0 (Sl.val ⟨a3, l3, k3⟩)
  have hG4' := hG4.off (q := w.heap.size) (o := 0) (by omega) (Sl.val ⟨a3, l3, k3⟩)
  have HS3 := hide hs3
  have HW3 := hide hW3
  have HG2 := hide hG2
  have HG2' := hide hG2'
  have HG4' := hide hG4'
  unfold Sl.val at hG2' hG4'
  simp only at hG2' hG4'
  have c0 := hG2.c0
  have f0 := hG2.fz
  have d0 := hG2'.c0
  have d1 := hG2'.c1
  have d2 := hG2'.c2
  have z0 := hG4'.c0
  have z1 := hG4'.c1
  have z2 := hG4'.c2
  have fz := hG4'.fz
  unfold Sl.val
  simp only
  clear HO2 HV3 HN3 HL3 HS2 HW2 ho3 hb3 hW3 hs3 hG2 hG2' hG4 hG4' hxs hs2
  go_wp2_with fail
  show bodyPost Tryz.prog Tryz.f69 _ Exit.ret _ (setDk (w3.setCell ⟨w.heap.size, 0, none⟩ (Sl.val ⟨a3, l3, k3⟩)) (w.heap.size + 1 + 1) (Sl.val ⟨a3, l3, k3⟩) base (Sl.val ⟨sa, sl, sc⟩))
  refine dk_end rfl HG4'.out ⟨pg.take (128 * k) ++ b ++ pg.drop (128 * k + 128), base, st⟩ ⟨a3, l3, k3⟩ ⟨sa, sl, sc⟩ (by rfl) rfl ?_
  have hbb : Below w.heap.size w (setDk (w3.setCell ⟨w.heap.size, 0, none⟩ (Sl.val ⟨a3, l3, k3⟩)) (w.heap.size + 1 + 1) (Sl.val ⟨a3, l3, k3⟩) base (Sl.val ⟨sa, sl, sc⟩)) :=
    setDk_below ((rBelow HWB.out HW3.out).setCell (p := ⟨w.heap.size, 0, none⟩) (Nat.le_refl _) _) (by omega) _ _ _
  refine ⟨hbb, ⟨a3, l3, k3⟩, ⟨sa, sl, sc⟩, rfl, ?_, H.out.st.keep hbb (Nat.le_refl _)⟩
  exact (HS3.out.other (DkBlk.no8 (s1 := ⟨pa, pl, pc⟩) (s2 := ⟨sa, sl, sc⟩) HG2.out) fun j hj => Below.heap_setCell _ ⟨w.heap.size, 0, none⟩ _ j hj).other (DkBlk.no8 (s1 := Sl.nil) (s2 := Sl.nil) HG4'.out) fun j hj => setDk_other _ _ _ _ _ j hj

end Go.Proofs.YtcaaiihjolnkgaaGreat

namespace Go.Proofs.YtcaaiihjolnkgaaGreat
open Go.RowKit
set_option maxRecDepth 100000
variable {K : Home}

theorem field_dk (p k : Nat) (hk : k < 3) (w : World) : (Instr.fieldAt 34 (.pointer (some ⟨p, 0, none⟩)) k).run Tryz.prog w = .ok (.pointer (some ⟨p, k, none⟩)) w := by
  rcases k with _ | _ | _ | k
  · simp [go_sem, Instr.fieldAt]
  · simp [go_sem, Instr.fieldAt]
  · simp [go_sem, Instr.fieldAt]
  · omega
theorem field_dk2 (p : Nat) (w : World) : (Instr.fieldAt 34 (.pointer (some ⟨p, 0, none⟩)) 2).run Tryz.prog w = .ok (.pointer (some ⟨p, 2, none⟩)) w := field_dk p 2 (by omega) w
theorem field_pt1 (p : Nat) (w : World) : (Instr.fieldAt 102 (.pointer (some ⟨p, 0, none⟩)) 1).run Tryz.prog w = .ok (.pointer (some ⟨p, 1, none⟩)) w := by simp [go_sem, Instr.fieldAt]
theorem load_bs (b o : Nat) (a : Option Addr) (len cap : Nat) (w : World) (h : w.cell? ⟨b, o, none⟩ = some (.slice a len cap)) : (Instr.loadAt 32 (.pointer (some ⟨b, o, none⟩))).run Tryz.prog w = .ok (.slice a len cap) w := by
  simp [go_sem, h]
theorem store_bsV (b o : Nat) (v u : Value) (hv : ∃ a len cap, v = .slice a len cap) (w : World) (h : w.cell? ⟨b, o, none⟩ = some u) (hf : w.frozen? ⟨b, o, none⟩ = false) : (Instr.storeAt 32 (.pointer (some ⟨b, o, none⟩)) v).run Tryz.prog w = .ok () (w.setCell ⟨b, o, none⟩ v) := by
  obtain ⟨a, len, cap, rfl⟩ := hv
  simp [go_sem, Instr.storeAt, h, hf]
theorem build_bs0 (w : World) : (Instr.buildSlice 32 0 #[]).run Tryz.prog w = .ok (.slice (some ⟨w.heap.size, 0, none⟩) 0 0) (w.alloc (.cells #[] 5)) := by
  simp [go_sem, Instr.buildSlice]
theorem PtBlk.stay {w w' : World} {p : Nat} {a o : Int} {x : Value} {t : Bool} (h : PtBlk w p a x t o) (hs : Stay w w') : PtBlk w' p a x t o := (hs p _ _ _ h (by decide)).trans h
theorem DkBlk.stay {w w' : World} {p : Nat} {b : Int} {x y : Value} (h : DkBlk w p x b y) (hs : Stay w w') : DkBlk w' p x b y := (hs p _ _ _ h (by decide)).trans h
theorem Owns.form {w : World} {base : Nat} {v : Value} {xs : List Nat} (h : Owns w base v xs) : ∃ a len cap, v = .slice a len cap := by
  rcases h.2 with ⟨hv, _⟩ | ⟨g, cp, cur, hv, _⟩
  · exact ⟨_, _, _, hv⟩
  · exact ⟨_, _, _, hv⟩

set_option maxHeartbeats 4000000 in
set_option maxRecDepth 100000 in
theorem turn10 (w : World) (p q : Nat) (hpq : p ≠ q) (x : Value) (b at_ to : Int) (tr : Bool) (sa qa : Option Addr) (sl sc ql qc : Nat) (xs ys : List Nat) (hd : DkBlk w p x b (.slice sa sl sc)) (hp : PtBlk w q at_ (.slice qa ql qc) tr to) (hx : Came w sa sl sc xs) (hy : Came w qa ql qc ys) (hlen : sl + ql ≤ 1000000)
    {Q : Exit → Act → World → Prop} {A : Act} (hsz : A.tmps.size = 56) (hdf : A.defers = []) (s2 : A.tmps.getD 2 undef = .pointer (some ⟨p, 0, none⟩)) (s3 : A.tmps.getD 3 undef = .pointer (some ⟨q, 0, none⟩))
    (hend : ∀ (u : Nat → Value) w2 v2, Owns w2 w.heap.size v2 (xs ++ ys) → Below w.heap.size w w2 → DkBlk w2 p x b (.slice sa sl sc) → PtBlk w2 q at_ (.slice qa ql qc) tr to → Q .normal (((((((((A).put (some 48) (u 48)).put (some 51) (u 51)).put (some 52) (u 52)).put (some 47) (u 47)).put (some 49) (u 49)).put (some 50) (u 50)).put (some 53) (u 53)).put (some 54) (u 54)) (w2.setCell ⟨p, 2, none⟩ v2)) :
    (Code.region 10 (Pl.find 10 ((Tryz.f69.body).getD .skip)) true).wp Tryz.prog Q A w := by
  have hW0 : Below w.heap.size w w.drew := (Below.refl _ _).drew
  have hd0 : DkBlk w.drew p x b (.slice sa sl sc) := hd
  have hp0 : PtBlk w.drew q at_ (.slice qa ql qc) tr to := hp
  have hal := below_alloc w.drew (.cells #[] 5)
  have hWa : Below w.heap.size w (w.drew.alloc (.cells #[] 5)) := hW0.trans hal
  have hda := hd0.keep hal
  have hpa := hp0.keep hal
  have hoa : Owns (w.drew.alloc (.cells #[] 5)) w.heap.size (.slice (some ⟨w.drew.heap.size, 0, none⟩) 0 0) [] := own_new w.drew
  obtain ⟨v1, w1, hrun1, ho1, hb1, hst1⟩ := run_append_bytes' (w.drew.alloc (.cells #[] 5)) 32 w.heap.size _ [] hoa sa sl sc xs (hx.bs.keep hWa (Nat.le_refl _)) hx.nil (by simp; omega) hWa.size
  rw [List.nil_append] at ho1
  have hW1 := hWa.trans hb1
  have hd1 := hda.stay hst1
  have hp1 := hpa.stay hst1
  have hxl := hx.bs.1
  obtain ⟨v2, w2, hrun2, ho2, hb2, hst2⟩ := run_append_bytes' w1 32 w.heap.size v1 xs ho1 qa ql qc ys (hy.bs.keep hW1 (Nat.le_refl _)) hy.nil (by omega) hW1.size
  have hbb := hW1.trans hb2
  have hd2 := hd1.stay hst2
  have hp2 := hp1.stay hst2
  have hform2 := ho2.form
  have hS0 : (fun w' => PtBlk w' q at_ (.slice qa ql qc) tr to) w.drew := hp0
  have hSa : (fun w' => PtBlk w' q at_ (.slice qa ql qc) tr to) (w.drew.alloc (.cells #[] 5)) := hpa
  have hS1 : (fun w' => PtBlk w' q at_ (.slice qa ql qc) tr to) w1 := hp1
  have hS2 : (fun w' => PtBlk w' q at_ (.slice qa ql qc) tr to) w2 := hp2
  have hS3 : (fun w' => PtBlk w' q at_ (.slice qa ql qc) tr to) (w2.setCell ⟨p, 2, none⟩ v2) := by
    show PtBlk _ _ _ _ _ _
    unfold PtBlk
    rw [Below.heap_setCell _ ⟨p, 2, none⟩ _ q (fun e => hpq e.symm)]
    exact hp2
  have hA := Pl.At.same (v := .pointer (some ⟨q, 0, none⟩)) (d := 3) (Pl.At.same (v := .pointer (some ⟨p, 0, none⟩)) (d := 2) (Pl.At.here hsz hdf) s2) s3
  refine Pl.H.start (S := fun w' => PtBlk w' q at_ (.slice qa ql qc) tr to) (by kernel_rfl) hA hS0 ?_
  rw [show (Pl.find 10 ((Tryz.f69.body).getD .skip)).size = 9 by kernel_rfl]
  refine Pl.H.take 1 48 (.pointer (some ⟨p, 2, none⟩)) (by kernel_rfl) (by kernel_rfl) (by kernel_rfl) (Pl.free 1 (by kernel_rfl)) (Pl.field 1 34 (.tmp 2) 2 _ (by kernel_rfl) (by decide) (field_dk2 p)) hS0 ?_
  refine Pl.H.take 4 51 (.pointer (some ⟨q, 1, none⟩)) (by kernel_rfl) (by kernel_rfl) (by kernel_rfl) (Pl.free 4 (by kernel_rfl)) (Pl.field 4 102 (.tmp 3) 1 _ (by kernel_rfl) (by decide) (field_pt1 q)) hS0 ?_
  refine Pl.H.take 5 52 (.slice qa ql qc) (by kernel_rfl) (by kernel_rfl) (by kernel_rfl) (Pl.free 5 (by kernel_rfl)) (Pl.load 5 32 (.tmp 51) _ (by kernel_rfl) (by decide) (fun w' hS => load_bs q 1 qa ql qc w' hS.c1)) hS0 ?_
  refine Pl.H.two 0 2 (by kernel_rfl) ?_ ?_
  · refine Pl.HOp.value 0 47 (.slice (some ⟨w.drew.heap.size, 0, none⟩) 0 0) (w.drew.alloc (.cells #[] 5)) (by kernel_rfl) (by kernel_rfl) (by kernel_rfl) (Pl.zero 0 32 _ _ (by kernel_rfl) (build_bs0 w.drew)) hSa ?_
    refine Pl.H.one 2 (by kernel_rfl) ?_
    refine Pl.HOp.value 2 49 (.slice sa sl sc) (w.drew.alloc (.cells #[] 5)) (by kernel_rfl) (by kernel_rfl) (by kernel_rfl) (Pl.load1 2 32 (.tmp 48) _ (by kernel_rfl) (by decide) (load_bs p 2 sa sl sc _ hda.c2)) hSa ?_
    refine Pl.H.make 3 50 v1 w1 (by kernel_rfl) (by kernel_rfl) (by kernel_rfl) (Pl.free 3 (by kernel_rfl)) (Pl.appT 3 32 32 (.tmp 47) (.tmp 49) _ _ (by kernel_rfl) (by kernel_rfl) (by decide) (by decide) hrun1) hS1 ?_
    refine Pl.H.make 6 53 v2 w2 (by kernel_rfl) (by kernel_rfl) (by kernel_rfl) (Pl.free 6 (by kernel_rfl)) (Pl.appT 6 32 32 (.tmp 50) (.tmp 52) _ _ (by kernel_rfl) (by kernel_rfl) (by decide) (by decide) hrun2) hS2 ?_
    refine Pl.H.take 7 54 (.pointer (some ⟨p, 2, none⟩)) (by kernel_rfl) (by kernel_rfl) (by kernel_rfl) (Pl.free 7 (by kernel_rfl)) (Pl.field 7 34 (.tmp 2) 2 _ (by kernel_rfl) (by decide) (field_dk2 p)) hS2 ?_
    refine Pl.H.store 8 (w2.setCell ⟨p, 2, none⟩ v2) (by kernel_rfl) (by kernel_rfl) (by kernel_rfl) (Pl.free 8 (by kernel_rfl)) (Pl.storeV 8 32 (.tmp 54) (.tmp 53) _ (by kernel_rfl) (by decide) (by decide) (store_bsV p 2 v2 _ hform2 w2 hd2.c2 (hd2.fz 2))) hS3 ?_
    refine Pl.H.done (by kernel_rfl) (fun A' hA' => ?_)
    rw [Pl.At.ext hA' ((((((((hA.put 48 _).put 51 _).put 52 _).put 47 _).put 49 _).put 50 _).put 53 _).put 54 _)]
    exact hend (fun d => if d = 48 then .pointer (some ⟨p, 2, none⟩) else if d = 51 then .pointer (some ⟨q, 1, none⟩) else if d = 52 then .slice qa ql qc else if d = 47 then .slice (some ⟨w.drew.heap.size, 0, none⟩) 0 0 else if d = 49 then .slice sa sl sc else if d = 50 then v1 else if d = 53 then v2 else if d = 54 then .pointer (some ⟨p, 2, none⟩) else undef) _ _ ho2 hbb hd2 hp2
  · refine Pl.HOp.value 2 49 (.slice sa sl sc) w.drew (by kernel_rfl) (by kernel_rfl) (by kernel_rfl) (Pl.load1 2 32 (.tmp 48) _ (by kernel_rfl) (by decide) (load_bs p 2 sa sl sc _ hd0.c2)) hS0 ?_
    refine Pl.H.one 0 (by kernel_rfl) ?_
    refine Pl.HOp.value 0 47 (.slice (some ⟨w.drew.heap.size, 0, none⟩) 0 0) (w.drew.alloc (.cells #[] 5)) (by kernel_rfl) (by kernel_rfl) (by kernel_rfl) (Pl.zero 0 32 _ _ (by kernel_rfl) (build_bs0 w.drew)) hSa ?_
    rw [Pl.upd_comm _ 49 47 _ _ (by decide)]
    refine Pl.H.make 3 50 v1 w1 (by kernel_rfl) (by kernel_rfl) (by kernel_rfl) (Pl.free 3 (by kernel_rfl)) (Pl.appT 3 32 32 (.tmp 47) (.tmp 49) _ _ (by kernel_rfl) (by kernel_rfl) (by decide) (by decide) hrun1) hS1 ?_
    refine Pl.H.make 6 53 v2 w2 (by kernel_rfl) (by kernel_rfl) (by kernel_rfl) (Pl.free 6 (by kernel_rfl)) (Pl.appT 6 32 32 (.tmp 50) (.tmp 52) _ _ (by kernel_rfl) (by kernel_rfl) (by decide) (by decide) hrun2) hS2 ?_
    refine Pl.H.take 7 54 (.pointer (some ⟨p, 2, none⟩)) (by kernel_rfl) (by kernel_rfl) (by kernel_rfl) (Pl.free 7 (by kernel_rfl)) (Pl.field 7 34 (.tmp 2) 2 _ (by kernel_rfl) (by decide) (field_dk2 p)) hS2 ?_
    refine Pl.H.store 8 (w2.setCell ⟨p, 2, none⟩ v2) (by kernel_rfl) (by kernel_rfl) (by kernel_rfl) (Pl.free 8 (by kernel_rfl)) (Pl.storeV 8 32 (.tmp 54) (.tmp 53) _ (by kernel_rfl) (by decide) (by decide) (store_bsV p 2 v2 _ hform2 w2 hd2.c2 (hd2.fz 2))) hS3 ?_
    refine Pl.H.done (by kernel_rfl) (fun A' hA' => ?_)
    rw [Pl.At.ext hA' ((((((((hA.put 48 _).put 51 _).put 52 _).put 47 _).put 49 _).put 50 _).put 53 _).put 54 _)]
    exact hend (fun d => if d = 48 then .pointer (some ⟨p, 2, none⟩) else if d = 51 then .pointer (some ⟨q, 1, none⟩) else if d = 52 then .slice qa ql qc else if d = 47 then .slice (some ⟨w.drew.heap.size, 0, none⟩) 0 0 else if d = 49 then .slice sa sl sc else if d = 50 then v1 else if d = 53 then v2 else if d = 54 then .pointer (some ⟨p, 2, none⟩) else undef) _ _ ho2 hbb hd2 hp2

set_option maxHeartbeats 4000000 in
set_option maxRecDepth 100000 in
theorem turn_append (d : Dk) (p s : Sl) (u : Pt) (q : Sl) (w : World) (h : DkIn K w d p s) (hu : BsS K w q u.b) (ha : u.at_ < 0) (ht : u.trim = false) (hl : s.len + q.len ≤ 1000000) :
    Calls Tryz.prog 69 #[d.val p s, u.val q] w fun e w' => Below w.heap.size w w' ∧ ∃ p' s', e = .returned (Dk.val ⟨d.pg, d.base, d.st ++ u.b⟩ p' s') ∧ DkIn K w' ⟨d.pg, d.base, d.st ++ u.b⟩ p' s' := by
  obtain ⟨pg, base, st⟩ := d
  obtain ⟨at_, b, trim, to⟩ := u
  obtain ⟨pa, pl, pc⟩ := p
  obtain ⟨sa, sl, sc⟩ := s
  obtain ⟨qa, ql, qc⟩ := q
  simp only at h hu ha ht hl ⊢
  subst ht
  have H := hide h
  have HU := hide hu
  have HLL := hide hl
  have ha' : ¬ (0 : Int) ≤ at_ := by omega
  obtain ⟨W, hW⟩ : ∃ W, W = ((w.alloc (.cells #[.slice pa pl pc, .int .i64 base, .slice sa sl sc] 34)).alloc (.cells #[.int .i64 at_, .slice qa ql qc, .bool false, .int .i64 to] 102)).alloc (.cells #[.slice none 0 0, .int .i64 0, .slice none 0 0] 34) := ⟨_, rfl⟩
  have hWs : W.heap.size = w.heap.size + 1 + 1 + 1 := by rw [hW]; simp
  have hWb : Below w.heap.size w W := by rw [hW]; exact rBelow (below_two w _ _) (below_alloc _ _)
  have hB2 : DkBlk W w.heap.size (.slice pa pl pc) base (.slice sa sl sc) := by
    rw [hW]
    exact ((dkBlk_new w (.slice pa pl pc) base (.slice sa sl sc)).keep (below_alloc _ _)).keep (below_alloc _ _)
  have hB4 : DkBlk W (w.heap.size + 1 + 1) (.slice none 0 0) 0 (.slice none 0 0) := by
    rw [hW]
    have := dkBlk_new ((w.alloc (.cells #[.slice pa pl pc, .int .i64 base, .slice sa sl sc] 34)).alloc (.cells #[.int .i64 at_, .slice qa ql qc, .bool false, .int .i64 to] 102)) (.slice none 0 0) 0 (.slice none 0 0)
    simpa using this
  have hB3 : PtBlk W (w.heap.size + 1) at_ (.slice qa ql qc) false to := by
    rw [hW]
    have := (ptBlk_new (w.alloc (.cells #[.slice pa pl pc, .int .i64 base, .slice sa sl sc] 34)) at_ (.slice qa ql qc) false to).keep (below_alloc _ (.cells #[.slice none 0 0, .int .i64 0, .slice none 0 0] 34))
    simpa using this
  have HWB := hide hWb
  have HB2 := hide hB2
  have HB3 := hide hB3
  have HB4 := hide hB4
  have HWE := hide hW
  have HWS := hide hWs
  have HX : Hid (Came W sa sl sc st) := (h.st.keep hWb (Nat.le_refl _)).came
  have HY : Hid (Came W qa ql qc b) := (hu.keep hWb (Nat.le_refl _)).came
  clear h hu hW hWs hWb hB2 hB3 hB4 hl
  unfold Dk.val Pt.val Sl.val
  simp only
  go_enter Tryz.func69, Tryz.ntmps69
  go_wp2_with fail
  rw [← HWE.out]
  refine Pl.region_is (ops := Pl.find 10 ((Tryz.f69.body).getD .skip)) (by kernel_rfl) ?_
  refine turn10 W w.heap.size (w.heap.size + 1) (by omega) (.slice pa pl pc) base at_ to false sa qa sl sc ql qc st b HB2.out HB3.out HX.out HY.out HLL.out (by rfl) (by rfl) (by rfl) (by rfl) ?_
  intro u w2 v2 ho2 hb2 hd2 hp2
  simp only [Act.put, List.setIfInBounds_toArray, List.set_cons_zero, List.set_cons_succ]
  have hxs : Bytes (st ++ b) := by
    intro x hx
    rcases List.mem_append.1 hx with h1 | h1
    · exact H.out.st.bs.2.1 x h1
    · exact HU.out.bs.2.1 x h1
  obtain ⟨s3, rfl, hs3⟩ := ho2.sl (K := K) hxs (by
    have e1 := HX.out.bs.1
    have e2 := HY.out.bs.1
    have e3 := HLL.out
    rw [List.length_append, e1, e2]; exact e3) (Nat.le_trans H.out.st.low HWB.out.size) (Nat.le_trans (Nat.le_trans H.out.st.low HWB.out.size) hb2.size)
  obtain ⟨a3, l3, k3⟩ := s3
  have hG4 := HB4.out.keep hb2
  have hG2' := hd2.set2 (Sl.val ⟨a3, l3, k3⟩)
  have hG4' := hG4.off (q := w.heap.size) (o := 2) (by omega) (Sl.val ⟨a3, l3, k3⟩)
  have HS3 := hide hs3
  have HW3 := hide hb2
  have HG2 := hide hd2
  have HG4' := hide hG4'
  unfold Sl.val at hG2' hG4'
  simp only at hG2' hG4'
  have d0 := hG2'.c0
  have d1 := hG2'.c1
  have d2 := hG2'.c2
  have z0 := hG4'.c0
  have z1 := hG4'.c1
  have z2 := hG4'.c2
  have fz := hG4'.fz
  unfold Sl.val
  simp only
  clear ho2 hb2 hd2 hp2 hs3 hG2' hG4 hG4' hxs
  go_wp2_with fail
  show bodyPost Tryz.prog Tryz.f69 _ Exit.ret _ (setDk (w2.setCell ⟨w.heap.size, 2, none⟩ (Sl.val ⟨a3, l3, k3⟩)) (w.heap.size + 1 + 1) (Sl.val ⟨pa, pl, pc⟩) base (Sl.val ⟨a3, l3, k3⟩))
  refine dk_end rfl HG4'.out ⟨pg, base, st ++ b⟩ ⟨pa, pl, pc⟩ ⟨a3, l3, k3⟩ (by rfl) rfl ?_
  have hbb : Below w.heap.size w (setDk (w2.setCell ⟨w.heap.size, 2, none⟩ (Sl.val ⟨a3, l3, k3⟩)) (w.heap.size + 1 + 1) (Sl.val ⟨pa, pl, pc⟩) base (Sl.val ⟨a3, l3, k3⟩)) :=
    setDk_below ((rBelow HWB.out HW3.out).setCell (p := ⟨w.heap.size, 2, none⟩) (Nat.le_refl _) _) (by omega) _ _ _
  refine ⟨hbb, ⟨pa, pl, pc⟩, ⟨a3, l3, k3⟩, rfl, H.out.pg.keep hbb (Nat.le_refl _), ?_⟩
  exact (HS3.out.other (DkBlk.no8 (s1 := ⟨pa, pl, pc⟩) (s2 := ⟨sa, sl, sc⟩) HG2.out) fun j hj => Below.heap_setCell _ ⟨w.heap.size, 2, none⟩ _ j hj).other (DkBlk.no8 (s1 := Sl.nil) (s2 := Sl.nil) HG4'.out) fun j hj => setDk_other _ _ _ _ _ j hj

end Go.Proofs.YtcaaiihjolnkgaaGreat

namespace Go.Proofs.YtcaaiihjolnkgaaGreat
open Go.RowKit
set_option maxRecDepth 100000
variable {K : Home}

/-- A part laid over a part. -/
def setPt (w : World) (g : Nat) (a : Int) (x : Value) (t : Bool) (o : Int) : World := (((w.setCell ⟨g, 0, none⟩ (.int .i64 a)).setCell ⟨g, 1, none⟩ x).setCell ⟨g, 2, none⟩ (.bool t)).setCell ⟨g, 3, none⟩ (.int .i64 o)
theorem setPt_size (w : World) (g : Nat) (a : Int) (x : Value) (t : Bool) (o : Int) : (setPt w g a x t o).heap.size = w.heap.size := by simp only [setPt, setCell_size]
theorem setPt_blk {w : World} {g : Nat} {a0 o0 : Int} {x0 : Value} {t0 : Bool} (h : PtBlk w g a0 x0 t0 o0) (a : Int) (x : Value) (t : Bool) (o : Int) : PtBlk (setPt w g a x t o) g a x t o := by
  have h1 := heap_setCell_same w g 0 _ 102 (.int .i64 a) h
  have h2 := heap_setCell_same _ g 1 _ 102 x h1
  have h3 := heap_setCell_same _ g 2 _ 102 (.bool t) h2
  have h4 := heap_setCell_same _ g 3 _ 102 (.int .i64 o) h3
  unfold PtBlk setPt
  rw [h4]
  simp
theorem setPt_below {B g : Nat} {w0 w : World} (hb : Below B w0 w) (hg : B ≤ g) (a : Int) (x : Value) (t : Bool) (o : Int) : Below B w0 (setPt w g a x t o) :=
  (((hb.setCell (p := ⟨g, 0, none⟩) hg _).setCell (p := ⟨g, 1, none⟩) hg _).setCell (p := ⟨g, 2, none⟩) hg _).setCell (p := ⟨g, 3, none⟩) hg _
theorem setPt_other (w : World) (g : Nat) (a : Int) (x : Value) (t : Bool) (o : Int) (k : Nat) (hk : k ≠ g) : (setPt w g a x t o).heap[k]? = w.heap[k]? := by
  unfold setPt
  rw [Below.heap_setCell _ ⟨g, 3, none⟩ _ k hk, Below.heap_setCell _ ⟨g, 2, none⟩ _ k hk, Below.heap_setCell _ ⟨g, 1, none⟩ _ k hk, Below.heap_setCell _ ⟨g, 0, none⟩ _ k hk]
theorem pt_results2 {fn : Func} {x y : Nat} (hr : fn.results = #[.cell x 102, .tmp y]) {W : World} {g : Nat} {q : Sl} {u : Pt} {v : Value} (h : PtBlk W g u.at_ q.val u.trim u.to) (tmps : Array Value) (ht : tmps.getD x undef = .pointer (some ⟨g, 0, none⟩)) (hv : tmps.getD y undef = v) : (results fn tmps).run Tryz.prog W = .ok (.tuple #[u.val q, v]) W := by
  have c0 := h.c0
  have c1 := h.c1
  have c2 := h.c2
  have c3 := h.c3
  unfold Sl.val at c1
  have ht2 : tmps[x]?.getD undef = .pointer (some ⟨g, 0, none⟩) := by simpa using ht
  have hv2 : tmps[y]?.getD undef = v := by simpa using hv
  simp [results, hr, ht2, hv2, go_sem, c0, c1, c2, c3, Pt.val, Sl.val]
theorem pt_end2 {fn : Func} {x y : Nat} (hres : fn.results = #[.cell x 102, .tmp y]) {W : World} {g : Nat} {x0 : Value} {a0 o0 : Int} {t0 : Bool} (h : PtBlk W g a0 x0 t0 o0) (u : Pt) (q : Sl) (v : Value) {A : Act} {R : Ending → World → Prop} (t2 : A.tmps.getD x undef = .pointer (some ⟨g, 0, none⟩)) (t3 : A.tmps.getD y undef = v) (hd : A.defers = [])
    (hR : R (.returned (.tuple #[u.val q, v])) (setPt W g u.at_ q.val u.trim u.to)) : bodyPost Tryz.prog fn R Exit.ret A (setPt W g u.at_ q.val u.trim u.to) := by
  have hr := setPt_blk h u.at_ q.val u.trim u.to
  generalize setPt W g u.at_ q.val u.trim u.to = W' at *
  exact bodyPost_ret (pt_results2 hres hr _ t2 t3) hd hR
theorem load_pt (p : Nat) (u : Pt) (q : Sl) (w : World) (h : PtBlk w p u.at_ q.val u.trim u.to) : (Instr.loadAt 102 (.pointer (some ⟨p, 0, none⟩))).run Tryz.prog w = .ok (u.val q) w := by
  have c0 := h.c0
  have c1 := h.c1
  have c2 := h.c2
  have c3 := h.c3
  unfold Sl.val at c1
  simp [go_sem, Instr.loadAt, c0, c1, c2, c3, Pt.val, Sl.val]
theorem store_pt (p : Nat) (u : Pt) (q : Sl) (w : World) {a0 o0 : Int} {x0 : Sl} {t0 : Bool} (h : PtBlk w p a0 x0.val t0 o0) : (Instr.storeAt 102 (.pointer (some ⟨p, 0, none⟩)) (u.val q)).run Tryz.prog w = .ok () (setPt w p u.at_ q.val u.trim u.to) := by
  have c0 := h.c0
  have c1 := h.c1
  have c2 := h.c2
  have c3 := h.c3
  have f0 := h.fz
  unfold Sl.val at c1
  simp [go_sem, Instr.storeAt, c0, c1, c2, c3, f0, Pt.val, Sl.val, setPt]

theorem enters70 : ∀ args w, (callFunc 70 args).run Tryz.prog w = .ok (.enter 70 args) w := Pl.enters Tryz.func70 (by kernel_rfl) (by kernel_rfl)

/-- The first so many units of a part: what they are, and are there any? -/
def Pt.first (u : Pt) (n : Int) : Pt × Bool := if (u.size : Int) ≤ n then (u, decide (0 < u.size)) else if n ≤ 0 ∨ 0 ≤ u.at_ ∨ u.trim = true then (u, false) else (⟨u.at_, u.b.take n.toNat, u.trim, u.to⟩, true)

set_option maxHeartbeats 4000000 in
set_option maxRecDepth 100000 in
theorem first2 (w : World) (p g : Nat) (hpg : p ≠ g) (u : Pt) (q : Sl) (hp : PtBlk w p u.at_ q.val u.trim u.to) (hg : PtBlk w g 0 Sl.nil.val false 0) (hq : BsS K w q u.b)
    {Q : Exit → Act → World → Prop} {A : Act} (hsz : A.tmps.size = 32) (hdf : A.defers = []) (s2 : A.tmps.getD 2 undef = .pointer (some ⟨p, 0, none⟩)) (s4 : A.tmps.getD 4 undef = .pointer (some ⟨g, 0, none⟩))
    (hend : ∀ (v : Nat → Value) w2, Below w.heap.size w w2 → PtBlk w2 g 0 Sl.nil.val false 0 → Q .normal ((((((A).put (some 10) (v 10)).put (some 11) (v 11)).put (some 12) (v 12)).put (some 13) (v 13)).put (some 5) (.bool (decide (0 < u.size)))) (setPt w2 g u.at_ q.val u.trim u.to)) :
    (Code.region 2 (Pl.find 2 ((Tryz.f71.body).getD .skip)) true).wp Tryz.prog Q A w := by
  have hW0 : Below w.heap.size w w.drew := (Below.refl _ _).drew
  have hS0 : (fun w' => PtBlk w' p u.at_ q.val u.trim u.to) w.drew := hp
  have hA := Pl.At.same (v := .pointer (some ⟨g, 0, none⟩)) (d := 4) (Pl.At.same (v := .pointer (some ⟨p, 0, none⟩)) (d := 2) (Pl.At.here hsz hdf) s2) s4
  refine Pl.H.start (S := fun w' => PtBlk w' p u.at_ q.val u.trim u.to) (by kernel_rfl) hA hS0 ?_
  rw [show (Pl.find 2 ((Tryz.f71.body).getD .skip)).size = 6 by kernel_rfl]
  refine Pl.H.take 0 10 (u.val q) (by kernel_rfl) (by kernel_rfl) (by kernel_rfl) (Pl.free 0 (by kernel_rfl)) (Pl.load 0 102 (.tmp 2) _ (by kernel_rfl) (by decide) (fun w' hS => load_pt p u q w' hS)) hS0 ?_
  refine Pl.H.take 1 11 (u.val q) (by kernel_rfl) (by kernel_rfl) (by kernel_rfl) (Pl.free 1 (by kernel_rfl)) (Pl.load 1 102 (.tmp 2) _ (by kernel_rfl) (by decide) (fun w' hS => load_pt p u q w' hS)) hS0 ?_
  refine Pl.H.call 2 12 70 [.tmp 11] #[102] (by kernel_rfl) (by kernel_rfl) (by kernel_rfl) (Pl.free 2 (by kernel_rfl)) (by kernel_rfl) (by decide) enters70 (Calls.mono (size_any u q w.drew (hq.keep hW0 (Nat.le_refl _))) ?_)
  rintro e w1 ⟨rfl, hb1⟩
  have hW1 : Below w.heap.size w w1 := hW0.trans hb1
  have hS1 : (fun w' => PtBlk w' p u.at_ q.val u.trim u.to) w1 := hp.keep hW1
  have hg1 := hg.keep hW1
  refine ⟨_, rfl, hS1, ?_⟩
  have hS2 : (fun w' => PtBlk w' p u.at_ q.val u.trim u.to) (setPt w1 g u.at_ q.val u.trim u.to) := by
    show PtBlk _ _ _ _ _ _
    unfold PtBlk
    rw [setPt_other _ _ _ _ _ _ _ hpg]
    exact hS1
  refine Pl.H.take 3 13 (.bool (decide (0 < u.size))) (by kernel_rfl) (by kernel_rfl) (by kernel_rfl) (Pl.free 3 (by kernel_rfl)) (Pl.bin 3 .gtr 3 3 (.tmp 12) (.const (.int .i64 0)) _ (by kernel_rfl) (by decide) (by decide) (fun w => by simp [Pl.ev, Pl.upd, go_sem])) hS1 ?_
  refine Pl.H.store 4 (setPt w1 g u.at_ q.val u.trim u.to) (by kernel_rfl) (by kernel_rfl) (by kernel_rfl) (Pl.free 4 (by kernel_rfl)) (Pl.storeV 4 102 (.tmp 4) (.tmp 10) _ (by kernel_rfl) (by decide) (by decide) (store_pt g u q w1 hg1)) hS2 ?_
  refine Pl.H.take 5 5 (.bool (decide (0 < u.size))) (by kernel_rfl) (by kernel_rfl) (by kernel_rfl) (Pl.free 5 (by kernel_rfl)) (Pl.assign 5 (.tmp 13) (by kernel_rfl) (by decide)) hS2 ?_
  refine Pl.H.done (by kernel_rfl) (fun A' hA' => ?_)
  rw [Pl.At.ext hA' (((((hA.put 10 _).put 11 _).put 12 _).put 13 _).put 5 _)]
  exact hend (fun d => if d = 10 then u.val q else if d = 11 then u.val q else if d = 12 then .int .i64 (u.size : Nat) else if d = 13 then .bool (decide (0 < u.size)) else if d = 5 then .bool (decide (0 < u.size)) else undef) _ hW1 hg1

theorem PtBlk.no8 {w : World} {g : Nat} {s1 : Sl} {a o : Int} {t : Bool} (h : PtBlk w g a s1.val t o) : ∀ k i, w.cell? ⟨g, k, none⟩ ≠ some (.int .u8 i) := by
  intro k i
  unfold PtBlk Sl.val at h
  rcases k with _ | _ | _ | _ | k <;> simp [World.cell?, h]
theorem PtBlk.set1 {w : World} {g : Nat} {a o : Int} {x : Value} {t : Bool} (h : PtBlk w g a x t o) (u : Value) : PtBlk (w.setCell ⟨g, 1, none⟩ u) g a u t o := by
  have := heap_setCell_same w g 1 _ 102 u h
  unfold PtBlk
  rw [this]
  simp
theorem PtBlk.off {w : World} {g : Nat} {a r : Int} {x : Value} {t : Bool} (h : PtBlk w g a x t r) {q o : Nat} (hq : g ≠ q) (u : Value) : PtBlk (w.setCell ⟨q, o, none⟩ u) g a x t r := by
  unfold PtBlk
  rw [Below.heap_setCell _ ⟨q, o, none⟩ _ g hq]
  exact h

/-- A part of a slice, up to a place. -/
def Sl.upto (s : Sl) (k : Nat) : Sl := ⟨fromA s.a s.cap 0, k, s.cap⟩
theorem BsS.upto {w : World} {s : Sl} {xs : List Nat} {k : Nat} (h : BsS K w s xs) (hk : k ≤ s.len) : BsS K w (s.upto k) (xs.take k) := by
  have hle := h.le
  have hbg := h.big
  refine ⟨⟨h.bs.upto hk, ?_, by show k ≤ s.cap; omega, by show k ≤ _; omega⟩, h.low, fun h0 ad ha => ?_⟩
  rotate_left
  · have h0' : 0 < s.len := by have : 0 < k := h0; omega
    have ha' : fromA s.a s.cap 0 = some ad := ha
    unfold fromA at ha'
    split at ha'
    · exact h.home h0' ad ha'
    · cases hs : s.a with
      | none => rw [hs] at ha'; cases ha'
      | some x =>
        rw [hs] at ha'
        have := h.home h0' x hs
        simp only [Option.map_some, Option.some.injEq] at ha'
        rw [← ha']
        unfold Addr.add
        split <;> exact this
  intro e
  have e' : fromA s.a s.cap 0 = none := e
  show s.cap = 0
  unfold fromA at e'
  split at e'
  · omega
  · cases ha : s.a with
    | none => exact h.nil ha
    | some x => rw [ha] at e'; simp at e'

set_option maxHeartbeats 4000000 in
set_option maxRecDepth 100000 in
theorem first_any (u : Pt) (q : Sl) (n : Int) (w : World) (h : BsS K w q u.b) :
    Calls Tryz.prog 71 #[u.val q, .int .i64 n] w fun e w' => Below w.heap.size w w' ∧ ∃ q', e = .returned (.tuple #[(u.first n).1.val q', .bool (u.first n).2]) ∧ BsS K w' q' (u.first n).1.b := by
  have HSZ : Hid (∀ w', Below w.heap.size w w' → Calls Tryz.prog 70 #[u.val q] w' fun e w2 => e = .returned (.int .i64 (u.size : Nat)) ∧ Below w'.heap.size w' w2) := fun w' hb => size_any u q w' (h.keep hb (Nat.le_refl _))
  obtain ⟨qa, ql, qc⟩ := q
  obtain ⟨W, hW⟩ : ∃ W, W = (w.alloc (.cells #[.int .i64 u.at_, .slice qa ql qc, .bool u.trim, .int .i64 u.to] 102)).alloc (.cells #[.int .i64 0, .slice none 0 0, .bool false, .int .i64 0] 102) := ⟨_, rfl⟩
  have hWb : Below w.heap.size w W := by rw [hW]; exact below_two w _ _
  have hB2 : PtBlk W w.heap.size u.at_ (.slice qa ql qc) u.trim u.to := by
    rw [hW]
    exact (ptBlk_new w u.at_ (.slice qa ql qc) u.trim u.to).keep (below_alloc _ _)
  have hB4 : PtBlk W (w.heap.size + 1) 0 (.slice none 0 0) false 0 := by
    rw [hW]
    have := ptBlk_new (w.alloc (.cells #[.int .i64 u.at_, .slice qa ql qc, .bool u.trim, .int .i64 u.to] 102)) 0 (.slice none 0 0) false 0
    simpa using this
  have HWE := hide hW
  have HWB := hide hWb
  have HB2 := hide hB2
  have HB4 := hide hB4
  have H := hide h
  clear h hW hWb hB2 hB4
  by_cases hA : (u.size : Int) ≤ n
  · have e : u.first n = (u, decide (0 < u.size)) := by unfold Pt.first; rw [if_pos hA]
    rw [e]
    simp only
    unfold Pt.val Sl.val at HSZ
    unfold Pt.val Sl.val
    simp only at HSZ ⊢
    generalize hsz : u.size = sz at HSZ hA ⊢
    have HSZE := hide hsz
    clear hsz e
    go_enter Tryz.func71, Tryz.ntmps71
    go_wp2_with fail
    rw [← HWE.out]
    refine (HSZ.out W HWB.out).mono ?_
    rintro e w1 ⟨rfl, hb1⟩
    have hB2 := HB2.out.keep hb1
    have hB4 := HB4.out.keep hb1
    have HW1 := hide (rBelow HWB.out hb1)
    have G2 := hide hB2
    have G4 := hide hB4
    clear hb1 hB2 hB4
    go_wp2_with fail
    refine Pl.region_is (ops := Pl.find 2 ((Tryz.f71.body).getD .skip)) (by kernel_rfl) ?_
    refine first2 w1 w.heap.size (w.heap.size + 1) (by omega) u ⟨qa, ql, qc⟩ G2.out G4.out (H.out.keep HW1.out (Nat.le_refl _)) (by rfl) (by rfl) (by rfl) (by rfl) ?_
    intro v w2 hb2 hg2
    have HW2 := hide (rBelow HW1.out hb2)
    have HG2 := hide hg2
    clear hb2 hg2
    simp only [Act.put, List.setIfInBounds_toArray, List.set_cons_zero, List.set_cons_succ]
    go_wp2_with fail
    refine pt_end2 rfl HG2.out u ⟨qa, ql, qc⟩ (.bool (decide (0 < u.size))) (by rfl) (by rfl) rfl ?_
    have hbb := setPt_below HW2.out (Nat.le_succ _) u.at_ (Sl.val ⟨qa, ql, qc⟩) u.trim u.to
    refine ⟨hbb, ⟨qa, ql, qc⟩, ?_, H.out.keep hbb (Nat.le_refl _)⟩
    rw [HSZE.out]
    rfl
  · have hA' : ¬ (u.size : Int) ≤ n := hA
    replace hA : n < (u.size : Int) := by omega
    by_cases h1 : n ≤ 0
    · have e : u.first n = (u, false) := by unfold Pt.first; rw [if_neg hA', if_pos (Or.inl h1)]
      rw [e]
      clear hA'
      simp only
      unfold Pt.val Sl.val at HSZ
      unfold Pt.val Sl.val
      simp only at HSZ ⊢
      generalize hsz : u.size = sz at HSZ hA ⊢
      have HSZE := hide hsz
      clear hsz e
      go_enter Tryz.func71, Tryz.ntmps71
      go_wp2_with fail
      rw [← HWE.out]
      refine (HSZ.out W HWB.out).mono ?_
      rintro e w1 ⟨rfl, hb1⟩
      have hB2 := HB2.out.keep hb1
      have hB4 := HB4.out.keep hb1
      have HW1 := hide (rBelow HWB.out hb1)
      have G2 := hide hB2
      have G4 := hide hB4
      have c0 := hB2.c0
      have c1 := hB2.c1
      have c2 := hB2.c2
      have c3 := hB2.c3
      have z0 := hB4.c0
      have z1 := hB4.c1
      have z2 := hB4.c2
      have z3 := hB4.c3
      have fz := hB4.fz
      have fy := hB2.fz
      clear hb1 hB2 hB4
      go_wp2_with fail
      show bodyPost Tryz.prog Tryz.f71 _ Exit.ret _ (setPt w1 (w.heap.size + 1) u.at_ (Sl.val ⟨qa, ql, qc⟩) u.trim u.to)
      refine pt_end2 rfl G4.out u ⟨qa, ql, qc⟩ (.bool false) (by rfl) (by rfl) rfl ?_
      have hbb := setPt_below HW1.out (Nat.le_succ _) u.at_ (Sl.val ⟨qa, ql, qc⟩) u.trim u.to
      exact ⟨hbb, ⟨qa, ql, qc⟩, rfl, H.out.keep hbb (Nat.le_refl _)⟩
    · replace h1 : 0 < n := by omega
      by_cases h2 : 0 ≤ u.at_
      · have e : u.first n = (u, false) := by unfold Pt.first; rw [if_neg hA', if_pos (Or.inr (Or.inl h2))]
        rw [e]
        clear hA'
        simp only
        unfold Pt.val Sl.val at HSZ
        unfold Pt.val Sl.val
        simp only at HSZ ⊢
        generalize hsz : u.size = sz at HSZ hA ⊢
        have HSZE := hide hsz
        clear hsz e
        go_enter Tryz.func71, Tryz.ntmps71
        go_wp2_with fail
        rw [← HWE.out]
        refine (HSZ.out W HWB.out).mono ?_
        rintro e w1 ⟨rfl, hb1⟩
        have hB2 := HB2.out.keep hb1
        have hB4 := HB4.out.keep hb1
        have HW1 := hide (rBelow HWB.out hb1)
        have G2 := hide hB2
        have G4 := hide hB4
        have c0 := hB2.c0
        have c1 := hB2.c1
        have c2 := hB2.c2
        have c3 := hB2.c3
        have z0 := hB4.c0
        have z1 := hB4.c1
        have z2 := hB4.c2
        have z3 := hB4.c3
        have fz := hB4.fz
        have fy := hB2.fz
        clear hb1 hB2 hB4
        go_wp2_with fail
        show bodyPost Tryz.prog Tryz.f71 _ Exit.ret _ (setPt w1 (w.heap.size + 1) u.at_ (Sl.val ⟨qa, ql, qc⟩) u.trim u.to)
        refine pt_end2 rfl G4.out u ⟨qa, ql, qc⟩ (.bool false) (by rfl) (by rfl) rfl ?_
        have hbb := setPt_below HW1.out (Nat.le_succ _) u.at_ (Sl.val ⟨qa, ql, qc⟩) u.trim u.to
        exact ⟨hbb, ⟨qa, ql, qc⟩, rfl, H.out.keep hbb (Nat.le_refl _)⟩
      · cases h3 : u.trim
        · obtain ⟨at_, b, trim, to⟩ := u
          simp only at h3 h2
          subst h3
          replace h2 : at_ < 0 := by omega
          obtain ⟨k, rfl⟩ : ∃ k : Nat, n = (k : Nat) := ⟨n.toNat, by omega⟩
          have hql := H.out.len
          have hsl : Pt.size ⟨at_, b, false, to⟩ = ql := by
            unfold Pt.size
            rw [if_pos ⟨h2, rfl⟩]
            exact hql
          have hk : k ≤ ql := by omega
          have e : Pt.first ⟨at_, b, false, to⟩ (k : Nat) = (⟨at_, b.take k, false, to⟩, true) := by
            unfold Pt.first
            rw [if_neg hA', if_neg (by
              rintro (x | x | x)
              · omega
              · have x' : 0 ≤ at_ := x
                omega
              · cases x)]
            rfl
          rw [e]
          have hle := H.out.le
          simp only at hle
          have hsc := slice_upto qa ql qc k (by omega)
          have HK := hide hk
          clear hA' hql hsl
          simp only at HWE HB2
          simp only
          unfold Pt.val Sl.val at HSZ
          unfold Pt.val Sl.val
          simp only at HSZ ⊢
          generalize hsz : Pt.size ⟨at_, b, false, to⟩ = sz at HSZ hA ⊢
          have HSZE := hide hsz
          clear hsz e
          go_enter Tryz.func71, Tryz.ntmps71
          go_wp2_with fail
          rw [← HWE.out]
          refine (HSZ.out W HWB.out).mono ?_
          rintro e w1 ⟨rfl, hb1⟩
          have hB2 := HB2.out.keep hb1
          have hB4 := HB4.out.keep hb1
          have HW1 := hide (rBelow HWB.out hb1)
          have G2 := hide hB2
          have G4 := hide hB4
          have c0 := hB2.c0
          have c1 := hB2.c1
          have c2 := hB2.c2
          have c3 := hB2.c3
          have z0 := hB4.c0
          have z1 := hB4.c1
          have z2 := hB4.c2
          have z3 := hB4.c3
          have fz := hB4.fz
          have fy := hB2.fz
          have hY2 := hB2.set1 (Sl.val (Sl.upto ⟨qa, ql, qc⟩ k))
          have hY4 := hB4.off (q := w.heap.size) (o := 1) (by omega) (Sl.val (Sl.upto ⟨qa, ql, qc⟩ k))
          have GY4 := hide hY4
          unfold Sl.upto Sl.val at hY2 hY4
          simp only at hY2 hY4
          have d0 := hY2.c0
          have d1 := hY2.c1
          have d2 := hY2.c2
          have d3 := hY2.c3
          have y0 := hY4.c0
          have y1 := hY4.c1
          have y2 := hY4.c2
          have y3 := hY4.c3
          have fw := hY4.fz
          clear hb1 hB2 hB4 hY2 hY4
          go_wp2_with fail
          show bodyPost Tryz.prog Tryz.f71 _ Exit.ret _ (setPt (w1.setCell ⟨w.heap.size, 1, none⟩ (Sl.val (Sl.upto ⟨qa, ql, qc⟩ k))) (w.heap.size + 1) at_ (Sl.val (Sl.upto ⟨qa, ql, qc⟩ k)) false to)
          refine pt_end2 rfl GY4.out ⟨at_, b.take k, false, to⟩ (Sl.upto ⟨qa, ql, qc⟩ k) (.bool true) (by rfl) (by rfl) rfl ?_
          have hbb := setPt_below (HW1.out.setCell (p := ⟨w.heap.size, 1, none⟩) (Nat.le_refl _) (Sl.val (Sl.upto ⟨qa, ql, qc⟩ k))) (Nat.le_succ _) at_ (Sl.val (Sl.upto ⟨qa, ql, qc⟩ k)) false to
          exact ⟨hbb, Sl.upto ⟨qa, ql, qc⟩ k, rfl, (H.out.upto HK.out).keep hbb (Nat.le_refl _)⟩
        · have e : u.first n = (u, false) := by unfold Pt.first; rw [if_neg hA', if_pos (Or.inr (Or.inr h3))]
          rw [e]
          clear hA' e
          replace h2 : u.at_ < 0 := by omega
          obtain ⟨at_, b, trim, to⟩ := u
          simp only at h3 h2
          subst h3
          have e := trivial
          simp only at HWE HB2
          simp only
          unfold Pt.val Sl.val at HSZ
          unfold Pt.val Sl.val
          simp only at HSZ ⊢
          generalize hsz : Pt.size ⟨at_, b, true, to⟩ = sz at HSZ hA ⊢
          have HSZE := hide hsz
          clear hsz e
          go_enter Tryz.func71, Tryz.ntmps71
          go_wp2_with fail
          rw [← HWE.out]
          refine (HSZ.out W HWB.out).mono ?_
          rintro e w1 ⟨rfl, hb1⟩
          have hB2 := HB2.out.keep hb1
          have hB4 := HB4.out.keep hb1
          have HW1 := hide (rBelow HWB.out hb1)
          have G2 := hide hB2
          have G4 := hide hB4
          have c0 := hB2.c0
          have c1 := hB2.c1
          have c2 := hB2.c2
          have c3 := hB2.c3
          have z0 := hB4.c0
          have z1 := hB4.c1
          have z2 := hB4.c2
          have z3 := hB4.c3
          have fz := hB4.fz
          have fy := hB2.fz
          clear hb1 hB2 hB4
          go_wp2_with fail
          show bodyPost Tryz.prog Tryz.f71 _ Exit.ret _ (setPt w1 (w.heap.size + 1) at_ (Sl.val ⟨qa, ql, qc⟩) true to)
          refine pt_end2 rfl G4.out ⟨at_, b, true, to⟩ ⟨qa, ql, qc⟩ (.bool false) (by rfl) (by rfl) rfl ?_
          have hbb := setPt_below HW1.out (Nat.le_succ _) at_ (Sl.val ⟨qa, ql, qc⟩) true to
          exact ⟨hbb, ⟨qa, ql, qc⟩, rfl, H.out.keep hbb (Nat.le_refl _)⟩

end Go.Proofs.YtcaaiihjolnkgaaGreat

namespace Go.Proofs.YtcaaiihjolnkgaaGreat
open Go.RowKit
set_option maxRecDepth 100000
variable {K : Home}

theorem infoPt : (Tryz.prog.info? 102).map (fun i => (i.zero, i.size, i.bytes)) = some (some (.agg #[.int .i64 0, .slice none 0 0, .bool false, .int .i64 0]), 4, 48) := by kernel_rfl

/-- A part with its slice: its cells, and those of a row of them. -/
structure PtS where
  u : Pt
  q : Sl
def ptD : PtS := ⟨⟨0, [], false, 0⟩, Sl.nil⟩
def PtS.cells (i : PtS) : List Value := [.int .i64 i.u.at_, i.q.val, .bool i.u.trim, .int .i64 i.u.to]
def ptVals (l : List PtS) : List Value := l.flatMap PtS.cells

/-- A part lies there. -/
def RowP (w : World) (b : Nat) : Prop := ∃ C fr, w.heap[b]? = some (Obj.cells C 102 fr)
def PtAt (w : World) (b o : Nat) (i : PtS) : Prop := w.cell? ⟨b, o, none⟩ = some (.int .i64 i.u.at_) ∧ w.cell? ⟨b, o + 1, none⟩ = some i.q.val ∧ w.cell? ⟨b, o + 2, none⟩ = some (.bool i.u.trim) ∧ w.cell? ⟨b, o + 3, none⟩ = some (.int .i64 i.u.to) ∧ RowP w b
/-- Its bytes lie where its slice leads, and its numbers are numbers. -/
def PtS.ok (K : Home) (w : World) (i : PtS) : Prop := BsS K w i.q i.u.b ∧ (Lit.int .i64 i.u.at_).wf = true ∧ (Lit.int .i64 i.u.to).wf = true
/-- The parts l lie where a slice of that length begins. -/
def Ps (K : Home) (w : World) (a : Option Addr) (len : Nat) (l : List PtS) : Prop :=
  l.length = len ∧ (∀ i ∈ l, PtS.ok K w i) ∧ ∀ j, j < len → ∃ b off, a = some ⟨b, off, none⟩ ∧ PtAt w b (off + j * 4) (l.getD j ptD)

theorem PtS.ok.keep {w w' : World} {B : Nat} {i : PtS} (h : PtS.ok K w i) (hb : Below B w w') (hB : w.heap.size ≤ B) : PtS.ok K w' i := ⟨h.1.keep hb hB, h.2⟩
theorem Ps.keep {w w' : World} {B : Nat} {a : Option Addr} {len : Nat} {l : List PtS} (h : Ps K w a len l) (hb : Below B w w') (hB : w.heap.size ≤ B) : Ps K w' a len l := by
  refine ⟨h.1, fun i hi => (h.2.1 i hi).keep hb hB, fun j hj => ?_⟩
  obtain ⟨b, off, ha, c0, c1, c2, c3, C4, fr4, c4⟩ := h.2.2 j hj
  have hlt := Nat.lt_of_lt_of_le (World.block_lt_of_cell? w _ c0) hB
  exact ⟨b, off, ha, (hb.cell hlt).trans c0, (hb.cell (p := ⟨b, off + j * 4 + 1, none⟩) hlt).trans c1, (hb.cell (p := ⟨b, off + j * 4 + 2, none⟩) hlt).trans c2, (hb.cell (p := ⟨b, off + j * 4 + 3, none⟩) hlt).trans c3, C4, fr4, (hb.block b hlt).trans c4⟩
theorem Ps.okAt {w : World} {a : Option Addr} {len : Nat} {l : List PtS} (h : Ps K w a len l) (j : Nat) (hj : j < len) : PtS.ok K w (l.getD j ptD) := by
  have hj' : j < l.length := by rw [h.1]; exact hj
  have := h.2.1 _ (List.getElem_mem hj')
  simpa [List.getD, hj'] using this


theorem ptVals_length : ∀ l, (ptVals l).length = l.length * 4
  | [] => rfl
  | i :: r => by
    have := ptVals_length r
    simp only [ptVals, List.flatMap_cons, List.length_append, List.length_cons] at *
    rw [this]
    simp [PtS.cells]
    omega

theorem ptVals_append (l m : List PtS) : ptVals (l ++ m) = ptVals l ++ ptVals m := by simp [ptVals]

theorem ptVals_one (l : List PtS) : ∀ u ∈ ptVals l, u.oneCell' = true := by
  intro u hu
  obtain ⟨i, _, hi⟩ := List.mem_flatMap.1 hu
  simp only [PtS.cells, List.mem_cons, List.mem_nil_iff, or_false] at hi
  rcases hi with rfl | rfl | rfl | rfl <;> rfl

theorem ptVals_get : ∀ (l : List PtS) (j t : Nat), j < l.length → t < 4 → (ptVals l)[j * 4 + t]? = (l.getD j ptD).cells[t]?
  | i :: r, 0, t, _, ht => by
    simp only [ptVals, List.flatMap_cons]
    rw [List.getElem?_append_left (by simp [PtS.cells]; omega)]
    simp
  | i :: r, j + 1, t, hj, ht => by
    have := ptVals_get r j t (by simpa using hj) ht
    simp only [ptVals, List.flatMap_cons] at *
    rw [List.getElem?_append_right (by simp [PtS.cells]; omega)]
    have e : (j + 1) * 4 + t - i.cells.length = j * 4 + t := by simp [PtS.cells]; omega
    rw [e, this]
    simp [List.getD]

/-- The slice is the call's own, and holds the parts l. -/
def OwnsP (w : World) (base : Nat) (v : Value) (l : List PtS) : Prop := w.ownsRow base 102 4 v l.length (ptVals l)

theorem OwnsP.nil (w : World) (base : Nat) : OwnsP w base (.slice none 0 0) [] := ⟨rfl, .inl ⟨rfl, rfl⟩⟩

theorem OwnsP.new (w : World) : OwnsP (w.alloc (.cells #[] 102)) w.heap.size (.slice (some ⟨w.heap.size, 0, none⟩) 0 0) [] := by
  have := World.ownsRow_lit (base := w.heap.size) (e := 102) (size := 4) w #[] 0 (Nat.le_refl _) (by unfold maxLen; omega) (by simp)
  simpa [OwnsP, ptVals] using this

theorem OwnsP.keep {w w' : World} {B base : Nat} {v : Value} {l : List PtS} (h : OwnsP w base v l) (hb : Below B w w') (hB : w.heap.size ≤ B) : OwnsP w' base v l := by
  refine ⟨h.1, ?_⟩
  rcases h.2 with hn | ⟨g, cap, cur, hv, hbg, hg, rest⟩
  · exact .inl hn
  · refine .inr ⟨g, cap, cur, hv, hbg, ?_, rest⟩
    rw [hb.block g (Nat.lt_of_lt_of_le (Array.getElem?_eq_some_iff.1 hg).1 hB)]
    exact hg

theorem OwnsP.is {w : World} {base : Nat} {v : Value} {l : List PtS} (h : OwnsP w base v l) (hf : ∀ i ∈ l, PtS.ok K w i) : ∃ a cap, v = .slice a l.length cap ∧ Ps K w a l.length l ∧ (a = none → cap = 0) ∧ l.length ≤ cap := by
  rcases h.2 with ⟨hv, h0⟩ | ⟨g, cap, cur, hv, hbg, hg, hle, hr⟩
  · refine ⟨none, 0, by rw [h0]; exact hv, ⟨rfl, hf, fun j hj => by omega⟩, fun _ => rfl, by omega⟩
  · refine ⟨some ⟨g, 0, none⟩, cap, hv, ⟨rfl, hf, fun j hj => ⟨g, 0, rfl, ?_⟩⟩, (fun e => by cases e), hle⟩
    rw [hv] at h
    have hc : ∀ t, t < 4 → w.cell? ⟨g, 0 + j * 4 + t, none⟩ = (l.getD j ptD).cells[t]? := by
      intro t ht
      have := World.ownsRow.cellAt h (j * 4 + t) (by omega)
      rw [Nat.zero_add, this, ptVals_get l j t hj ht]
    exact ⟨hc 0 (by omega), hc 1 (by omega), hc 2 (by omega), hc 3 (by omega), _, _, hg⟩

/-- Blocks that do not hold parts stay as they are. -/
def StayP (w w' : World) : Prop := ∀ (p : Nat) (C : Array Value) (t : TypeId) (fr : Nat × Nat), w.heap[p]? = some (Obj.cells C t fr) → t ≠ 102 → w'.heap[p]? = w.heap[p]?

theorem StayP.trans {a b c : World} (h : StayP a b) (k : StayP b c) : StayP a c := fun p C t fr hp ht => (k p C t fr ((h p C t fr hp ht).trans hp) ht).trans (h p C t fr hp ht)
theorem StayP.below {w w' : World} (h : Below w.heap.size w w') : StayP w w' := fun p _ _ _ hp _ => h.block p (Array.getElem?_eq_some_iff.1 hp).1

theorem OwnsP.ne {w : World} {base : Nat} {v : Value} {l : List PtS} (h : OwnsP w base v l) {p : Nat} {C : Array Value} {t : TypeId} {fr : Nat × Nat} (hp : w.heap[p]? = some (Obj.cells C t fr)) (ht : t ≠ 102) : v.ownBlock ≠ some p := by
  intro e
  rcases h.2 with ⟨hv, _⟩ | ⟨g, cap, cur, hv, _, hg, _⟩
  · rw [hv] at e
    cases e
  · rw [hv] at e
    simp [Value.ownBlock] at e
    subst e
    rw [hg] at hp
    simp only [Option.some.injEq, Obj.cells.injEq] at hp
    exact ht hp.2.1.symm

theorem run_append_parts (w : World) (ty : TypeId) (base : Nat) (v : Value) (l : List PtS) (hown : OwnsP w base v l) (ao : Option Addr) (len cap : Nat) (m : List PtS) (hb : Ps K w ao len m) (hn : ao = none → cap = 0)
    (hlen : l.length + len ≤ 1000000) (hbase : base ≤ w.heap.size) :
    ∃ v' w', (Builtin.append_ #[35, 35] ty #[v, .slice ao len cap]).run Tryz.prog w = .ok v' w' ∧ OwnsP w' base v' (l ++ m) ∧ Below base w w' ∧ StayP w w' ∧ (∀ p, p < w.heap.size → v.ownBlock ≠ some p → w'.heap[p]? = w.heap[p]?) := by
  obtain ⟨i0, hi, hz0, hz1, hz2⟩ := info_parts infoPt
  have hrow : ∀ k, v.ownBlock = some k → base ≤ k := fun k hk => (World.ownsRow.lt hown k hk).1
  have hyl := hb.1
  cases ao with
  | none =>
    obtain rfl := hn rfl
    have h0 : len = 0 := by
      rcases Nat.eq_zero_or_pos len with h | h
      · exact h
      · obtain ⟨_, _, e, _⟩ := hb.2.2 0 h
        cases e
    subst h0
    have hy : m = [] := List.eq_nil_of_length_eq_zero hyl
    subst hy
    have hrun := run_append_owned_none (P := Tryz.prog) (w := w) base 35 ty 102 i0 4 Tryz.underlying35 hi v l.length (ptVals l) hown
    exact ⟨v, w, hrun, by simpa using hown, Below.refl _ _, fun _ _ _ _ _ _ => rfl, fun _ _ _ => rfl⟩
  | some ad =>
    have hcells : ∀ j u, (ptVals m)[j]? = some u → w.cell? (ad.add j) = some u := by
      intro j u hj
      have hjl : j < m.length * 4 := by
        have := (List.getElem?_eq_some_iff.1 hj).1
        rw [ptVals_length] at this
        exact this
      obtain ⟨b, off, e, c0, c1, c2, c3, _⟩ := hb.2.2 (j / 4) (by omega)
      obtain rfl := Option.some.inj e
      have hg := ptVals_get m (j / 4) (j % 4) (by omega) (by omega)
      rw [show j / 4 * 4 + j % 4 = j by omega, hj] at hg
      rw [Addr.add_lit]
      have hm4 : j % 4 = 0 ∨ j % 4 = 1 ∨ j % 4 = 2 ∨ j % 4 = 3 := by omega
      rcases hm4 with e4 | e4 | e4 | e4 <;> rw [e4] at hg
      · rw [show off + j = off + j / 4 * 4 by omega, c0, hg]; rfl
      · rw [show off + j = off + j / 4 * 4 + 1 by omega, c1, hg]; rfl
      · rw [show off + j = off + j / 4 * 4 + 2 by omega, c2, hg]; rfl
      · rw [show off + j = off + j / 4 * 4 + 3 by omega, c3, hg]; rfl
    obtain ⟨v', w', hrun, ho, hg, _⟩ := run_append_own (P := Tryz.prog) w base 35 ty 102 i0 (.agg #[.int .i64 0, .slice none 0 0, .bool false, .int .i64 0]) 4 48 Tryz.underlying35 hi hz0 hz1 hz2 rfl (by decide) v l.length (ptVals l) hown ad len cap (ptVals m) (by rw [ptVals_length, hyl]) hcells (ptVals_one m)
      (by unfold maxLen; omega) (by omega) hbase
    refine ⟨v', w', hrun, ?_, (Below.refl base w).grown hg hbase hrow, fun p C t fr hp ht => hg.block p (Array.getElem?_eq_some_iff.1 hp).1 (hown.ne hp ht).symm, fun p hp hn => hg.block p hp hn.symm⟩
    unfold OwnsP
    rw [List.length_append, hyl, ptVals_append]
    exact ho

/-- One part, laid as a row. -/
theorem ps_one (w : World) (i : PtS) (hf : PtS.ok K w i) : Ps K (w.alloc (.cells #[.int .i64 i.u.at_, i.q.val, .bool i.u.trim, .int .i64 i.u.to] 102)) (some ⟨w.heap.size, 0, none⟩) 1 [i] := by
  have hn := ptBlk_new w i.u.at_ i.q.val i.u.trim i.u.to
  refine ⟨rfl, fun x hx => by simp at hx; rw [hx]; exact hf.keep (below_alloc _ _) (Nat.le_refl _), fun j hj => ?_⟩
  obtain rfl : j = 0 := by omega
  exact ⟨w.heap.size, 0, rfl, hn.c0, hn.c1, hn.c2, hn.c3, _, _, hn⟩

end Go.Proofs.YtcaaiihjolnkgaaGreat

namespace Go.Proofs.YtcaaiihjolnkgaaGreat
open Go.RowKit
set_option maxRecDepth 100000
variable {K : Home}

namespace Pl
theorem H.three {P : Program} {ops : Array Oper} {S : World → Prop} {Q : Exit → Act → World → Prop} {n fuel : Nat} {listed : Array Bool} {f : Nat → Value} {w : World} (i k l : Nat) (hr : Region.ready .any ops listed = [i, k, l]) (h : HOp P ops S Q n fuel listed f w i) (h2 : HOp P ops S Q n fuel listed f w k) (h3 : HOp P ops S Q n fuel listed f w l) : H P ops S Q n (fuel + 1) listed f w := by
  intro A hA
  refine wpAnyH_all hr (by simp) ?_
  intro j hj
  have : j = i ∨ j = k ∨ j = l := by simpa using hj
  rcases this with rfl | rfl | rfl
  · exact h A hA
  · exact h2 A hA
  · exact h3 A hA
end Pl

/-- A device in a block of its own. -/
def DvBlk (w : World) (p : Nat) (k0 : Value) (k1 : Int) (k2 : Value) (n0 : Value) (n1 : Int) (n2 : Value) (d : Value) (g : Bool) (a : Int) : Prop := w.heap[p]? = some (Obj.cells #[k0, .int .i64 k1, k2, n0, .int .i64 n1, n2, d, .bool g, .int .i64 a] 37 (0, 0))
section
variable {w w' : World} {p : Nat} {k0 k2 n0 n2 d : Value} {k1 n1 a : Int} {g : Bool}
theorem DvBlk.keep (h : DvBlk w p k0 k1 k2 n0 n1 n2 d g a) (hb : Below w.heap.size w w') : DvBlk w' p k0 k1 k2 n0 n1 n2 d g a := (hb.block p (Array.getElem?_eq_some_iff.1 h).1).trans h
theorem DvBlk.c0 (h : DvBlk w p k0 k1 k2 n0 n1 n2 d g a) : w.cell? ⟨p, 0, none⟩ = some (k0) := by unfold DvBlk at h; simp [World.cell?, h]
theorem DvBlk.c1 (h : DvBlk w p k0 k1 k2 n0 n1 n2 d g a) : w.cell? ⟨p, 1, none⟩ = some (.int .i64 k1) := by unfold DvBlk at h; simp [World.cell?, h]
theorem DvBlk.c2 (h : DvBlk w p k0 k1 k2 n0 n1 n2 d g a) : w.cell? ⟨p, 2, none⟩ = some (k2) := by unfold DvBlk at h; simp [World.cell?, h]
theorem DvBlk.c3 (h : DvBlk w p k0 k1 k2 n0 n1 n2 d g a) : w.cell? ⟨p, 3, none⟩ = some (n0) := by unfold DvBlk at h; simp [World.cell?, h]
theorem DvBlk.c4 (h : DvBlk w p k0 k1 k2 n0 n1 n2 d g a) : w.cell? ⟨p, 4, none⟩ = some (.int .i64 n1) := by unfold DvBlk at h; simp [World.cell?, h]
theorem DvBlk.c5 (h : DvBlk w p k0 k1 k2 n0 n1 n2 d g a) : w.cell? ⟨p, 5, none⟩ = some (n2) := by unfold DvBlk at h; simp [World.cell?, h]
theorem DvBlk.c6 (h : DvBlk w p k0 k1 k2 n0 n1 n2 d g a) : w.cell? ⟨p, 6, none⟩ = some (d) := by unfold DvBlk at h; simp [World.cell?, h]
theorem DvBlk.c7 (h : DvBlk w p k0 k1 k2 n0 n1 n2 d g a) : w.cell? ⟨p, 7, none⟩ = some (.bool g) := by unfold DvBlk at h; simp [World.cell?, h]
theorem DvBlk.c8 (h : DvBlk w p k0 k1 k2 n0 n1 n2 d g a) : w.cell? ⟨p, 8, none⟩ = some (.int .i64 a) := by unfold DvBlk at h; simp [World.cell?, h]
theorem DvBlk.fz (h : DvBlk w p k0 k1 k2 n0 n1 n2 d g a) (o : Nat) : w.frozen? ⟨p, o, none⟩ = false := frozen_of_row w p _ _ 37 h
end
theorem dvBlk_new (w : World) (k0 : Value) (k1 : Int) (k2 : Value) (n0 : Value) (n1 : Int) (n2 : Value) (d : Value) (g : Bool) (a : Int) : DvBlk (w.alloc (.cells #[k0, .int .i64 k1, k2, n0, .int .i64 n1, n2, d, .bool g, .int .i64 a] 37)) w.heap.size k0 k1 k2 n0 n1 n2 d g a := heap_alloc_new w _
theorem field_dv2 (p : Nat) (w : World) : (Instr.fieldAt 37 (.pointer (some ⟨p, 0, none⟩)) 2).run Tryz.prog w = .ok (.pointer (some ⟨p, 6, none⟩)) w := by simp [go_sem, Instr.fieldAt]
theorem load_ps (b o : Nat) (a : Option Addr) (len cap : Nat) (w : World) (h : w.cell? ⟨b, o, none⟩ = some (.slice a len cap)) : (Instr.loadAt 35 (.pointer (some ⟨b, o, none⟩))).run Tryz.prog w = .ok (.slice a len cap) w := by
  simp [go_sem, h]
theorem store_psV (b o : Nat) (v u : Value) (hv : ∃ a len cap, v = .slice a len cap) (w : World) (h : w.cell? ⟨b, o, none⟩ = some u) (hf : w.frozen? ⟨b, o, none⟩ = false) : (Instr.storeAt 35 (.pointer (some ⟨b, o, none⟩)) v).run Tryz.prog w = .ok () (w.setCell ⟨b, o, none⟩ v) := by
  obtain ⟨a, len, cap, rfl⟩ := hv
  simp [go_sem, Instr.storeAt, h, hf]
theorem build_ps0 (w : World) : (Instr.buildSlice 35 0 #[]).run Tryz.prog w = .ok (.slice (some ⟨w.heap.size, 0, none⟩) 0 0) (w.alloc (.cells #[] 102)) := by
  simp [go_sem, Instr.buildSlice]
theorem build_ps1 (x : PtS) (w : World) : (Instr.buildSlice 35 1 #[(0, x.u.val x.q)]).run Tryz.prog w = .ok (.slice (some ⟨w.heap.size, 0, none⟩) 1 1) (w.alloc (.cells #[.int .i64 x.u.at_, x.q.val, .bool x.u.trim, .int .i64 x.u.to] 102)) := by
  simp [go_sem, Instr.buildSlice, Pt.val, Sl.val]
theorem OwnsP.form {w : World} {base : Nat} {v : Value} {l : List PtS} (h : OwnsP w base v l) : ∃ a len cap, v = .slice a len cap := by
  rcases h.2 with ⟨hv, _⟩ | ⟨g, cp, cur, hv, _⟩
  · exact ⟨_, _, _, hv⟩
  · exact ⟨_, _, _, hv⟩
theorem OwnsP.new' (w : World) (base : Nat) (hb : base ≤ w.heap.size) : OwnsP (w.alloc (.cells #[] 102)) base (.slice (some ⟨w.heap.size, 0, none⟩) 0 0) [] := by
  have := World.ownsRow_lit (base := base) (e := 102) (size := 4) w #[] 0 hb (by unfold maxLen; omega) (by simp)
  simpa [OwnsP, ptVals] using this
/-- One part in a row stays where its block does. -/
theorem Ps.stay {w w' : World} {g len : Nat} {l : List PtS} (h : Ps K w (some ⟨g, 0, none⟩) len l) (hg : w'.heap[g]? = w.heap[g]?) (hok : ∀ i ∈ l, PtS.ok K w' i) : Ps K w' (some ⟨g, 0, none⟩) len l := by
  refine ⟨h.1, hok, fun j hj => ?_⟩
  obtain ⟨b, off, ha, c0, c1, c2, c3, C4, fr4, c4⟩ := h.2.2 j hj
  have e := Option.some.inj ha
  simp only [Addr.mk.injEq] at e
  obtain ⟨rfl, rfl, _⟩ := e
  refine ⟨g, 0, rfl, ?_⟩
  have hc : ∀ o, w'.cell? ⟨g, o, none⟩ = w.cell? ⟨g, o, none⟩ := by
    intro o
    simp only [World.cell?]
    rw [hg]
  exact ⟨(hc _).trans c0, (hc _).trans c1, (hc _).trans c2, (hc _).trans c3, C4, fr4, hg.trans c4⟩

set_option maxHeartbeats 4000000 in
set_option maxRecDepth 100000 in
theorem do10 (w : World) (p g : Nat) (hgp : g ≠ p) (k0 : Value) (k1 : Int) (k2 : Value) (n0 : Value) (n1 : Int) (n2 : Value) (da : Option Addr) (dl dc : Nat) (gn : Bool) (am : Int) (x : PtS) (l : List PtS) (hd : DvBlk w p k0 k1 k2 n0 n1 n2 (.slice da dl dc) gn am) (hp : PtBlk w g x.u.at_ x.q.val x.u.trim x.u.to) (hx : PtS.ok K w x) (hl : Ps K w da dl l) (hn : da = none → dc = 0) (hdl : dl ≤ 1000)
    {Q : Exit → Act → World → Prop} {A : Act} (hsz : A.tmps.size = 54) (hdf : A.defers = []) (s2 : A.tmps.getD 2 undef = .pointer (some ⟨p, 0, none⟩)) (s6 : A.tmps.getD 6 undef = .pointer (some ⟨g, 0, none⟩))
    (hend : ∀ (u : Nat → Value) w6 v6, OwnsP w6 w.heap.size v6 (l ++ [x]) → Below w.heap.size w w6 → Q .normal (((((((((A).put (some 38) (u 38)).put (some 41) (u 41)).put (some 37) (u 37)).put (some 39) (u 39)).put (some 42) (u 42)).put (some 40) (u 40)).put (some 43) (u 43)).put (some 44) (u 44)) (w6.setCell ⟨p, 6, none⟩ v6)) :
    (Code.region 10 (Pl.find 10 ((Tryz.f48.body).getD .skip)) true).wp Tryz.prog Q A w := by
  have hll := hl.1
  have b0 : Below w.heap.size w w.drew := (Below.refl _ _).drew
  have hA := Pl.At.same (v := .pointer (some ⟨g, 0, none⟩)) (d := 6) (Pl.At.same (v := .pointer (some ⟨p, 0, none⟩)) (d := 2) (Pl.At.here hsz hdf) s2) s6
  refine Pl.H.start (S := fun w' => PtBlk w' g x.u.at_ x.q.val x.u.trim x.u.to) (by kernel_rfl) hA (hp.keep b0) ?_
  rw [show (Pl.find 10 ((Tryz.f48.body).getD .skip)).size = 9 by kernel_rfl]
  refine Pl.H.take 1 38 (.pointer (some ⟨p, 6, none⟩)) (by kernel_rfl) (by kernel_rfl) (by kernel_rfl) (Pl.free 1 (by kernel_rfl)) (Pl.field 1 37 (.tmp 2) 2 _ (by kernel_rfl) (by decide) (field_dv2 p)) (hp.keep b0) ?_
  refine Pl.H.take 4 41 (x.u.val x.q) (by kernel_rfl) (by kernel_rfl) (by kernel_rfl) (Pl.free 4 (by kernel_rfl)) (Pl.load 4 102 (.tmp 6) _ (by kernel_rfl) (by decide) (fun w' hS => load_pt g x.u x.q w' hS)) (hp.keep b0) ?_
  refine Pl.H.three 0 2 5 (by kernel_rfl) ?_ ?_ ?_
  · have b1 : Below w.heap.size w (w.drew.alloc (.cells #[] 102)) := b0.alloc b0.size _
    have o1 : OwnsP (w.drew.alloc (.cells #[] 102)) w.heap.size (.slice (some ⟨w.drew.heap.size, 0, none⟩) 0 0) [] := OwnsP.new' _ _ b0.size
    refine Pl.HOp.value 0 37 (.slice (some ⟨w.drew.heap.size, 0, none⟩) 0 0) (w.drew.alloc (.cells #[] 102)) (by kernel_rfl) (by kernel_rfl) (by kernel_rfl) (Pl.zero 0 35 _ _ (by kernel_rfl) (build_ps0 w.drew)) (hp.keep b1) ?_
    refine Pl.H.two 2 5 (by kernel_rfl) ?_ ?_
    · refine Pl.HOp.value 2 39 (.slice da dl dc) (w.drew.alloc (.cells #[] 102)) (by kernel_rfl) (by kernel_rfl) (by kernel_rfl) (Pl.load1 2 35 (.tmp 38) _ (by kernel_rfl) (by decide) (load_ps p 6 da dl dc _ (hd.keep b1).c6)) (hp.keep b1) ?_
      refine Pl.H.two 3 5 (by kernel_rfl) ?_ ?_
      · obtain ⟨v3, w3, r3, o3, bb3, _, t3⟩ := run_append_parts (w.drew.alloc (.cells #[] 102)) 35 w.heap.size (.slice (some ⟨w.drew.heap.size, 0, none⟩) 0 0) [] o1 da dl dc l (hl.keep b1 (Nat.le_refl _)) hn (by simp; omega) b1.size
        rw [List.nil_append] at o3
        have b3 := b1.trans bb3
        refine Pl.HOp.value 3 40 v3 w3 (by kernel_rfl) (by kernel_rfl) (by kernel_rfl) (Pl.appT 3 35 35 (.tmp 37) (.tmp 39) _ _ (by kernel_rfl) (by kernel_rfl) (by decide) (by decide) r3) (hp.keep b3) ?_
        refine Pl.H.one 5 (by kernel_rfl) ?_
        have b4 : Below w.heap.size w (w3.alloc (.cells #[.int .i64 x.u.at_, x.q.val, .bool x.u.trim, .int .i64 x.u.to] 102)) := b3.alloc b3.size _
        have e4 := ps_one w3 x (hx.keep b3 (Nat.le_refl _))
        have o4 := o3.keep (below_alloc w3 (.cells #[.int .i64 x.u.at_, x.q.val, .bool x.u.trim, .int .i64 x.u.to] 102)) (Nat.le_refl _)
        refine Pl.HOp.value 5 42 (.slice (some ⟨w3.heap.size, 0, none⟩) 1 1) (w3.alloc (.cells #[.int .i64 x.u.at_, x.q.val, .bool x.u.trim, .int .i64 x.u.to] 102)) (by kernel_rfl) (by kernel_rfl) (by kernel_rfl) (Pl.one 5 35 (.tmp 41) _ _ (by kernel_rfl) (by decide) (build_ps1 x w3)) (hp.keep b4) ?_
        rw [Pl.upd_comm _ 40 42 _ _ (by decide)]
        obtain ⟨vz, wz, rz, oz, bbz, _, _⟩ := run_append_parts (w3.alloc (.cells #[.int .i64 x.u.at_, x.q.val, .bool x.u.trim, .int .i64 x.u.to] 102)) 35 w.heap.size v3 l o4 _ 1 1 [x] e4 (fun h => by cases h) (by omega) b4.size
        have bz := b4.trans bbz
        refine Pl.H.make 6 43 vz wz (by kernel_rfl) (by kernel_rfl) (by kernel_rfl) (Pl.free 6 (by kernel_rfl)) (Pl.appT 6 35 35 (.tmp 40) (.tmp 42) _ _ (by kernel_rfl) (by kernel_rfl) (by decide) (by decide) rz) (hp.keep bz) ?_
        refine Pl.H.take 7 44 (.pointer (some ⟨p, 6, none⟩)) (by kernel_rfl) (by kernel_rfl) (by kernel_rfl) (Pl.free 7 (by kernel_rfl)) (Pl.field 7 37 (.tmp 2) 2 _ (by kernel_rfl) (by decide) (field_dv2 p)) (hp.keep bz) ?_
        refine Pl.H.store 8 (wz.setCell ⟨p, 6, none⟩ vz) (by kernel_rfl) (by kernel_rfl) (by kernel_rfl) (Pl.free 8 (by kernel_rfl)) (Pl.storeV 8 35 (.tmp 44) (.tmp 43) _ (by kernel_rfl) (by decide) (by decide) (store_psV p 6 vz _ oz.form wz (hd.keep bz).c6 ((hd.keep bz).fz 6))) ((hp.keep bz).off hgp _) ?_
        refine Pl.H.done (by kernel_rfl) (fun A' hA' => ?_)
        rw [Pl.At.ext hA' ((((((((hA.put 38 _).put 41 _).put 37 _).put 39 _).put 42 _).put 40 _).put 43 _).put 44 _)]
        exact hend (fun d => if d = 38 then .pointer (some ⟨p, 6, none⟩) else if d = 41 then x.u.val x.q else if d = 37 then (.slice (some ⟨w.drew.heap.size, 0, none⟩) 0 0) else if d = 39 then .slice da dl dc else if d = 42 then (.slice (some ⟨w3.heap.size, 0, none⟩) 1 1) else if d = 40 then v3 else if d = 43 then vz else if d = 44 then .pointer (some ⟨p, 6, none⟩) else undef) _ _ oz bz
      · have b5 : Below w.heap.size w ((w.drew.alloc (.cells #[] 102)).alloc (.cells #[.int .i64 x.u.at_, x.q.val, .bool x.u.trim, .int .i64 x.u.to] 102)) := b1.alloc b1.size _
        have e5 := ps_one (w.drew.alloc (.cells #[] 102)) x (hx.keep b1 (Nat.le_refl _))
        have o5 := o1.keep (below_alloc (w.drew.alloc (.cells #[] 102)) (.cells #[.int .i64 x.u.at_, x.q.val, .bool x.u.trim, .int .i64 x.u.to] 102)) (Nat.le_refl _)
        refine Pl.HOp.value 5 42 (.slice (some ⟨(w.drew.alloc (.cells #[] 102)).heap.size, 0, none⟩) 1 1) ((w.drew.alloc (.cells #[] 102)).alloc (.cells #[.int .i64 x.u.at_, x.q.val, .bool x.u.trim, .int .i64 x.u.to] 102)) (by kernel_rfl) (by kernel_rfl) (by kernel_rfl) (Pl.one 5 35 (.tmp 41) _ _ (by kernel_rfl) (by decide) (build_ps1 x (w.drew.alloc (.cells #[] 102)))) (hp.keep b5) ?_
        refine Pl.H.one 3 (by kernel_rfl) ?_
        obtain ⟨v6, w6, r6, o6, bb6, _, t6⟩ := run_append_parts ((w.drew.alloc (.cells #[] 102)).alloc (.cells #[.int .i64 x.u.at_, x.q.val, .bool x.u.trim, .int .i64 x.u.to] 102)) 35 w.heap.size (.slice (some ⟨w.drew.heap.size, 0, none⟩) 0 0) [] o5 da dl dc l (hl.keep b5 (Nat.le_refl _)) hn (by simp; omega) b5.size
        rw [List.nil_append] at o6
        have b6 := b5.trans bb6
        have e6 := e5.stay (t6 _ (by simp <;> omega) (by simp [Value.ownBlock] <;> omega)) (fun i hi => by simp only [List.mem_singleton] at hi; rw [hi]; exact hx.keep b6 (Nat.le_refl _))
        refine Pl.HOp.value 3 40 v6 w6 (by kernel_rfl) (by kernel_rfl) (by kernel_rfl) (Pl.appT 3 35 35 (.tmp 37) (.tmp 39) _ _ (by kernel_rfl) (by kernel_rfl) (by decide) (by decide) r6) (hp.keep b6) ?_
        obtain ⟨vz, wz, rz, oz, bbz, _, _⟩ := run_append_parts w6 35 w.heap.size v6 l o6 _ 1 1 [x] e6 (fun h => by cases h) (by omega) b6.size
        have bz := b6.trans bbz
        refine Pl.H.make 6 43 vz wz (by kernel_rfl) (by kernel_rfl) (by kernel_rfl) (Pl.free 6 (by kernel_rfl)) (Pl.appT 6 35 35 (.tmp 40) (.tmp 42) _ _ (by kernel_rfl) (by kernel_rfl) (by decide) (by decide) rz) (hp.keep bz) ?_
        refine Pl.H.take 7 44 (.pointer (some ⟨p, 6, none⟩)) (by kernel_rfl) (by kernel_rfl) (by kernel_rfl) (Pl.free 7 (by kernel_rfl)) (Pl.field 7 37 (.tmp 2) 2 _ (by kernel_rfl) (by decide) (field_dv2 p)) (hp.keep bz) ?_
        refine Pl.H.store 8 (wz.setCell ⟨p, 6, none⟩ vz) (by kernel_rfl) (by kernel_rfl) (by kernel_rfl) (Pl.free 8 (by kernel_rfl)) (Pl.storeV 8 35 (.tmp 44) (.tmp 43) _ (by kernel_rfl) (by decide) (by decide) (store_psV p 6 vz _ oz.form wz (hd.keep bz).c6 ((hd.keep bz).fz 6))) ((hp.keep bz).off hgp _) ?_
        refine Pl.H.done (by kernel_rfl) (fun A' hA' => ?_)
        rw [Pl.At.ext hA' ((((((((hA.put 38 _).put 41 _).put 37 _).put 39 _).put 42 _).put 40 _).put 43 _).put 44 _)]
        exact hend (fun d => if d = 38 then .pointer (some ⟨p, 6, none⟩) else if d = 41 then x.u.val x.q else if d = 37 then (.slice (some ⟨w.drew.heap.size, 0, none⟩) 0 0) else if d = 39 then .slice da dl dc else if d = 42 then (.slice (some ⟨(w.drew.alloc (.cells #[] 102)).heap.size, 0, none⟩) 1 1) else if d = 40 then v6 else if d = 43 then vz else if d = 44 then .pointer (some ⟨p, 6, none⟩) else undef) _ _ oz bz
    · have b7 : Below w.heap.size w ((w.drew.alloc (.cells #[] 102)).alloc (.cells #[.int .i64 x.u.at_, x.q.val, .bool x.u.trim, .int .i64 x.u.to] 102)) := b1.alloc b1.size _
      have e7 := ps_one (w.drew.alloc (.cells #[] 102)) x (hx.keep b1 (Nat.le_refl _))
      have o7 := o1.keep (below_alloc (w.drew.alloc (.cells #[] 102)) (.cells #[.int .i64 x.u.at_, x.q.val, .bool x.u.trim, .int .i64 x.u.to] 102)) (Nat.le_refl _)
      refine Pl.HOp.value 5 42 (.slice (some ⟨(w.drew.alloc (.cells #[] 102)).heap.size, 0, none⟩) 1 1) ((w.drew.alloc (.cells #[] 102)).alloc (.cells #[.int .i64 x.u.at_, x.q.val, .bool x.u.trim, .int .i64 x.u.to] 102)) (by kernel_rfl) (by kernel_rfl) (by kernel_rfl) (Pl.one 5 35 (.tmp 41) _ _ (by kernel_rfl) (by decide) (build_ps1 x (w.drew.alloc (.cells #[] 102)))) (hp.keep b7) ?_
      refine Pl.H.one 2 (by kernel_rfl) ?_
      refine Pl.HOp.value 2 39 (.slice da dl dc) ((w.drew.alloc (.cells #[] 102)).alloc (.cells #[.int .i64 x.u.at_, x.q.val, .bool x.u.trim, .int .i64 x.u.to] 102)) (by kernel_rfl) (by kernel_rfl) (by kernel_rfl) (Pl.load1 2 35 (.tmp 38) _ (by kernel_rfl) (by decide) (load_ps p 6 da dl dc _ (hd.keep b7).c6)) (hp.keep b7) ?_
      rw [Pl.upd_comm _ 42 39 _ _ (by decide)]
      refine Pl.H.one 3 (by kernel_rfl) ?_
      obtain ⟨v9, w9, r9, o9, bb9, _, t9⟩ := run_append_parts ((w.drew.alloc (.cells #[] 102)).alloc (.cells #[.int .i64 x.u.at_, x.q.val, .bool x.u.trim, .int .i64 x.u.to] 102)) 35 w.heap.size (.slice (some ⟨w.drew.heap.size, 0, none⟩) 0 0) [] o7 da dl dc l (hl.keep b7 (Nat.le_refl _)) hn (by simp; omega) b7.size
      rw [List.nil_append] at o9
      have b9 := b7.trans bb9
      have e9 := e7.stay (t9 _ (by simp <;> omega) (by simp [Value.ownBlock] <;> omega)) (fun i hi => by simp only [List.mem_singleton] at hi; rw [hi]; exact hx.keep b9 (Nat.le_refl _))
      refine Pl.HOp.value 3 40 v9 w9 (by kernel_rfl) (by kernel_rfl) (by kernel_rfl) (Pl.appT 3 35 35 (.tmp 37) (.tmp 39) _ _ (by kernel_rfl) (by kernel_rfl) (by decide) (by decide) r9) (hp.keep b9) ?_
      obtain ⟨vz, wz, rz, oz, bbz, _, _⟩ := run_append_parts w9 35 w.heap.size v9 l o9 _ 1 1 [x] e9 (fun h => by cases h) (by omega) b9.size
      have bz := b9.trans bbz
      refine Pl.H.make 6 43 vz wz (by kernel_rfl) (by kernel_rfl) (by kernel_rfl) (Pl.free 6 (by kernel_rfl)) (Pl.appT 6 35 35 (.tmp 40) (.tmp 42) _ _ (by kernel_rfl) (by kernel_rfl) (by decide) (by decide) rz) (hp.keep bz) ?_
      refine Pl.H.take 7 44 (.pointer (some ⟨p, 6, none⟩)) (by kernel_rfl) (by kernel_rfl) (by kernel_rfl) (Pl.free 7 (by kernel_rfl)) (Pl.field 7 37 (.tmp 2) 2 _ (by kernel_rfl) (by decide) (field_dv2 p)) (hp.keep bz) ?_
      refine Pl.H.store 8 (wz.setCell ⟨p, 6, none⟩ vz) (by kernel_rfl) (by kernel_rfl) (by kernel_rfl) (Pl.free 8 (by kernel_rfl)) (Pl.storeV 8 35 (.tmp 44) (.tmp 43) _ (by kernel_rfl) (by decide) (by decide) (store_psV p 6 vz _ oz.form wz (hd.keep bz).c6 ((hd.keep bz).fz 6))) ((hp.keep bz).off hgp _) ?_
      refine Pl.H.done (by kernel_rfl) (fun A' hA' => ?_)
      rw [Pl.At.ext hA' ((((((((hA.put 38 _).put 41 _).put 37 _).put 39 _).put 42 _).put 40 _).put 43 _).put 44 _)]
      exact hend (fun d => if d = 38 then .pointer (some ⟨p, 6, none⟩) else if d = 41 then x.u.val x.q else if d = 37 then (.slice (some ⟨w.drew.heap.size, 0, none⟩) 0 0) else if d = 39 then .slice da dl dc else if d = 42 then (.slice (some ⟨(w.drew.alloc (.cells #[] 102)).heap.size, 0, none⟩) 1 1) else if d = 40 then v9 else if d = 43 then vz else if d = 44 then .pointer (some ⟨p, 6, none⟩) else undef) _ _ oz bz
  · refine Pl.HOp.value 2 39 (.slice da dl dc) w.drew (by kernel_rfl) (by kernel_rfl) (by kernel_rfl) (Pl.load1 2 35 (.tmp 38) _ (by kernel_rfl) (by decide) (load_ps p 6 da dl dc _ (hd.keep b0).c6)) (hp.keep b0) ?_
    refine Pl.H.two 0 5 (by kernel_rfl) ?_ ?_
    · have b11 : Below w.heap.size w (w.drew.alloc (.cells #[] 102)) := b0.alloc b0.size _
      have o11 : OwnsP (w.drew.alloc (.cells #[] 102)) w.heap.size (.slice (some ⟨w.drew.heap.size, 0, none⟩) 0 0) [] := OwnsP.new' _ _ b0.size
      refine Pl.HOp.value 0 37 (.slice (some ⟨w.drew.heap.size, 0, none⟩) 0 0) (w.drew.alloc (.cells #[] 102)) (by kernel_rfl) (by kernel_rfl) (by kernel_rfl) (Pl.zero 0 35 _ _ (by kernel_rfl) (build_ps0 w.drew)) (hp.keep b11) ?_
      rw [Pl.upd_comm _ 39 37 _ _ (by decide)]
      refine Pl.H.two 3 5 (by kernel_rfl) ?_ ?_
      · obtain ⟨v12, w12, r12, o12, bb12, _, t12⟩ := run_append_parts (w.drew.alloc (.cells #[] 102)) 35 w.heap.size (.slice (some ⟨w.drew.heap.size, 0, none⟩) 0 0) [] o11 da dl dc l (hl.keep b11 (Nat.le_refl _)) hn (by simp; omega) b11.size
        rw [List.nil_append] at o12
        have b12 := b11.trans bb12
        refine Pl.HOp.value 3 40 v12 w12 (by kernel_rfl) (by kernel_rfl) (by kernel_rfl) (Pl.appT 3 35 35 (.tmp 37) (.tmp 39) _ _ (by kernel_rfl) (by kernel_rfl) (by decide) (by decide) r12) (hp.keep b12) ?_
        refine Pl.H.one 5 (by kernel_rfl) ?_
        have b13 : Below w.heap.size w (w12.alloc (.cells #[.int .i64 x.u.at_, x.q.val, .bool x.u.trim, .int .i64 x.u.to] 102)) := b12.alloc b12.size _
        have e13 := ps_one w12 x (hx.keep b12 (Nat.le_refl _))
        have o13 := o12.keep (below_alloc w12 (.cells #[.int .i64 x.u.at_, x.q.val, .bool x.u.trim, .int .i64 x.u.to] 102)) (Nat.le_refl _)
        refine Pl.HOp.value 5 42 (.slice (some ⟨w12.heap.size, 0, none⟩) 1 1) (w12.alloc (.cells #[.int .i64 x.u.at_, x.q.val, .bool x.u.trim, .int .i64 x.u.to] 102)) (by kernel_rfl) (by kernel_rfl) (by kernel_rfl) (Pl.one 5 35 (.tmp 41) _ _ (by kernel_rfl) (by decide) (build_ps1 x w12)) (hp.keep b13) ?_
        rw [Pl.upd_comm _ 40 42 _ _ (by decide)]
        obtain ⟨vz, wz, rz, oz, bbz, _, _⟩ := run_append_parts (w12.alloc (.cells #[.int .i64 x.u.at_, x.q.val, .bool x.u.trim, .int .i64 x.u.to] 102)) 35 w.heap.size v12 l o13 _ 1 1 [x] e13 (fun h => by cases h) (by omega) b13.size
        have bz := b13.trans bbz
        refine Pl.H.make 6 43 vz wz (by kernel_rfl) (by kernel_rfl) (by kernel_rfl) (Pl.free 6 (by kernel_rfl)) (Pl.appT 6 35 35 (.tmp 40) (.tmp 42) _ _ (by kernel_rfl) (by kernel_rfl) (by decide) (by decide) rz) (hp.keep bz) ?_
        refine Pl.H.take 7 44 (.pointer (some ⟨p, 6, none⟩)) (by kernel_rfl) (by kernel_rfl) (by kernel_rfl) (Pl.free 7 (by kernel_rfl)) (Pl.field 7 37 (.tmp 2) 2 _ (by kernel_rfl) (by decide) (field_dv2 p)) (hp.keep bz) ?_
        refine Pl.H.store 8 (wz.setCell ⟨p, 6, none⟩ vz) (by kernel_rfl) (by kernel_rfl) (by kernel_rfl) (Pl.free 8 (by kernel_rfl)) (Pl.storeV 8 35 (.tmp 44) (.tmp 43) _ (by kernel_rfl) (by decide) (by decide) (store_psV p 6 vz _ oz.form wz (hd.keep bz).c6 ((hd.keep bz).fz 6))) ((hp.keep bz).off hgp _) ?_
        refine Pl.H.done (by kernel_rfl) (fun A' hA' => ?_)
        rw [Pl.At.ext hA' ((((((((hA.put 38 _).put 41 _).put 37 _).put 39 _).put 42 _).put 40 _).put 43 _).put 44 _)]
        exact hend (fun d => if d = 38 then .pointer (some ⟨p, 6, none⟩) else if d = 41 then x.u.val x.q else if d = 37 then (.slice (some ⟨w.drew.heap.size, 0, none⟩) 0 0) else if d = 39 then .slice da dl dc else if d = 42 then (.slice (some ⟨w12.heap.size, 0, none⟩) 1 1) else if d = 40 then v12 else if d = 43 then vz else if d = 44 then .pointer (some ⟨p, 6, none⟩) else undef) _ _ oz bz
      · have b14 : Below w.heap.size w ((w.drew.alloc (.cells #[] 102)).alloc (.cells #[.int .i64 x.u.at_, x.q.val, .bool x.u.trim, .int .i64 x.u.to] 102)) := b11.alloc b11.size _
        have e14 := ps_one (w.drew.alloc (.cells #[] 102)) x (hx.keep b11 (Nat.le_refl _))
        have o14 := o11.keep (below_alloc (w.drew.alloc (.cells #[] 102)) (.cells #[.int .i64 x.u.at_, x.q.val, .bool x.u.trim, .int .i64 x.u.to] 102)) (Nat.le_refl _)
        refine Pl.HOp.value 5 42 (.slice (some ⟨(w.drew.alloc (.cells #[] 102)).heap.size, 0, none⟩) 1 1) ((w.drew.alloc (.cells #[] 102)).alloc (.cells #[.int .i64 x.u.at_, x.q.val, .bool x.u.trim, .int .i64 x.u.to] 102)) (by kernel_rfl) (by kernel_rfl) (by kernel_rfl) (Pl.one 5 35 (.tmp 41) _ _ (by kernel_rfl) (by decide) (build_ps1 x (w.drew.alloc (.cells #[] 102)))) (hp.keep b14) ?_
        refine Pl.H.one 3 (by kernel_rfl) ?_
        obtain ⟨v15, w15, r15, o15, bb15, _, t15⟩ := run_append_parts ((w.drew.alloc (.cells #[] 102)).alloc (.cells #[.int .i64 x.u.at_, x.q.val, .bool x.u.trim, .int .i64 x.u.to] 102)) 35 w.heap.size (.slice (some ⟨w.drew.heap.size, 0, none⟩) 0 0) [] o14 da dl dc l (hl.keep b14 (Nat.le_refl _)) hn (by simp; omega) b14.size
        rw [List.nil_append] at o15
        have b15 := b14.trans bb15
        have e15 := e14.stay (t15 _ (by simp <;> omega) (by simp [Value.ownBlock] <;> omega)) (fun i hi => by simp only [List.mem_singleton] at hi; rw [hi]; exact hx.keep b15 (Nat.le_refl _))
        refine Pl.HOp.value 3 40 v15 w15 (by kernel_rfl) (by kernel_rfl) (by kernel_rfl) (Pl.appT 3 35 35 (.tmp 37) (.tmp 39) _ _ (by kernel_rfl) (by kernel_rfl) (by decide) (by decide) r15) (hp.keep b15) ?_
        obtain ⟨vz, wz, rz, oz, bbz, _, _⟩ := run_append_parts w15 35 w.heap.size v15 l o15 _ 1 1 [x] e15 (fun h => by cases h) (by omega) b15.size
        have bz := b15.trans bbz
        refine Pl.H.make 6 43 vz wz (by kernel_rfl) (by kernel_rfl) (by kernel_rfl) (Pl.free 6 (by kernel_rfl)) (Pl.appT 6 35 35 (.tmp 40) (.tmp 42) _ _ (by kernel_rfl) (by kernel_rfl) (by decide) (by decide) rz) (hp.keep bz) ?_
        refine Pl.H.take 7 44 (.pointer (some ⟨p, 6, none⟩)) (by kernel_rfl) (by kernel_rfl) (by kernel_rfl) (Pl.free 7 (by kernel_rfl)) (Pl.field 7 37 (.tmp 2) 2 _ (by kernel_rfl) (by decide) (field_dv2 p)) (hp.keep bz) ?_
        refine Pl.H.store 8 (wz.setCell ⟨p, 6, none⟩ vz) (by kernel_rfl) (by kernel_rfl) (by kernel_rfl) (Pl.free 8 (by kernel_rfl)) (Pl.storeV 8 35 (.tmp 44) (.tmp 43) _ (by kernel_rfl) (by decide) (by decide) (store_psV p 6 vz _ oz.form wz (hd.keep bz).c6 ((hd.keep bz).fz 6))) ((hp.keep bz).off hgp _) ?_
        refine Pl.H.done (by kernel_rfl) (fun A' hA' => ?_)
        rw [Pl.At.ext hA' ((((((((hA.put 38 _).put 41 _).put 37 _).put 39 _).put 42 _).put 40 _).put 43 _).put 44 _)]
        exact hend (fun d => if d = 38 then .pointer (some ⟨p, 6, none⟩) else if d = 41 then x.u.val x.q else if d = 37 then (.slice (some ⟨w.drew.heap.size, 0, none⟩) 0 0) else if d = 39 then .slice da dl dc else if d = 42 then (.slice (some ⟨(w.drew.alloc (.cells #[] 102)).heap.size, 0, none⟩) 1 1) else if d = 40 then v15 else if d = 43 then vz else if d = 44 then .pointer (some ⟨p, 6, none⟩) else undef) _ _ oz bz
    · have b16 : Below w.heap.size w (w.drew.alloc (.cells #[.int .i64 x.u.at_, x.q.val, .bool x.u.trim, .int .i64 x.u.to] 102)) := b0.alloc b0.size _
      have e16 := ps_one w.drew x (hx.keep b0 (Nat.le_refl _))
      refine Pl.HOp.value 5 42 (.slice (some ⟨w.drew.heap.size, 0, none⟩) 1 1) (w.drew.alloc (.cells #[.int .i64 x.u.at_, x.q.val, .bool x.u.trim, .int .i64 x.u.to] 102)) (by kernel_rfl) (by kernel_rfl) (by kernel_rfl) (Pl.one 5 35 (.tmp 41) _ _ (by kernel_rfl) (by decide) (build_ps1 x w.drew)) (hp.keep b16) ?_
      refine Pl.H.one 0 (by kernel_rfl) ?_
      have b17 : Below w.heap.size w ((w.drew.alloc (.cells #[.int .i64 x.u.at_, x.q.val, .bool x.u.trim, .int .i64 x.u.to] 102)).alloc (.cells #[] 102)) := b16.alloc b16.size _
      have o17 : OwnsP ((w.drew.alloc (.cells #[.int .i64 x.u.at_, x.q.val, .bool x.u.trim, .int .i64 x.u.to] 102)).alloc (.cells #[] 102)) w.heap.size (.slice (some ⟨(w.drew.alloc (.cells #[.int .i64 x.u.at_, x.q.val, .bool x.u.trim, .int .i64 x.u.to] 102)).heap.size, 0, none⟩) 0 0) [] := OwnsP.new' _ _ b16.size
      have e17 := e16.keep (below_alloc (w.drew.alloc (.cells #[.int .i64 x.u.at_, x.q.val, .bool x.u.trim, .int .i64 x.u.to] 102)) (.cells #[] 102)) (Nat.le_refl _)
      refine Pl.HOp.value 0 37 (.slice (some ⟨(w.drew.alloc (.cells #[.int .i64 x.u.at_, x.q.val, .bool x.u.trim, .int .i64 x.u.to] 102)).heap.size, 0, none⟩) 0 0) ((w.drew.alloc (.cells #[.int .i64 x.u.at_, x.q.val, .bool x.u.trim, .int .i64 x.u.to] 102)).alloc (.cells #[] 102)) (by kernel_rfl) (by kernel_rfl) (by kernel_rfl) (Pl.zero 0 35 _ _ (by kernel_rfl) (build_ps0 (w.drew.alloc (.cells #[.int .i64 x.u.at_, x.q.val, .bool x.u.trim, .int .i64 x.u.to] 102)))) (hp.keep b17) ?_
      rw [Pl.upd_comm _ 42 37 _ _ (by decide)]
      rw [Pl.upd_comm _ 39 37 _ _ (by decide)]
      refine Pl.H.one 3 (by kernel_rfl) ?_
      obtain ⟨v18, w18, r18, o18, bb18, _, t18⟩ := run_append_parts ((w.drew.alloc (.cells #[.int .i64 x.u.at_, x.q.val, .bool x.u.trim, .int .i64 x.u.to] 102)).alloc (.cells #[] 102)) 35 w.heap.size (.slice (some ⟨(w.drew.alloc (.cells #[.int .i64 x.u.at_, x.q.val, .bool x.u.trim, .int .i64 x.u.to] 102)).heap.size, 0, none⟩) 0 0) [] o17 da dl dc l (hl.keep b17 (Nat.le_refl _)) hn (by simp; omega) b17.size
      rw [List.nil_append] at o18
      have b18 := b17.trans bb18
      have e18 := e17.stay (t18 _ (by simp <;> omega) (by simp [Value.ownBlock] <;> omega)) (fun i hi => by simp only [List.mem_singleton] at hi; rw [hi]; exact hx.keep b18 (Nat.le_refl _))
      refine Pl.HOp.value 3 40 v18 w18 (by kernel_rfl) (by kernel_rfl) (by kernel_rfl) (Pl.appT 3 35 35 (.tmp 37) (.tmp 39) _ _ (by kernel_rfl) (by kernel_rfl) (by decide) (by decide) r18) (hp.keep b18) ?_
      obtain ⟨vz, wz, rz, oz, bbz, _, _⟩ := run_append_parts w18 35 w.heap.size v18 l o18 _ 1 1 [x] e18 (fun h => by cases h) (by omega) b18.size
      have bz := b18.trans bbz
      refine Pl.H.make 6 43 vz wz (by kernel_rfl) (by kernel_rfl) (by kernel_rfl) (Pl.free 6 (by kernel_rfl)) (Pl.appT 6 35 35 (.tmp 40) (.tmp 42) _ _ (by kernel_rfl) (by kernel_rfl) (by decide) (by decide) rz) (hp.keep bz) ?_
      refine Pl.H.take 7 44 (.pointer (some ⟨p, 6, none⟩)) (by kernel_rfl) (by kernel_rfl) (by kernel_rfl) (Pl.free 7 (by kernel_rfl)) (Pl.field 7 37 (.tmp 2) 2 _ (by kernel_rfl) (by decide) (field_dv2 p)) (hp.keep bz) ?_
      refine Pl.H.store 8 (wz.setCell ⟨p, 6, none⟩ vz) (by kernel_rfl) (by kernel_rfl) (by kernel_rfl) (Pl.free 8 (by kernel_rfl)) (Pl.storeV 8 35 (.tmp 44) (.tmp 43) _ (by kernel_rfl) (by decide) (by decide) (store_psV p 6 vz _ oz.form wz (hd.keep bz).c6 ((hd.keep bz).fz 6))) ((hp.keep bz).off hgp _) ?_
      refine Pl.H.done (by kernel_rfl) (fun A' hA' => ?_)
      rw [Pl.At.ext hA' ((((((((hA.put 38 _).put 41 _).put 37 _).put 39 _).put 42 _).put 40 _).put 43 _).put 44 _)]
      exact hend (fun d => if d = 38 then .pointer (some ⟨p, 6, none⟩) else if d = 41 then x.u.val x.q else if d = 37 then (.slice (some ⟨(w.drew.alloc (.cells #[.int .i64 x.u.at_, x.q.val, .bool x.u.trim, .int .i64 x.u.to] 102)).heap.size, 0, none⟩) 0 0) else if d = 39 then .slice da dl dc else if d = 42 then (.slice (some ⟨w.drew.heap.size, 0, none⟩) 1 1) else if d = 40 then v18 else if d = 43 then vz else if d = 44 then .pointer (some ⟨p, 6, none⟩) else undef) _ _ oz bz
  · have b19 : Below w.heap.size w (w.drew.alloc (.cells #[.int .i64 x.u.at_, x.q.val, .bool x.u.trim, .int .i64 x.u.to] 102)) := b0.alloc b0.size _
    have e19 := ps_one w.drew x (hx.keep b0 (Nat.le_refl _))
    refine Pl.HOp.value 5 42 (.slice (some ⟨w.drew.heap.size, 0, none⟩) 1 1) (w.drew.alloc (.cells #[.int .i64 x.u.at_, x.q.val, .bool x.u.trim, .int .i64 x.u.to] 102)) (by kernel_rfl) (by kernel_rfl) (by kernel_rfl) (Pl.one 5 35 (.tmp 41) _ _ (by kernel_rfl) (by decide) (build_ps1 x w.drew)) (hp.keep b19) ?_
    refine Pl.H.two 0 2 (by kernel_rfl) ?_ ?_
    · have b20 : Below w.heap.size w ((w.drew.alloc (.cells #[.int .i64 x.u.at_, x.q.val, .bool x.u.trim, .int .i64 x.u.to] 102)).alloc (.cells #[] 102)) := b19.alloc b19.size _
      have o20 : OwnsP ((w.drew.alloc (.cells #[.int .i64 x.u.at_, x.q.val, .bool x.u.trim, .int .i64 x.u.to] 102)).alloc (.cells #[] 102)) w.heap.size (.slice (some ⟨(w.drew.alloc (.cells #[.int .i64 x.u.at_, x.q.val, .bool x.u.trim, .int .i64 x.u.to] 102)).heap.size, 0, none⟩) 0 0) [] := OwnsP.new' _ _ b19.size
      have e20 := e19.keep (below_alloc (w.drew.alloc (.cells #[.int .i64 x.u.at_, x.q.val, .bool x.u.trim, .int .i64 x.u.to] 102)) (.cells #[] 102)) (Nat.le_refl _)
      refine Pl.HOp.value 0 37 (.slice (some ⟨(w.drew.alloc (.cells #[.int .i64 x.u.at_, x.q.val, .bool x.u.trim, .int .i64 x.u.to] 102)).heap.size, 0, none⟩) 0 0) ((w.drew.alloc (.cells #[.int .i64 x.u.at_, x.q.val, .bool x.u.trim, .int .i64 x.u.to] 102)).alloc (.cells #[] 102)) (by kernel_rfl) (by kernel_rfl) (by kernel_rfl) (Pl.zero 0 35 _ _ (by kernel_rfl) (build_ps0 (w.drew.alloc (.cells #[.int .i64 x.u.at_, x.q.val, .bool x.u.trim, .int .i64 x.u.to] 102)))) (hp.keep b20) ?_
      rw [Pl.upd_comm _ 42 37 _ _ (by decide)]
      refine Pl.H.one 2 (by kernel_rfl) ?_
      refine Pl.HOp.value 2 39 (.slice da dl dc) ((w.drew.alloc (.cells #[.int .i64 x.u.at_, x.q.val, .bool x.u.trim, .int .i64 x.u.to] 102)).alloc (.cells #[] 102)) (by kernel_rfl) (by kernel_rfl) (by kernel_rfl) (Pl.load1 2 35 (.tmp 38) _ (by kernel_rfl) (by decide) (load_ps p 6 da dl dc _ (hd.keep b20).c6)) (hp.keep b20) ?_
      rw [Pl.upd_comm _ 42 39 _ _ (by decide)]
      refine Pl.H.one 3 (by kernel_rfl) ?_
      obtain ⟨v22, w22, r22, o22, bb22, _, t22⟩ := run_append_parts ((w.drew.alloc (.cells #[.int .i64 x.u.at_, x.q.val, .bool x.u.trim, .int .i64 x.u.to] 102)).alloc (.cells #[] 102)) 35 w.heap.size (.slice (some ⟨(w.drew.alloc (.cells #[.int .i64 x.u.at_, x.q.val, .bool x.u.trim, .int .i64 x.u.to] 102)).heap.size, 0, none⟩) 0 0) [] o20 da dl dc l (hl.keep b20 (Nat.le_refl _)) hn (by simp; omega) b20.size
      rw [List.nil_append] at o22
      have b22 := b20.trans bb22
      have e22 := e20.stay (t22 _ (by simp <;> omega) (by simp [Value.ownBlock] <;> omega)) (fun i hi => by simp only [List.mem_singleton] at hi; rw [hi]; exact hx.keep b22 (Nat.le_refl _))
      refine Pl.HOp.value 3 40 v22 w22 (by kernel_rfl) (by kernel_rfl) (by kernel_rfl) (Pl.appT 3 35 35 (.tmp 37) (.tmp 39) _ _ (by kernel_rfl) (by kernel_rfl) (by decide) (by decide) r22) (hp.keep b22) ?_
      obtain ⟨vz, wz, rz, oz, bbz, _, _⟩ := run_append_parts w22 35 w.heap.size v22 l o22 _ 1 1 [x] e22 (fun h => by cases h) (by omega) b22.size
      have bz := b22.trans bbz
      refine Pl.H.make 6 43 vz wz (by kernel_rfl) (by kernel_rfl) (by kernel_rfl) (Pl.free 6 (by kernel_rfl)) (Pl.appT 6 35 35 (.tmp 40) (.tmp 42) _ _ (by kernel_rfl) (by kernel_rfl) (by decide) (by decide) rz) (hp.keep bz) ?_
      refine Pl.H.take 7 44 (.pointer (some ⟨p, 6, none⟩)) (by kernel_rfl) (by kernel_rfl) (by kernel_rfl) (Pl.free 7 (by kernel_rfl)) (Pl.field 7 37 (.tmp 2) 2 _ (by kernel_rfl) (by decide) (field_dv2 p)) (hp.keep bz) ?_
      refine Pl.H.store 8 (wz.setCell ⟨p, 6, none⟩ vz) (by kernel_rfl) (by kernel_rfl) (by kernel_rfl) (Pl.free 8 (by kernel_rfl)) (Pl.storeV 8 35 (.tmp 44) (.tmp 43) _ (by kernel_rfl) (by decide) (by decide) (store_psV p 6 vz _ oz.form wz (hd.keep bz).c6 ((hd.keep bz).fz 6))) ((hp.keep bz).off hgp _) ?_
      refine Pl.H.done (by kernel_rfl) (fun A' hA' => ?_)
      rw [Pl.At.ext hA' ((((((((hA.put 38 _).put 41 _).put 37 _).put 39 _).put 42 _).put 40 _).put 43 _).put 44 _)]
      exact hend (fun d => if d = 38 then .pointer (some ⟨p, 6, none⟩) else if d = 41 then x.u.val x.q else if d = 37 then (.slice (some ⟨(w.drew.alloc (.cells #[.int .i64 x.u.at_, x.q.val, .bool x.u.trim, .int .i64 x.u.to] 102)).heap.size, 0, none⟩) 0 0) else if d = 39 then .slice da dl dc else if d = 42 then (.slice (some ⟨w.drew.heap.size, 0, none⟩) 1 1) else if d = 40 then v22 else if d = 43 then vz else if d = 44 then .pointer (some ⟨p, 6, none⟩) else undef) _ _ oz bz
    · refine Pl.HOp.value 2 39 (.slice da dl dc) (w.drew.alloc (.cells #[.int .i64 x.u.at_, x.q.val, .bool x.u.trim, .int .i64 x.u.to] 102)) (by kernel_rfl) (by kernel_rfl) (by kernel_rfl) (Pl.load1 2 35 (.tmp 38) _ (by kernel_rfl) (by decide) (load_ps p 6 da dl dc _ (hd.keep b19).c6)) (hp.keep b19) ?_
      rw [Pl.upd_comm _ 42 39 _ _ (by decide)]
      refine Pl.H.one 0 (by kernel_rfl) ?_
      have b24 : Below w.heap.size w ((w.drew.alloc (.cells #[.int .i64 x.u.at_, x.q.val, .bool x.u.trim, .int .i64 x.u.to] 102)).alloc (.cells #[] 102)) := b19.alloc b19.size _
      have o24 : OwnsP ((w.drew.alloc (.cells #[.int .i64 x.u.at_, x.q.val, .bool x.u.trim, .int .i64 x.u.to] 102)).alloc (.cells #[] 102)) w.heap.size (.slice (some ⟨(w.drew.alloc (.cells #[.int .i64 x.u.at_, x.q.val, .bool x.u.trim, .int .i64 x.u.to] 102)).heap.size, 0, none⟩) 0 0) [] := OwnsP.new' _ _ b19.size
      have e24 := e19.keep (below_alloc (w.drew.alloc (.cells #[.int .i64 x.u.at_, x.q.val, .bool x.u.trim, .int .i64 x.u.to] 102)) (.cells #[] 102)) (Nat.le_refl _)
      refine Pl.HOp.value 0 37 (.slice (some ⟨(w.drew.alloc (.cells #[.int .i64 x.u.at_, x.q.val, .bool x.u.trim, .int .i64 x.u.to] 102)).heap.size, 0, none⟩) 0 0) ((w.drew.alloc (.cells #[.int .i64 x.u.at_, x.q.val, .bool x.u.trim, .int .i64 x.u.to] 102)).alloc (.cells #[] 102)) (by kernel_rfl) (by kernel_rfl) (by kernel_rfl) (Pl.zero 0 35 _ _ (by kernel_rfl) (build_ps0 (w.drew.alloc (.cells #[.int .i64 x.u.at_, x.q.val, .bool x.u.trim, .int .i64 x.u.to] 102)))) (hp.keep b24) ?_
      rw [Pl.upd_comm _ 42 37 _ _ (by decide)]
      rw [Pl.upd_comm _ 39 37 _ _ (by decide)]
      refine Pl.H.one 3 (by kernel_rfl) ?_
      obtain ⟨v25, w25, r25, o25, bb25, _, t25⟩ := run_append_parts ((w.drew.alloc (.cells #[.int .i64 x.u.at_, x.q.val, .bool x.u.trim, .int .i64 x.u.to] 102)).alloc (.cells #[] 102)) 35 w.heap.size (.slice (some ⟨(w.drew.alloc (.cells #[.int .i64 x.u.at_, x.q.val, .bool x.u.trim, .int .i64 x.u.to] 102)).heap.size, 0, none⟩) 0 0) [] o24 da dl dc l (hl.keep b24 (Nat.le_refl _)) hn (by simp; omega) b24.size
      rw [List.nil_append] at o25
      have b25 := b24.trans bb25
      have e25 := e24.stay (t25 _ (by simp <;> omega) (by simp [Value.ownBlock] <;> omega)) (fun i hi => by simp only [List.mem_singleton] at hi; rw [hi]; exact hx.keep b25 (Nat.le_refl _))
      refine Pl.HOp.value 3 40 v25 w25 (by kernel_rfl) (by kernel_rfl) (by kernel_rfl) (Pl.appT 3 35 35 (.tmp 37) (.tmp 39) _ _ (by kernel_rfl) (by kernel_rfl) (by decide) (by decide) r25) (hp.keep b25) ?_
      obtain ⟨vz, wz, rz, oz, bbz, _, _⟩ := run_append_parts w25 35 w.heap.size v25 l o25 _ 1 1 [x] e25 (fun h => by cases h) (by omega) b25.size
      have bz := b25.trans bbz
      refine Pl.H.make 6 43 vz wz (by kernel_rfl) (by kernel_rfl) (by kernel_rfl) (Pl.free 6 (by kernel_rfl)) (Pl.appT 6 35 35 (.tmp 40) (.tmp 42) _ _ (by kernel_rfl) (by kernel_rfl) (by decide) (by decide) rz) (hp.keep bz) ?_
      refine Pl.H.take 7 44 (.pointer (some ⟨p, 6, none⟩)) (by kernel_rfl) (by kernel_rfl) (by kernel_rfl) (Pl.free 7 (by kernel_rfl)) (Pl.field 7 37 (.tmp 2) 2 _ (by kernel_rfl) (by decide) (field_dv2 p)) (hp.keep bz) ?_
      refine Pl.H.store 8 (wz.setCell ⟨p, 6, none⟩ vz) (by kernel_rfl) (by kernel_rfl) (by kernel_rfl) (Pl.free 8 (by kernel_rfl)) (Pl.storeV 8 35 (.tmp 44) (.tmp 43) _ (by kernel_rfl) (by decide) (by decide) (store_psV p 6 vz _ oz.form wz (hd.keep bz).c6 ((hd.keep bz).fz 6))) ((hp.keep bz).off hgp _) ?_
      refine Pl.H.done (by kernel_rfl) (fun A' hA' => ?_)
      rw [Pl.At.ext hA' ((((((((hA.put 38 _).put 41 _).put 37 _).put 39 _).put 42 _).put 40 _).put 43 _).put 44 _)]
      exact hend (fun d => if d = 38 then .pointer (some ⟨p, 6, none⟩) else if d = 41 then x.u.val x.q else if d = 37 then (.slice (some ⟨(w.drew.alloc (.cells #[.int .i64 x.u.at_, x.q.val, .bool x.u.trim, .int .i64 x.u.to] 102)).heap.size, 0, none⟩) 0 0) else if d = 39 then .slice da dl dc else if d = 42 then (.slice (some ⟨w.drew.heap.size, 0, none⟩) 1 1) else if d = 40 then v25 else if d = 43 then vz else if d = 44 then .pointer (some ⟨p, 6, none⟩) else undef) _ _ oz bz

end Go.Proofs.YtcaaiihjolnkgaaGreat

namespace Go.Proofs.YtcaaiihjolnkgaaGreat
open Go.RowKit
set_option maxRecDepth 100000
variable {K : Home}

/-- A disk behind a part. -/
def Dk.turn (d : Dk) (u : Pt) : Dk :=
  if 0 ≤ u.at_ then ⟨d.pg.take (128 * u.at_.toNat) ++ u.b ++ d.pg.drop (128 * u.at_.toNat + 128), d.base, d.st⟩
  else if u.trim = true then ⟨d.pg, u.to, d.st.drop (u.to - d.base).toNat⟩
  else ⟨d.pg, d.base, d.st ++ u.b⟩

/-- The part may be done to the disk, and both are of the size that laws ask for. -/
structure Fits (d : Dk) (u : Pt) : Prop where
  pg : d.pg.length ≤ 100000
  st : d.st.length ≤ 100000
  b : u.b.length ≤ 1000
  sec : 0 ≤ u.at_ → 128 * u.at_.toNat + 128 ≤ d.pg.length
  cut : u.at_ < 0 → u.trim = true → d.base ≤ u.to ∧ (u.to - d.base).toNat ≤ d.st.length
  to : (Lit.int .i64 u.to).wf = true

theorem turn_any (d : Dk) (p s : Sl) (u : Pt) (q : Sl) (w : World) (h : DkIn K w d p s) (hu : BsS K w q u.b) (hf : Fits d u) :
    Calls Tryz.prog 69 #[d.val p s, u.val q] w fun e w' => Below w.heap.size w w' ∧ ∃ p' s', e = .returned ((d.turn u).val p' s') ∧ DkIn K w' (d.turn u) p' s' := by
  have l1 := h.pg.len
  have l2 := h.st.len
  have l3 := hu.len
  have f1 := hf.pg
  have f2 := hf.st
  have f3 := hf.b
  by_cases h0 : 0 ≤ u.at_
  · have e : d.turn u = ⟨d.pg.take (128 * u.at_.toNat) ++ u.b ++ d.pg.drop (128 * u.at_.toNat + 128), d.base, d.st⟩ := by unfold Dk.turn; rw [if_pos h0]
    have f4 := hf.sec h0
    rw [e]
    exact turn_sector d p s u q u.at_.toNat w h hu (by omega) (by omega) (by omega) (by omega)
  · cases ht : u.trim
    · have e : d.turn u = ⟨d.pg, d.base, d.st ++ u.b⟩ := by unfold Dk.turn; rw [if_neg h0, if_neg (by rw [ht]; decide)]
      rw [e]
      exact turn_append d p s u q w h hu (by omega) ht (by omega)
    · have e : d.turn u = ⟨d.pg, u.to, d.st.drop (u.to - d.base).toNat⟩ := by unfold Dk.turn; rw [if_neg h0, if_pos ht]
      obtain ⟨g1, g2⟩ := hf.cut (by omega) ht
      rw [e]
      exact turn_trim d p s u q (u.to - d.base).toNat w h (by omega) ht (by omega) (by omega) hf.to

/-- A device: what is kept, what is seen, what was done, is the power gone, what is armed. -/
structure Dv where
  kept : Dk
  now : Dk
  done : List PtS
  gone : Bool
  armed : Int
/-- Where its slices lead. -/
structure DvL where
  kp : Sl
  ks : Sl
  np : Sl
  ns : Sl
  ds : Sl
def Dv.val (d : Dv) (L : DvL) : Value := .agg #[L.kp.val, .int .i64 d.kept.base, L.ks.val, L.np.val, .int .i64 d.now.base, L.ns.val, L.ds.val, .bool d.gone, .int .i64 d.armed]
structure DvIn (K : Home) (w : World) (d : Dv) (L : DvL) : Prop where
  kept : DkIn K w d.kept L.kp L.ks
  now : DkIn K w d.now L.np L.ns
  done : Ps K w L.ds.a L.ds.len d.done
  nil : L.ds.a = none → L.ds.cap = 0
  le : L.ds.len ≤ L.ds.cap
theorem DvIn.keep {w w' : World} {B : Nat} {d : Dv} {L : DvL} (h : DvIn K w d L) (hb : Below B w w') (hB : w.heap.size ≤ B) : DvIn K w' d L := ⟨h.kept.keep hb hB, h.now.keep hb hB, h.done.keep hb hB, h.nil, h.le⟩

/-- A device behind a part that is done. -/
def Dv.act (d : Dv) (u : Pt) (q : Sl) : Dv :=
  let now := d.now.turn u
  if d.gone = true then ⟨d.kept, now, d.done, true, d.armed⟩
  else
    let cut := decide (0 ≤ d.armed ∧ d.armed < (u.size : Int))
    let n : Int := if cut = true then d.armed else (u.size : Int)
    let f := u.first n
    ⟨d.kept, now, if f.2 = true then d.done ++ [⟨f.1, q⟩] else d.done, cut, if 0 ≤ d.armed then d.armed - n else d.armed⟩

end Go.Proofs.YtcaaiihjolnkgaaGreat

namespace Go.Proofs.YtcaaiihjolnkgaaGreat
open Go.RowKit
set_option maxRecDepth 100000
variable {K : Home}

/-- A device laid over a device. -/
def setDv (w : World) (p : Nat) (k0 : Value) (k1 : Int) (k2 : Value) (n0 : Value) (n1 : Int) (n2 : Value) (d : Value) (g : Bool) (a : Int) : World := (((((((((w.setCell ⟨p, 0, none⟩ (k0)).setCell ⟨p, 1, none⟩ (.int .i64 k1)).setCell ⟨p, 2, none⟩ (k2)).setCell ⟨p, 3, none⟩ (n0)).setCell ⟨p, 4, none⟩ (.int .i64 n1)).setCell ⟨p, 5, none⟩ (n2)).setCell ⟨p, 6, none⟩ (d)).setCell ⟨p, 7, none⟩ (.bool g)).setCell ⟨p, 8, none⟩ (.int .i64 a))
theorem setDv_size (w : World) (p : Nat) (k0 : Value) (k1 : Int) (k2 : Value) (n0 : Value) (n1 : Int) (n2 : Value) (d : Value) (g : Bool) (a : Int) : (setDv w p k0 k1 k2 n0 n1 n2 d g a).heap.size = w.heap.size := by simp only [setDv, setCell_size]
theorem setDv_blk {w : World} {p : Nat} {k0' k2' n0' n2' d' : Value} {k1' n1' a' : Int} {g' : Bool} (h : DvBlk w p k0' k1' k2' n0' n1' n2' d' g' a') (k0 : Value) (k1 : Int) (k2 : Value) (n0 : Value) (n1 : Int) (n2 : Value) (d : Value) (g : Bool) (a : Int) : DvBlk (setDv w p k0 k1 k2 n0 n1 n2 d g a) p k0 k1 k2 n0 n1 n2 d g a := by
  have h1 := heap_setCell_same w p 0 _ 37 (k0) h
  have h2 := heap_setCell_same _ p 1 _ 37 (.int .i64 k1) h1
  have h3 := heap_setCell_same _ p 2 _ 37 (k2) h2
  have h4 := heap_setCell_same _ p 3 _ 37 (n0) h3
  have h5 := heap_setCell_same _ p 4 _ 37 (.int .i64 n1) h4
  have h6 := heap_setCell_same _ p 5 _ 37 (n2) h5
  have h7 := heap_setCell_same _ p 6 _ 37 (d) h6
  have h8 := heap_setCell_same _ p 7 _ 37 (.bool g) h7
  have h9 := heap_setCell_same _ p 8 _ 37 (.int .i64 a) h8
  unfold DvBlk setDv
  rw [h9]
  simp
theorem setDv_below {B p : Nat} {w0 w : World} (hb : Below B w0 w) (hg : B ≤ p) (k0 : Value) (k1 : Int) (k2 : Value) (n0 : Value) (n1 : Int) (n2 : Value) (d : Value) (g : Bool) (a : Int) : Below B w0 (setDv w p k0 k1 k2 n0 n1 n2 d g a) :=
  (((((((((hb.setCell (p := ⟨p, 0, none⟩) hg _).setCell (p := ⟨p, 1, none⟩) hg _).setCell (p := ⟨p, 2, none⟩) hg _).setCell (p := ⟨p, 3, none⟩) hg _).setCell (p := ⟨p, 4, none⟩) hg _).setCell (p := ⟨p, 5, none⟩) hg _).setCell (p := ⟨p, 6, none⟩) hg _).setCell (p := ⟨p, 7, none⟩) hg _).setCell (p := ⟨p, 8, none⟩) hg _)
theorem setDv_other (w : World) (p : Nat) (k0 : Value) (k1 : Int) (k2 : Value) (n0 : Value) (n1 : Int) (n2 : Value) (d : Value) (g : Bool) (a : Int) (k : Nat) (hk : k ≠ p) : (setDv w p k0 k1 k2 n0 n1 n2 d g a).heap[k]? = w.heap[k]? := by
  unfold setDv
  rw [Below.heap_setCell _ ⟨p, 8, none⟩ _ k hk, Below.heap_setCell _ ⟨p, 7, none⟩ _ k hk, Below.heap_setCell _ ⟨p, 6, none⟩ _ k hk, Below.heap_setCell _ ⟨p, 5, none⟩ _ k hk, Below.heap_setCell _ ⟨p, 4, none⟩ _ k hk, Below.heap_setCell _ ⟨p, 3, none⟩ _ k hk, Below.heap_setCell _ ⟨p, 2, none⟩ _ k hk, Below.heap_setCell _ ⟨p, 1, none⟩ _ k hk, Below.heap_setCell _ ⟨p, 0, none⟩ _ k hk]

/-- What is seen is laid anew. -/
def setNow (w : World) (p : Nat) (n0 : Value) (n1 : Int) (n2 : Value) : World := (((w.setCell ⟨p, 3, none⟩ (n0)).setCell ⟨p, 4, none⟩ (.int .i64 n1)).setCell ⟨p, 5, none⟩ (n2))
theorem setNow_size (w : World) (p : Nat) (n0 : Value) (n1 : Int) (n2 : Value) : (setNow w p n0 n1 n2).heap.size = w.heap.size := by simp only [setNow, setCell_size]
theorem setNow_blk {w : World} {p : Nat} {k0' k2' n0' n2' d' : Value} {k1' n1' a' : Int} {g' : Bool} (h : DvBlk w p k0' k1' k2' n0' n1' n2' d' g' a') (n0 : Value) (n1 : Int) (n2 : Value) : DvBlk (setNow w p n0 n1 n2) p k0' k1' k2' n0 n1 n2 d' g' a' := by
  have h1 := heap_setCell_same w p 3 _ 37 (n0) h
  have h2 := heap_setCell_same _ p 4 _ 37 (.int .i64 n1) h1
  have h3 := heap_setCell_same _ p 5 _ 37 (n2) h2
  unfold DvBlk setNow
  rw [h3]
  simp
theorem setNow_below {B p : Nat} {w0 w : World} (hb : Below B w0 w) (hg : B ≤ p) (n0 : Value) (n1 : Int) (n2 : Value) : Below B w0 (setNow w p n0 n1 n2) :=
  (((hb.setCell (p := ⟨p, 3, none⟩) hg _).setCell (p := ⟨p, 4, none⟩) hg _).setCell (p := ⟨p, 5, none⟩) hg _)
theorem setNow_other (w : World) (p : Nat) (n0 : Value) (n1 : Int) (n2 : Value) (k : Nat) (hk : k ≠ p) : (setNow w p n0 n1 n2).heap[k]? = w.heap[k]? := by
  unfold setNow
  rw [Below.heap_setCell _ ⟨p, 5, none⟩ _ k hk, Below.heap_setCell _ ⟨p, 4, none⟩ _ k hk, Below.heap_setCell _ ⟨p, 3, none⟩ _ k hk]
theorem DvBlk.other {w w' : World} {p : Nat} {k0' k2' n0' n2' d' : Value} {k1' n1' a' : Int} {g' : Bool} (h : DvBlk w p k0' k1' k2' n0' n1' n2' d' g' a') (hk : w'.heap[p]? = w.heap[p]?) : DvBlk w' p k0' k1' k2' n0' n1' n2' d' g' a' := hk.trans h
theorem PtBlk.other {w w' : World} {p : Nat} {a o : Int} {x : Value} {t : Bool} (h : PtBlk w p a x t o) (hk : w'.heap[p]? = w.heap[p]?) : PtBlk w' p a x t o := hk.trans h

theorem dv_results {fn : Func} {x : Nat} (hr : fn.results = #[.cell x 37]) {W : World} {p : Nat} {d : Dv} {L : DvL} (h : DvBlk W p L.kp.val d.kept.base L.ks.val L.np.val d.now.base L.ns.val L.ds.val d.gone d.armed) (tmps : Array Value) (ht : tmps.getD x undef = .pointer (some ⟨p, 0, none⟩)) : (results fn tmps).run Tryz.prog W = .ok (d.val L) W := by
  have c0 := h.c0
  have c1 := h.c1
  have c2 := h.c2
  have c3 := h.c3
  have c4 := h.c4
  have c5 := h.c5
  have c6 := h.c6
  have c7 := h.c7
  have c8 := h.c8
  unfold Sl.val at c0 c2 c3 c5 c6
  have ht2 : tmps[x]?.getD undef = .pointer (some ⟨p, 0, none⟩) := by simpa using ht
  simp [results, hr, ht2, go_sem, c0, c1, c2, c3, c4, c5, c6, c7, c8, Dv.val, Sl.val]
theorem dv_end {fn : Func} {x : Nat} (hres : fn.results = #[.cell x 37]) {W : World} {p : Nat} {k0' k2' n0' n2' d' : Value} {k1' n1' a' : Int} {g' : Bool} (h : DvBlk W p k0' k1' k2' n0' n1' n2' d' g' a') (d : Dv) (L : DvL) {A : Act} {R : Ending → World → Prop} (t2 : A.tmps.getD x undef = .pointer (some ⟨p, 0, none⟩)) (hd : A.defers = [])
    (hR : R (.returned (d.val L)) (setDv W p L.kp.val d.kept.base L.ks.val L.np.val d.now.base L.ns.val L.ds.val d.gone d.armed)) : bodyPost Tryz.prog fn R Exit.ret A (setDv W p L.kp.val d.kept.base L.ks.val L.np.val d.now.base L.ns.val L.ds.val d.gone d.armed) := by
  have hr := setDv_blk h L.kp.val d.kept.base L.ks.val L.np.val d.now.base L.ns.val L.ds.val d.gone d.armed
  generalize setDv W p L.kp.val d.kept.base L.ks.val L.np.val d.now.base L.ns.val L.ds.val d.gone d.armed = W' at *
  exact bodyPost_ret (dv_results hres hr _ t2) hd hR

/-- Bytes in blocks that a store leaves alone. -/
theorem BsS.off {w w' : World} {p : Nat} {s : Sl} {xs : List Nat} (h : BsS K w s xs) (hp : ∀ o i, w.cell? ⟨p, o, none⟩ ≠ some (.int .u8 i)) (ho : ∀ k, k ≠ p → w'.heap[k]? = w.heap[k]?) (hs : w.heap.size ≤ w'.heap.size := by first | (simp only [setCell_size, Nat.le_refl]; done) | (simp only [setDk_size, setCell_size, Nat.le_refl]; done) | (simp only [setPt_size, setDk_size, setCell_size, Nat.le_refl]; done) | (simp only [setNow_size, setDv_size, setPt_size, setDk_size, setCell_size, Nat.le_refl]; done)) : BsS K w' s xs := h.other hp ho hs
theorem DvBlk.no8 {w : World} {p : Nat} {s0 s2 s3 s5 s6 : Sl} {k1' n1' a' : Int} {g' : Bool} (h : DvBlk w p s0.val k1' s2.val s3.val n1' s5.val s6.val g' a') : ∀ o i, w.cell? ⟨p, o, none⟩ ≠ some (.int .u8 i) := by
  intro o i
  unfold DvBlk Sl.val at h
  rcases o with _ | _ | _ | _ | _ | _ | _ | _ | _ | o <;> simp [World.cell?, h]

end Go.Proofs.YtcaaiihjolnkgaaGreat
