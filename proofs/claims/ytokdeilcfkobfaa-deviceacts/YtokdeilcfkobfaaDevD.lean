/-
  The document's device: a disk behind bytes that are appended to its stream.
-/
import Derived.Test.YtokdeilcfkobfaaDevC
import Derived.Test.YtokdeilcfkobfaaPlanE
namespace Go.Proofs.Ytokdeilcfkobfaa
open Go.RowKit
variable {K : Home}

theorem field_dk (p k : Nat) (hk : k < 3) (w : World) : (Instr.fieldAt 32 (.pointer (some ⟨p, 0, none⟩)) k).run Try.prog w = .ok (.pointer (some ⟨p, k, none⟩)) w := by
  rcases k with _ | _ | _ | k
  · simp [go_sem, Instr.fieldAt]
  · simp [go_sem, Instr.fieldAt]
  · simp [go_sem, Instr.fieldAt]
  · omega
theorem field_dk2 (p : Nat) (w : World) : (Instr.fieldAt 32 (.pointer (some ⟨p, 0, none⟩)) 2).run Try.prog w = .ok (.pointer (some ⟨p, 2, none⟩)) w := field_dk p 2 (by omega) w
theorem field_pt1 (p : Nat) (w : World) : (Instr.fieldAt 81 (.pointer (some ⟨p, 0, none⟩)) 1).run Try.prog w = .ok (.pointer (some ⟨p, 1, none⟩)) w := by simp [go_sem, Instr.fieldAt]
theorem load_bs (b o : Nat) (a : Option Addr) (len cap : Nat) (w : World) (h : w.cell? ⟨b, o, none⟩ = some (.slice a len cap)) : (Instr.loadAt 30 (.pointer (some ⟨b, o, none⟩))).run Try.prog w = .ok (.slice a len cap) w := by
  simp [go_sem, h]
theorem store_bsV (b o : Nat) (v u : Value) (hv : ∃ a len cap, v = .slice a len cap) (w : World) (h : w.cell? ⟨b, o, none⟩ = some u) (hf : w.frozen? ⟨b, o, none⟩ = false) : (Instr.storeAt 30 (.pointer (some ⟨b, o, none⟩)) v).run Try.prog w = .ok () (w.setCell ⟨b, o, none⟩ v) := by
  obtain ⟨a, len, cap, rfl⟩ := hv
  simp [go_sem, Instr.storeAt, h, hf]
theorem build_bs0 (w : World) : (Instr.buildSlice 30 0 #[]).run Try.prog w = .ok (.slice (some ⟨w.heap.size, 0, none⟩) 0 0) (w.alloc (.cells #[] 5)) := by
  simp [go_sem, Instr.buildSlice]
theorem PtBlk.stay {w w' : World} {p : Nat} {a o : Int} {x : Value} {t : Bool} (h : PtBlk w p a x t o) (hs : Stay w w') : PtBlk w' p a x t o := (hs p _ _ _ h (by decide)).trans h
theorem DkBlk.stay {w w' : World} {p : Nat} {b : Int} {x y : Value} (h : DkBlk w p x b y) (hs : Stay w w') : DkBlk w' p x b y := (hs p _ _ _ h (by decide)).trans h
theorem Owns.form {w : World} {base : Nat} {v : Value} {xs : List Nat} (h : Owns w base v xs) : ∃ a len cap, v = .slice a len cap := by
  rcases h.2 with ⟨hv, _⟩ | ⟨g, cp, cur, hv, _⟩
  · exact ⟨_, _, _, hv⟩
  · exact ⟨_, _, _, hv⟩

set_option maxHeartbeats 4000000 in
set_option maxRecDepth 100000 in
theorem turn10 (w : World) (p q : Nat) (hpq : p ≠ q) (x : Value) (b at_ to : Int) (tr : Bool) (sa qa : Option Addr) (sl sc ql qc : Nat) (xs ys : List Nat) (hd : DkBlk w p x b (.slice sa sl sc)) (hp : PtBlk w q at_ (.slice qa ql qc) tr to) (hx : Came w sa sl sc xs) (hy : Came w qa ql qc ys) (hlen : sl + ql ≤ 1000000)
    {Q : Exit → Act → World → Prop} {A : Act} (hsz : A.tmps.size = 56) (hdf : A.defers = []) (s2 : A.tmps.getD 2 undef = .pointer (some ⟨p, 0, none⟩)) (s3 : A.tmps.getD 3 undef = .pointer (some ⟨q, 0, none⟩))
    (hend : ∀ (u : Nat → Value) w2 v2, Owns w2 w.heap.size v2 (xs ++ ys) → Below w.heap.size w w2 → DkBlk w2 p x b (.slice sa sl sc) → PtBlk w2 q at_ (.slice qa ql qc) tr to → Q .normal (((((((((A).put (some 48) (u 48)).put (some 51) (u 51)).put (some 52) (u 52)).put (some 47) (u 47)).put (some 49) (u 49)).put (some 50) (u 50)).put (some 53) (u 53)).put (some 54) (u 54)) (w2.setCell ⟨p, 2, none⟩ v2)) :
    (Code.region 10 (Pl.find 10 ((Try.f41.body).getD .skip)) true).wp Try.prog Q A w := by
  have hW0 : Below w.heap.size w w.drew := (Below.refl _ _).drew
  have hd0 : DkBlk w.drew p x b (.slice sa sl sc) := hd
  have hp0 : PtBlk w.drew q at_ (.slice qa ql qc) tr to := hp
  have hal := below_alloc w.drew (.cells #[] 5)
  have hWa : Below w.heap.size w (w.drew.alloc (.cells #[] 5)) := hW0.trans hal
  have hda := hd0.keep hal
  have hpa := hp0.keep hal
  have hoa : Owns (w.drew.alloc (.cells #[] 5)) w.heap.size (.slice (some ⟨w.drew.heap.size, 0, none⟩) 0 0) [] := own_new w.drew
  obtain ⟨v1, w1, hrun1, ho1, hb1, hst1⟩ := run_append_bytes' (w.drew.alloc (.cells #[] 5)) 30 w.heap.size _ [] hoa sa sl sc xs (hx.bs.keep hWa (Nat.le_refl _)) hx.nil (by simp; omega) hWa.size
  rw [List.nil_append] at ho1
  have hW1 := hWa.trans hb1
  have hd1 := hda.stay hst1
  have hp1 := hpa.stay hst1
  have hxl := hx.bs.1
  obtain ⟨v2, w2, hrun2, ho2, hb2, hst2⟩ := run_append_bytes' w1 30 w.heap.size v1 xs ho1 qa ql qc ys (hy.bs.keep hW1 (Nat.le_refl _)) hy.nil (by omega) hW1.size
  have hbb := hW1.trans hb2
  have hd2 := hd1.stay hst2
  have hp2 := hp1.stay hst2
  have hform2 := ho2.form
  have hS0 : (fun w' => PtBlk w' q at_ (.slice qa ql qc) tr to) w.drew := hp0
  have hSa : (fun w' => PtBlk w' q at_ (.slice qa ql qc) tr to) (w.drew.alloc (.cells #[] 5)) := hpa
  have hS1 : (fun w' => PtBlk w' q at_ (.slice qa ql qc) tr to) w1 := hp1
  have hS2 : (fun w' => PtBlk w' q at_ (.slice qa ql qc) tr to) w2 := hp2
  have hS3 : (fun w' => PtBlk w' q at_ (.slice qa ql qc) tr to) (w2.setCell ⟨p, 2, none⟩ v2) := by
    show PtBlk _ _ _ _ _ _
    unfold PtBlk
    rw [Below.heap_setCell _ ⟨p, 2, none⟩ _ q (fun e => hpq e.symm)]
    exact hp2
  have hA := Pl.At.same (v := .pointer (some ⟨q, 0, none⟩)) (d := 3) (Pl.At.same (v := .pointer (some ⟨p, 0, none⟩)) (d := 2) (Pl.At.here hsz hdf) s2) s3
  refine Pl.H.start (S := fun w' => PtBlk w' q at_ (.slice qa ql qc) tr to) (by kernel_rfl) hA hS0 ?_
  rw [show (Pl.find 10 ((Try.f41.body).getD .skip)).size = 9 by kernel_rfl]
  refine Pl.H.take 1 48 (.pointer (some ⟨p, 2, none⟩)) (by kernel_rfl) (by kernel_rfl) (by kernel_rfl) (Pl.free 1 (by kernel_rfl)) (Pl.field 1 32 (.tmp 2) 2 _ (by kernel_rfl) (by decide) (field_dk2 p)) hS0 ?_
  refine Pl.H.take 4 51 (.pointer (some ⟨q, 1, none⟩)) (by kernel_rfl) (by kernel_rfl) (by kernel_rfl) (Pl.free 4 (by kernel_rfl)) (Pl.field 4 81 (.tmp 3) 1 _ (by kernel_rfl) (by decide) (field_pt1 q)) hS0 ?_
  refine Pl.H.take 5 52 (.slice qa ql qc) (by kernel_rfl) (by kernel_rfl) (by kernel_rfl) (Pl.free 5 (by kernel_rfl)) (Pl.load 5 30 (.tmp 51) _ (by kernel_rfl) (by decide) (fun w' hS => load_bs q 1 qa ql qc w' hS.c1)) hS0 ?_
  refine Pl.H.two 0 2 (by kernel_rfl) ?_ ?_
  · refine Pl.HOp.value 0 47 (.slice (some ⟨w.drew.heap.size, 0, none⟩) 0 0) (w.drew.alloc (.cells #[] 5)) (by kernel_rfl) (by kernel_rfl) (by kernel_rfl) (Pl.zero 0 30 _ _ (by kernel_rfl) (build_bs0 w.drew)) hSa ?_
    refine Pl.H.one 2 (by kernel_rfl) ?_
    refine Pl.HOp.value 2 49 (.slice sa sl sc) (w.drew.alloc (.cells #[] 5)) (by kernel_rfl) (by kernel_rfl) (by kernel_rfl) (Pl.load1 2 30 (.tmp 48) _ (by kernel_rfl) (by decide) (load_bs p 2 sa sl sc _ hda.c2)) hSa ?_
    refine Pl.H.make 3 50 v1 w1 (by kernel_rfl) (by kernel_rfl) (by kernel_rfl) (Pl.free 3 (by kernel_rfl)) (Pl.appT 3 30 30 (.tmp 47) (.tmp 49) _ _ (by kernel_rfl) (by kernel_rfl) (by decide) (by decide) hrun1) hS1 ?_
    refine Pl.H.make 6 53 v2 w2 (by kernel_rfl) (by kernel_rfl) (by kernel_rfl) (Pl.free 6 (by kernel_rfl)) (Pl.appT 6 30 30 (.tmp 50) (.tmp 52) _ _ (by kernel_rfl) (by kernel_rfl) (by decide) (by decide) hrun2) hS2 ?_
    refine Pl.H.take 7 54 (.pointer (some ⟨p, 2, none⟩)) (by kernel_rfl) (by kernel_rfl) (by kernel_rfl) (Pl.free 7 (by kernel_rfl)) (Pl.field 7 32 (.tmp 2) 2 _ (by kernel_rfl) (by decide) (field_dk2 p)) hS2 ?_
    refine Pl.H.store 8 (w2.setCell ⟨p, 2, none⟩ v2) (by kernel_rfl) (by kernel_rfl) (by kernel_rfl) (Pl.free 8 (by kernel_rfl)) (Pl.storeV 8 30 (.tmp 54) (.tmp 53) _ (by kernel_rfl) (by decide) (by decide) (store_bsV p 2 v2 _ hform2 w2 hd2.c2 (hd2.fz 2))) hS3 ?_
    refine Pl.H.done (by kernel_rfl) (fun A' hA' => ?_)
    rw [Pl.At.ext hA' ((((((((hA.put 48 _).put 51 _).put 52 _).put 47 _).put 49 _).put 50 _).put 53 _).put 54 _)]
    exact hend (fun d => if d = 48 then .pointer (some ⟨p, 2, none⟩) else if d = 51 then .pointer (some ⟨q, 1, none⟩) else if d = 52 then .slice qa ql qc else if d = 47 then .slice (some ⟨w.drew.heap.size, 0, none⟩) 0 0 else if d = 49 then .slice sa sl sc else if d = 50 then v1 else if d = 53 then v2 else if d = 54 then .pointer (some ⟨p, 2, none⟩) else undef) _ _ ho2 hbb hd2 hp2
  · refine Pl.HOp.value 2 49 (.slice sa sl sc) w.drew (by kernel_rfl) (by kernel_rfl) (by kernel_rfl) (Pl.load1 2 30 (.tmp 48) _ (by kernel_rfl) (by decide) (load_bs p 2 sa sl sc _ hd0.c2)) hS0 ?_
    refine Pl.H.one 0 (by kernel_rfl) ?_
    refine Pl.HOp.value 0 47 (.slice (some ⟨w.drew.heap.size, 0, none⟩) 0 0) (w.drew.alloc (.cells #[] 5)) (by kernel_rfl) (by kernel_rfl) (by kernel_rfl) (Pl.zero 0 30 _ _ (by kernel_rfl) (build_bs0 w.drew)) hSa ?_
    rw [Pl.upd_comm _ 49 47 _ _ (by decide)]
    refine Pl.H.make 3 50 v1 w1 (by kernel_rfl) (by kernel_rfl) (by kernel_rfl) (Pl.free 3 (by kernel_rfl)) (Pl.appT 3 30 30 (.tmp 47) (.tmp 49) _ _ (by kernel_rfl) (by kernel_rfl) (by decide) (by decide) hrun1) hS1 ?_
    refine Pl.H.make 6 53 v2 w2 (by kernel_rfl) (by kernel_rfl) (by kernel_rfl) (Pl.free 6 (by kernel_rfl)) (Pl.appT 6 30 30 (.tmp 50) (.tmp 52) _ _ (by kernel_rfl) (by kernel_rfl) (by decide) (by decide) hrun2) hS2 ?_
    refine Pl.H.take 7 54 (.pointer (some ⟨p, 2, none⟩)) (by kernel_rfl) (by kernel_rfl) (by kernel_rfl) (Pl.free 7 (by kernel_rfl)) (Pl.field 7 32 (.tmp 2) 2 _ (by kernel_rfl) (by decide) (field_dk2 p)) hS2 ?_
    refine Pl.H.store 8 (w2.setCell ⟨p, 2, none⟩ v2) (by kernel_rfl) (by kernel_rfl) (by kernel_rfl) (Pl.free 8 (by kernel_rfl)) (Pl.storeV 8 30 (.tmp 54) (.tmp 53) _ (by kernel_rfl) (by decide) (by decide) (store_bsV p 2 v2 _ hform2 w2 hd2.c2 (hd2.fz 2))) hS3 ?_
    refine Pl.H.done (by kernel_rfl) (fun A' hA' => ?_)
    rw [Pl.At.ext hA' ((((((((hA.put 48 _).put 51 _).put 52 _).put 47 _).put 49 _).put 50 _).put 53 _).put 54 _)]
    exact hend (fun d => if d = 48 then .pointer (some ⟨p, 2, none⟩) else if d = 51 then .pointer (some ⟨q, 1, none⟩) else if d = 52 then .slice qa ql qc else if d = 47 then .slice (some ⟨w.drew.heap.size, 0, none⟩) 0 0 else if d = 49 then .slice sa sl sc else if d = 50 then v1 else if d = 53 then v2 else if d = 54 then .pointer (some ⟨p, 2, none⟩) else undef) _ _ ho2 hbb hd2 hp2

theorem DkBlk.no8a {w : World} {g : Nat} {x y : Value} {b : Int} (h : DkBlk w g x b y) (hx : ∃ a l c, x = .slice a l c) (hy : ∃ a l c, y = .slice a l c) : ∀ o i, w.cell? ⟨g, o, none⟩ ≠ some (.int .u8 i) := by
  obtain ⟨a, l, c, rfl⟩ := hx
  obtain ⟨a', l', c', rfl⟩ := hy
  exact DkBlk.no8 (s1 := ⟨a, l, c⟩) (s2 := ⟨a', l', c'⟩) h

set_option maxHeartbeats 4000000 in
set_option maxRecDepth 100000 in
theorem turn_append (d : Dk) (p s : Sl) (u : Pt) (q : Sl) (w : World) (h : DkIn K w d p s) (hu : BsS K w q u.b) (ha : u.at_ < 0) (ht : u.trim = false) (hl : s.len + q.len ≤ 1000000) :
    Calls Try.prog 41 #[d.val p s, u.val q] w fun e w' => Below w.heap.size w w' ∧ ∃ p' s', e = .returned (Dk.val ⟨d.pg, d.base, d.st ++ u.b⟩ p' s') ∧ DkIn K w' ⟨d.pg, d.base, d.st ++ u.b⟩ p' s' := by
  obtain ⟨pg, base, st⟩ := d
  obtain ⟨at_, b, trim, to⟩ := u
  obtain ⟨pa, pl, pc⟩ := p
  obtain ⟨sa, sl, sc⟩ := s
  obtain ⟨qa, ql, qc⟩ := q
  simp only at h hu ha ht hl ⊢
  subst ht
  have H := hide h
  have HU := hide hu
  have HLL := hide hl
  have ha' : ¬ (0 : Int) ≤ at_ := by omega
  obtain ⟨W, hW⟩ : ∃ W, W = ((w.alloc (.cells #[.slice pa pl pc, .int .i64 base, .slice sa sl sc] 32)).alloc (.cells #[.int .i64 at_, .slice qa ql qc, .bool false, .int .i64 to] 81)).alloc (.cells #[.slice none 0 0, .int .i64 0, .slice none 0 0] 32) := ⟨_, rfl⟩
  have hWs : W.heap.size = w.heap.size + 1 + 1 + 1 := by rw [hW]; simp
  have hWb : Below w.heap.size w W := by rw [hW]; exact rBelow (below_two w _ _) (below_alloc _ _)
  have hB2 : DkBlk W w.heap.size (.slice pa pl pc) base (.slice sa sl sc) := by
    rw [hW]
    exact ((dkBlk_new w (.slice pa pl pc) base (.slice sa sl sc)).keep (below_alloc _ _)).keep (below_alloc _ _)
  have hB4 : DkBlk W (w.heap.size + 1 + 1) (.slice none 0 0) 0 (.slice none 0 0) := by
    rw [hW]
    have := dkBlk_new ((w.alloc (.cells #[.slice pa pl pc, .int .i64 base, .slice sa sl sc] 32)).alloc (.cells #[.int .i64 at_, .slice qa ql qc, .bool false, .int .i64 to] 81)) (.slice none 0 0) 0 (.slice none 0 0)
    simpa using this
  have hB3 : PtBlk W (w.heap.size + 1) at_ (.slice qa ql qc) false to := by
    rw [hW]
    have := (ptBlk_new (w.alloc (.cells #[.slice pa pl pc, .int .i64 base, .slice sa sl sc] 32)) at_ (.slice qa ql qc) false to).keep (below_alloc _ (.cells #[.slice none 0 0, .int .i64 0, .slice none 0 0] 32))
    simpa using this
  have HWB := hide hWb
  have HB2 := hide hB2
  have HB3 := hide hB3
  have HB4 := hide hB4
  have HWE := hide hW
  have HWS := hide hWs
  have HX : Hid (Came W sa sl sc st) := (h.st.keep hWb (Nat.le_refl _)).came
  have HY : Hid (Came W qa ql qc b) := (hu.keep hWb (Nat.le_refl _)).came
  clear h hu hW hWs hWb hB2 hB3 hB4 hl
  unfold Dk.val Pt.val Sl.val
  simp only
  go_enter Try.func41, Try.ntmps41
  go_wp2_with fail
  rw [← HWE.out]
  refine Pl.region_is (ops := Pl.find 10 ((Try.f41.body).getD .skip)) (by kernel_rfl) ?_
  refine turn10 W w.heap.size (w.heap.size + 1) (by omega) (.slice pa pl pc) base at_ to false sa qa sl sc ql qc st b HB2.out HB3.out HX.out HY.out HLL.out (by rfl) (by rfl) (by rfl) (by rfl) ?_
  intro u w2 v2 ho2 hb2 hd2 hp2
  simp only [Act.put, List.setIfInBounds_toArray, List.set_cons_zero, List.set_cons_succ]
  have hxs : Bytes (st ++ b) := by
    intro x hx
    rcases List.mem_append.1 hx with h1 | h1
    · exact H.out.st.bs.2.1 x h1
    · exact HU.out.bs.2.1 x h1
  obtain ⟨s3, rfl, hs3⟩ := ho2.sl (K := K) hxs (by
    have e1 := HX.out.bs.1
    have e2 := HY.out.bs.1
    have e3 := HLL.out
    rw [List.length_append, e1, e2]; exact e3) (Nat.le_trans H.out.st.low HWB.out.size) (Nat.le_trans (Nat.le_trans H.out.st.low HWB.out.size) hb2.size)
  obtain ⟨a3, l3, k3⟩ := s3
  have hG4 := HB4.out.keep hb2
  have hG2' := hd2.set2 (Sl.val ⟨a3, l3, k3⟩)
  have hG4' := hG4.off (q := w.heap.size) (o := 2) (by omega) (Sl.val ⟨a3, l3, k3⟩)
  have HS3 := hide hs3
  have HW3 := hide hb2
  have HG2 := hide hd2
  have HG4' := hide hG4'
  unfold Sl.val at hG2' hG4'
  simp only at hG2' hG4'
  have d0 := hG2'.c0
  have d1 := hG2'.c1
  have d2 := hG2'.c2
  have z0 := hG4'.c0
  have z1 := hG4'.c1
  have z2 := hG4'.c2
  have fz := hG4'.fz
  unfold Sl.val
  simp only
  clear ho2 hb2 hd2 hp2 hs3 hG2' hG4 hG4' hxs
  go_wp2_with fail
  show bodyPost Try.prog Try.f41 _ Exit.ret _ (setDk (w2.setCell ⟨w.heap.size, 2, none⟩ (Sl.val ⟨a3, l3, k3⟩)) (w.heap.size + 1 + 1) (Sl.val ⟨pa, pl, pc⟩) base (Sl.val ⟨a3, l3, k3⟩))
  refine dk_end rfl HG4'.out ⟨pg, base, st ++ b⟩ ⟨pa, pl, pc⟩ ⟨a3, l3, k3⟩ (by rfl) rfl ?_
  have hbb : Below w.heap.size w (setDk (w2.setCell ⟨w.heap.size, 2, none⟩ (Sl.val ⟨a3, l3, k3⟩)) (w.heap.size + 1 + 1) (Sl.val ⟨pa, pl, pc⟩) base (Sl.val ⟨a3, l3, k3⟩)) :=
    setDk_below ((rBelow HWB.out HW3.out).setCell (p := ⟨w.heap.size, 2, none⟩) (Nat.le_refl _) _) (by omega) _ _ _
  refine ⟨hbb, ⟨pa, pl, pc⟩, ⟨a3, l3, k3⟩, rfl, H.out.pg.keep hbb (Nat.le_refl _), ?_⟩
  exact (HS3.out.other (DkBlk.no8 (s1 := ⟨pa, pl, pc⟩) (s2 := ⟨sa, sl, sc⟩) HG2.out) fun j hj => Below.heap_setCell _ ⟨w.heap.size, 2, none⟩ _ j hj).other (DkBlk.no8 (s1 := Sl.nil) (s2 := Sl.nil) HG4'.out) fun j hj => setDk_other _ _ _ _ _ j hj

end Go.Proofs.Ytokdeilcfkobfaa
