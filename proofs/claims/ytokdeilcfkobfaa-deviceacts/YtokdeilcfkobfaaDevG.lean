/-
  The document's device: a device in a block of its own; a part more among what was done.
-/
import Derived.Test.YtokdeilcfkobfaaDevF
namespace Go.Proofs.Ytokdeilcfkobfaa
open Go.RowKit
variable {K : Home}

namespace Pl
theorem H.three {P : Program} {ops : Array Oper} {S : World → Prop} {Q : Exit → Act → World → Prop} {n fuel : Nat} {listed : Array Bool} {f : Nat → Value} {w : World} (i k l : Nat) (hr : Region.ready .any ops listed = [i, k, l]) (h : HOp P ops S Q n fuel listed f w i) (h2 : HOp P ops S Q n fuel listed f w k) (h3 : HOp P ops S Q n fuel listed f w l) : H P ops S Q n (fuel + 1) listed f w := by
  intro A hA
  refine wpAnyH_all hr (by simp) ?_
  intro j hj
  have : j = i ∨ j = k ∨ j = l := by simpa using hj
  rcases this with rfl | rfl | rfl
  · exact h A hA
  · exact h2 A hA
  · exact h3 A hA
end Pl

/-- A device in a block of its own. -/
def DvBlk (w : World) (p : Nat) (k0 : Value) (k1 : Int) (k2 : Value) (n0 : Value) (n1 : Int) (n2 : Value) (d : Value) (g : Bool) (a : Int) : Prop := w.heap[p]? = some (Obj.cells #[k0, .int .i64 k1, k2, n0, .int .i64 n1, n2, d, .bool g, .int .i64 a] 35 (0, 0))
section
variable {w w' : World} {p : Nat} {k0 k2 n0 n2 d : Value} {k1 n1 a : Int} {g : Bool}
theorem DvBlk.keep (h : DvBlk w p k0 k1 k2 n0 n1 n2 d g a) (hb : Below w.heap.size w w') : DvBlk w' p k0 k1 k2 n0 n1 n2 d g a := (hb.block p (Array.getElem?_eq_some_iff.1 h).1).trans h
theorem DvBlk.c0 (h : DvBlk w p k0 k1 k2 n0 n1 n2 d g a) : w.cell? ⟨p, 0, none⟩ = some (k0) := by unfold DvBlk at h; simp [World.cell?, h]
theorem DvBlk.c1 (h : DvBlk w p k0 k1 k2 n0 n1 n2 d g a) : w.cell? ⟨p, 1, none⟩ = some (.int .i64 k1) := by unfold DvBlk at h; simp [World.cell?, h]
theorem DvBlk.c2 (h : DvBlk w p k0 k1 k2 n0 n1 n2 d g a) : w.cell? ⟨p, 2, none⟩ = some (k2) := by unfold DvBlk at h; simp [World.cell?, h]
theorem DvBlk.c3 (h : DvBlk w p k0 k1 k2 n0 n1 n2 d g a) : w.cell? ⟨p, 3, none⟩ = some (n0) := by unfold DvBlk at h; simp [World.cell?, h]
theorem DvBlk.c4 (h : DvBlk w p k0 k1 k2 n0 n1 n2 d g a) : w.cell? ⟨p, 4, none⟩ = some (.int .i64 n1) := by unfold DvBlk at h; simp [World.cell?, h]
theorem DvBlk.c5 (h : DvBlk w p k0 k1 k2 n0 n1 n2 d g a) : w.cell? ⟨p, 5, none⟩ = some (n2) := by unfold DvBlk at h; simp [World.cell?, h]
theorem DvBlk.c6 (h : DvBlk w p k0 k1 k2 n0 n1 n2 d g a) : w.cell? ⟨p, 6, none⟩ = some (d) := by unfold DvBlk at h; simp [World.cell?, h]
theorem DvBlk.c7 (h : DvBlk w p k0 k1 k2 n0 n1 n2 d g a) : w.cell? ⟨p, 7, none⟩ = some (.bool g) := by unfold DvBlk at h; simp [World.cell?, h]
theorem DvBlk.c8 (h : DvBlk w p k0 k1 k2 n0 n1 n2 d g a) : w.cell? ⟨p, 8, none⟩ = some (.int .i64 a) := by unfold DvBlk at h; simp [World.cell?, h]
theorem DvBlk.fz (h : DvBlk w p k0 k1 k2 n0 n1 n2 d g a) (o : Nat) : w.frozen? ⟨p, o, none⟩ = false := frozen_of_row w p _ _ 35 h
end
theorem dvBlk_new (w : World) (k0 : Value) (k1 : Int) (k2 : Value) (n0 : Value) (n1 : Int) (n2 : Value) (d : Value) (g : Bool) (a : Int) : DvBlk (w.alloc (.cells #[k0, .int .i64 k1, k2, n0, .int .i64 n1, n2, d, .bool g, .int .i64 a] 35)) w.heap.size k0 k1 k2 n0 n1 n2 d g a := heap_alloc_new w _
theorem field_dv2 (p : Nat) (w : World) : (Instr.fieldAt 35 (.pointer (some ⟨p, 0, none⟩)) 2).run Try.prog w = .ok (.pointer (some ⟨p, 6, none⟩)) w := by simp [go_sem, Instr.fieldAt]
theorem load_ps (b o : Nat) (a : Option Addr) (len cap : Nat) (w : World) (h : w.cell? ⟨b, o, none⟩ = some (.slice a len cap)) : (Instr.loadAt 33 (.pointer (some ⟨b, o, none⟩))).run Try.prog w = .ok (.slice a len cap) w := by
  simp [go_sem, h]
theorem store_psV (b o : Nat) (v u : Value) (hv : ∃ a len cap, v = .slice a len cap) (w : World) (h : w.cell? ⟨b, o, none⟩ = some u) (hf : w.frozen? ⟨b, o, none⟩ = false) : (Instr.storeAt 33 (.pointer (some ⟨b, o, none⟩)) v).run Try.prog w = .ok () (w.setCell ⟨b, o, none⟩ v) := by
  obtain ⟨a, len, cap, rfl⟩ := hv
  simp [go_sem, Instr.storeAt, h, hf]
theorem build_ps0 (w : World) : (Instr.buildSlice 33 0 #[]).run Try.prog w = .ok (.slice (some ⟨w.heap.size, 0, none⟩) 0 0) (w.alloc (.cells #[] 81)) := by
  simp [go_sem, Instr.buildSlice]
theorem build_ps1 (x : PtS) (w : World) : (Instr.buildSlice 33 1 #[(0, x.u.val x.q)]).run Try.prog w = .ok (.slice (some ⟨w.heap.size, 0, none⟩) 1 1) (w.alloc (.cells #[.int .i64 x.u.at_, x.q.val, .bool x.u.trim, .int .i64 x.u.to] 81)) := by
  simp [go_sem, Instr.buildSlice, Pt.val, Sl.val]
theorem OwnsP.form {w : World} {base : Nat} {v : Value} {l : List PtS} (h : OwnsP w base v l) : ∃ a len cap, v = .slice a len cap := by
  rcases h.2 with ⟨hv, _⟩ | ⟨g, cp, cur, hv, _⟩
  · exact ⟨_, _, _, hv⟩
  · exact ⟨_, _, _, hv⟩
theorem OwnsP.new' (w : World) (base : Nat) (hb : base ≤ w.heap.size) : OwnsP (w.alloc (.cells #[] 81)) base (.slice (some ⟨w.heap.size, 0, none⟩) 0 0) [] := by
  have := World.ownsRow_lit (base := base) (e := 81) (size := 4) w #[] 0 hb (by unfold maxLen; omega) (by simp)
  simpa [OwnsP, ptVals] using this
/-- One part in a row stays where its block does. -/
theorem Ps.stay {w w' : World} {g len : Nat} {l : List PtS} (h : Ps K w (some ⟨g, 0, none⟩) len l) (hg : w'.heap[g]? = w.heap[g]?) (hok : ∀ i ∈ l, PtS.ok K w' i) : Ps K w' (some ⟨g, 0, none⟩) len l := by
  refine ⟨h.1, hok, fun j hj => ?_⟩
  obtain ⟨b, off, ha, c0, c1, c2, c3, C4, fr4, c4⟩ := h.2.2 j hj
  have e := Option.some.inj ha
  simp only [Addr.mk.injEq] at e
  obtain ⟨rfl, rfl, _⟩ := e
  refine ⟨g, 0, rfl, ?_⟩
  have hc : ∀ o, w'.cell? ⟨g, o, none⟩ = w.cell? ⟨g, o, none⟩ := by
    intro o
    simp only [World.cell?]
    rw [hg]
  exact ⟨(hc _).trans c0, (hc _).trans c1, (hc _).trans c2, (hc _).trans c3, C4, fr4, hg.trans c4⟩

set_option maxHeartbeats 4000000 in
set_option maxRecDepth 100000 in
theorem do10 (w : World) (p g : Nat) (hgp : g ≠ p) (k0 : Value) (k1 : Int) (k2 : Value) (n0 : Value) (n1 : Int) (n2 : Value) (da : Option Addr) (dl dc : Nat) (gn : Bool) (am : Int) (x : PtS) (l : List PtS) (hd : DvBlk w p k0 k1 k2 n0 n1 n2 (.slice da dl dc) gn am) (hp : PtBlk w g x.u.at_ x.q.val x.u.trim x.u.to) (hx : PtS.ok K w x) (hl : Ps K w da dl l) (hn : da = none → dc = 0) (hdl : dl ≤ 1000)
    {Q : Exit → Act → World → Prop} {A : Act} (hsz : A.tmps.size = 54) (hdf : A.defers = []) (s2 : A.tmps.getD 2 undef = .pointer (some ⟨p, 0, none⟩)) (s6 : A.tmps.getD 6 undef = .pointer (some ⟨g, 0, none⟩))
    (hend : ∀ (u : Nat → Value) w6 v6, OwnsP w6 w.heap.size v6 (l ++ [x]) → Below w.heap.size w w6 → Q .normal (((((((((A).put (some 38) (u 38)).put (some 41) (u 41)).put (some 37) (u 37)).put (some 39) (u 39)).put (some 42) (u 42)).put (some 40) (u 40)).put (some 43) (u 43)).put (some 44) (u 44)) (w6.setCell ⟨p, 6, none⟩ v6)) :
    (Code.region 10 (Pl.find 10 ((Try.f34.body).getD .skip)) true).wp Try.prog Q A w := by
  have hll := hl.1
  have b0 : Below w.heap.size w w.drew := (Below.refl _ _).drew
  have hA := Pl.At.same (v := .pointer (some ⟨g, 0, none⟩)) (d := 6) (Pl.At.same (v := .pointer (some ⟨p, 0, none⟩)) (d := 2) (Pl.At.here hsz hdf) s2) s6
  refine Pl.H.start (S := fun w' => PtBlk w' g x.u.at_ x.q.val x.u.trim x.u.to) (by kernel_rfl) hA (hp.keep b0) ?_
  rw [show (Pl.find 10 ((Try.f34.body).getD .skip)).size = 9 by kernel_rfl]
  refine Pl.H.take 1 38 (.pointer (some ⟨p, 6, none⟩)) (by kernel_rfl) (by kernel_rfl) (by kernel_rfl) (Pl.free 1 (by kernel_rfl)) (Pl.field 1 35 (.tmp 2) 2 _ (by kernel_rfl) (by decide) (field_dv2 p)) (hp.keep b0) ?_
  refine Pl.H.take 4 41 (x.u.val x.q) (by kernel_rfl) (by kernel_rfl) (by kernel_rfl) (Pl.free 4 (by kernel_rfl)) (Pl.load 4 81 (.tmp 6) _ (by kernel_rfl) (by decide) (fun w' hS => load_pt g x.u x.q w' hS)) (hp.keep b0) ?_
  refine Pl.H.three 0 2 5 (by kernel_rfl) ?_ ?_ ?_
  · have b1 : Below w.heap.size w (w.drew.alloc (.cells #[] 81)) := b0.alloc b0.size _
    have o1 : OwnsP (w.drew.alloc (.cells #[] 81)) w.heap.size (.slice (some ⟨w.drew.heap.size, 0, none⟩) 0 0) [] := OwnsP.new' _ _ b0.size
    refine Pl.HOp.value 0 37 (.slice (some ⟨w.drew.heap.size, 0, none⟩) 0 0) (w.drew.alloc (.cells #[] 81)) (by kernel_rfl) (by kernel_rfl) (by kernel_rfl) (Pl.zero 0 33 _ _ (by kernel_rfl) (build_ps0 w.drew)) (hp.keep b1) ?_
    refine Pl.H.two 2 5 (by kernel_rfl) ?_ ?_
    · refine Pl.HOp.value 2 39 (.slice da dl dc) (w.drew.alloc (.cells #[] 81)) (by kernel_rfl) (by kernel_rfl) (by kernel_rfl) (Pl.load1 2 33 (.tmp 38) _ (by kernel_rfl) (by decide) (load_ps p 6 da dl dc _ (hd.keep b1).c6)) (hp.keep b1) ?_
      refine Pl.H.two 3 5 (by kernel_rfl) ?_ ?_
      · obtain ⟨v3, w3, r3, o3, bb3, _, t3⟩ := run_append_parts (w.drew.alloc (.cells #[] 81)) 33 w.heap.size (.slice (some ⟨w.drew.heap.size, 0, none⟩) 0 0) [] o1 da dl dc l (hl.keep b1 (Nat.le_refl _)) hn (by simp; omega) b1.size
        rw [List.nil_append] at o3
        have b3 := b1.trans bb3
        refine Pl.HOp.value 3 40 v3 w3 (by kernel_rfl) (by kernel_rfl) (by kernel_rfl) (Pl.appT 3 33 33 (.tmp 37) (.tmp 39) _ _ (by kernel_rfl) (by kernel_rfl) (by decide) (by decide) r3) (hp.keep b3) ?_
        refine Pl.H.one 5 (by kernel_rfl) ?_
        have b4 : Below w.heap.size w (w3.alloc (.cells #[.int .i64 x.u.at_, x.q.val, .bool x.u.trim, .int .i64 x.u.to] 81)) := b3.alloc b3.size _
        have e4 := ps_one w3 x (hx.keep b3 (Nat.le_refl _))
        have o4 := o3.keep (below_alloc w3 (.cells #[.int .i64 x.u.at_, x.q.val, .bool x.u.trim, .int .i64 x.u.to] 81)) (Nat.le_refl _)
        refine Pl.HOp.value 5 42 (.slice (some ⟨w3.heap.size, 0, none⟩) 1 1) (w3.alloc (.cells #[.int .i64 x.u.at_, x.q.val, .bool x.u.trim, .int .i64 x.u.to] 81)) (by kernel_rfl) (by kernel_rfl) (by kernel_rfl) (Pl.one 5 33 (.tmp 41) _ _ (by kernel_rfl) (by decide) (build_ps1 x w3)) (hp.keep b4) ?_
        rw [Pl.upd_comm _ 40 42 _ _ (by decide)]
        obtain ⟨vz, wz, rz, oz, bbz, _, _⟩ := run_append_parts (w3.alloc (.cells #[.int .i64 x.u.at_, x.q.val, .bool x.u.trim, .int .i64 x.u.to] 81)) 33 w.heap.size v3 l o4 _ 1 1 [x] e4 (fun h => by cases h) (by omega) b4.size
        have bz := b4.trans bbz
        refine Pl.H.make 6 43 vz wz (by kernel_rfl) (by kernel_rfl) (by kernel_rfl) (Pl.free 6 (by kernel_rfl)) (Pl.appT 6 33 33 (.tmp 40) (.tmp 42) _ _ (by kernel_rfl) (by kernel_rfl) (by decide) (by decide) rz) (hp.keep bz) ?_
        refine Pl.H.take 7 44 (.pointer (some ⟨p, 6, none⟩)) (by kernel_rfl) (by kernel_rfl) (by kernel_rfl) (Pl.free 7 (by kernel_rfl)) (Pl.field 7 35 (.tmp 2) 2 _ (by kernel_rfl) (by decide) (field_dv2 p)) (hp.keep bz) ?_
        refine Pl.H.store 8 (wz.setCell ⟨p, 6, none⟩ vz) (by kernel_rfl) (by kernel_rfl) (by kernel_rfl) (Pl.free 8 (by kernel_rfl)) (Pl.storeV 8 33 (.tmp 44) (.tmp 43) _ (by kernel_rfl) (by decide) (by decide) (store_psV p 6 vz _ oz.form wz (hd.keep bz).c6 ((hd.keep bz).fz 6))) ((hp.keep bz).off hgp _) ?_
        refine Pl.H.done (by kernel_rfl) (fun A' hA' => ?_)
        rw [Pl.At.ext hA' ((((((((hA.put 38 _).put 41 _).put 37 _).put 39 _).put 42 _).put 40 _).put 43 _).put 44 _)]
        exact hend (fun d => if d = 38 then .pointer (some ⟨p, 6, none⟩) else if d = 41 then x.u.val x.q else if d = 37 then (.slice (some ⟨w.drew.heap.size, 0, none⟩) 0 0) else if d = 39 then .slice da dl dc else if d = 42 then (.slice (some ⟨w3.heap.size, 0, none⟩) 1 1) else if d = 40 then v3 else if d = 43 then vz else if d = 44 then .pointer (some ⟨p, 6, none⟩) else undef) _ _ oz bz
      · have b5 : Below w.heap.size w ((w.drew.alloc (.cells #[] 81)).alloc (.cells #[.int .i64 x.u.at_, x.q.val, .bool x.u.trim, .int .i64 x.u.to] 81)) := b1.alloc b1.size _
        have e5 := ps_one (w.drew.alloc (.cells #[] 81)) x (hx.keep b1 (Nat.le_refl _))
        have o5 := o1.keep (below_alloc (w.drew.alloc (.cells #[] 81)) (.cells #[.int .i64 x.u.at_, x.q.val, .bool x.u.trim, .int .i64 x.u.to] 81)) (Nat.le_refl _)
        refine Pl.HOp.value 5 42 (.slice (some ⟨(w.drew.alloc (.cells #[] 81)).heap.size, 0, none⟩) 1 1) ((w.drew.alloc (.cells #[] 81)).alloc (.cells #[.int .i64 x.u.at_, x.q.val, .bool x.u.trim, .int .i64 x.u.to] 81)) (by kernel_rfl) (by kernel_rfl) (by kernel_rfl) (Pl.one 5 33 (.tmp 41) _ _ (by kernel_rfl) (by decide) (build_ps1 x (w.drew.alloc (.cells #[] 81)))) (hp.keep b5) ?_
        refine Pl.H.one 3 (by kernel_rfl) ?_
        obtain ⟨v6, w6, r6, o6, bb6, _, t6⟩ := run_append_parts ((w.drew.alloc (.cells #[] 81)).alloc (.cells #[.int .i64 x.u.at_, x.q.val, .bool x.u.trim, .int .i64 x.u.to] 81)) 33 w.heap.size (.slice (some ⟨w.drew.heap.size, 0, none⟩) 0 0) [] o5 da dl dc l (hl.keep b5 (Nat.le_refl _)) hn (by simp; omega) b5.size
        rw [List.nil_append] at o6
        have b6 := b5.trans bb6
        have e6 := e5.stay (t6 _ (by simp <;> omega) (by simp [Value.ownBlock] <;> omega)) (fun i hi => by simp only [List.mem_singleton] at hi; rw [hi]; exact hx.keep b6 (Nat.le_refl _))
        refine Pl.HOp.value 3 40 v6 w6 (by kernel_rfl) (by kernel_rfl) (by kernel_rfl) (Pl.appT 3 33 33 (.tmp 37) (.tmp 39) _ _ (by kernel_rfl) (by kernel_rfl) (by decide) (by decide) r6) (hp.keep b6) ?_
        obtain ⟨vz, wz, rz, oz, bbz, _, _⟩ := run_append_parts w6 33 w.heap.size v6 l o6 _ 1 1 [x] e6 (fun h => by cases h) (by omega) b6.size
        have bz := b6.trans bbz
        refine Pl.H.make 6 43 vz wz (by kernel_rfl) (by kernel_rfl) (by kernel_rfl) (Pl.free 6 (by kernel_rfl)) (Pl.appT 6 33 33 (.tmp 40) (.tmp 42) _ _ (by kernel_rfl) (by kernel_rfl) (by decide) (by decide) rz) (hp.keep bz) ?_
        refine Pl.H.take 7 44 (.pointer (some ⟨p, 6, none⟩)) (by kernel_rfl) (by kernel_rfl) (by kernel_rfl) (Pl.free 7 (by kernel_rfl)) (Pl.field 7 35 (.tmp 2) 2 _ (by kernel_rfl) (by decide) (field_dv2 p)) (hp.keep bz) ?_
        refine Pl.H.store 8 (wz.setCell ⟨p, 6, none⟩ vz) (by kernel_rfl) (by kernel_rfl) (by kernel_rfl) (Pl.free 8 (by kernel_rfl)) (Pl.storeV 8 33 (.tmp 44) (.tmp 43) _ (by kernel_rfl) (by decide) (by decide) (store_psV p 6 vz _ oz.form wz (hd.keep bz).c6 ((hd.keep bz).fz 6))) ((hp.keep bz).off hgp _) ?_
        refine Pl.H.done (by kernel_rfl) (fun A' hA' => ?_)
        rw [Pl.At.ext hA' ((((((((hA.put 38 _).put 41 _).put 37 _).put 39 _).put 42 _).put 40 _).put 43 _).put 44 _)]
        exact hend (fun d => if d = 38 then .pointer (some ⟨p, 6, none⟩) else if d = 41 then x.u.val x.q else if d = 37 then (.slice (some ⟨w.drew.heap.size, 0, none⟩) 0 0) else if d = 39 then .slice da dl dc else if d = 42 then (.slice (some ⟨(w.drew.alloc (.cells #[] 81)).heap.size, 0, none⟩) 1 1) else if d = 40 then v6 else if d = 43 then vz else if d = 44 then .pointer (some ⟨p, 6, none⟩) else undef) _ _ oz bz
    · have b7 : Below w.heap.size w ((w.drew.alloc (.cells #[] 81)).alloc (.cells #[.int .i64 x.u.at_, x.q.val, .bool x.u.trim, .int .i64 x.u.to] 81)) := b1.alloc b1.size _
      have e7 := ps_one (w.drew.alloc (.cells #[] 81)) x (hx.keep b1 (Nat.le_refl _))
      have o7 := o1.keep (below_alloc (w.drew.alloc (.cells #[] 81)) (.cells #[.int .i64 x.u.at_, x.q.val, .bool x.u.trim, .int .i64 x.u.to] 81)) (Nat.le_refl _)
      refine Pl.HOp.value 5 42 (.slice (some ⟨(w.drew.alloc (.cells #[] 81)).heap.size, 0, none⟩) 1 1) ((w.drew.alloc (.cells #[] 81)).alloc (.cells #[.int .i64 x.u.at_, x.q.val, .bool x.u.trim, .int .i64 x.u.to] 81)) (by kernel_rfl) (by kernel_rfl) (by kernel_rfl) (Pl.one 5 33 (.tmp 41) _ _ (by kernel_rfl) (by decide) (build_ps1 x (w.drew.alloc (.cells #[] 81)))) (hp.keep b7) ?_
      refine Pl.H.one 2 (by kernel_rfl) ?_
      refine Pl.HOp.value 2 39 (.slice da dl dc) ((w.drew.alloc (.cells #[] 81)).alloc (.cells #[.int .i64 x.u.at_, x.q.val, .bool x.u.trim, .int .i64 x.u.to] 81)) (by kernel_rfl) (by kernel_rfl) (by kernel_rfl) (Pl.load1 2 33 (.tmp 38) _ (by kernel_rfl) (by decide) (load_ps p 6 da dl dc _ (hd.keep b7).c6)) (hp.keep b7) ?_
      rw [Pl.upd_comm _ 42 39 _ _ (by decide)]
      refine Pl.H.one 3 (by kernel_rfl) ?_
      obtain ⟨v9, w9, r9, o9, bb9, _, t9⟩ := run_append_parts ((w.drew.alloc (.cells #[] 81)).alloc (.cells #[.int .i64 x.u.at_, x.q.val, .bool x.u.trim, .int .i64 x.u.to] 81)) 33 w.heap.size (.slice (some ⟨w.drew.heap.size, 0, none⟩) 0 0) [] o7 da dl dc l (hl.keep b7 (Nat.le_refl _)) hn (by simp; omega) b7.size
      rw [List.nil_append] at o9
      have b9 := b7.trans bb9
      have e9 := e7.stay (t9 _ (by simp <;> omega) (by simp [Value.ownBlock] <;> omega)) (fun i hi => by simp only [List.mem_singleton] at hi; rw [hi]; exact hx.keep b9 (Nat.le_refl _))
      refine Pl.HOp.value 3 40 v9 w9 (by kernel_rfl) (by kernel_rfl) (by kernel_rfl) (Pl.appT 3 33 33 (.tmp 37) (.tmp 39) _ _ (by kernel_rfl) (by kernel_rfl) (by decide) (by decide) r9) (hp.keep b9) ?_
      obtain ⟨vz, wz, rz, oz, bbz, _, _⟩ := run_append_parts w9 33 w.heap.size v9 l o9 _ 1 1 [x] e9 (fun h => by cases h) (by omega) b9.size
      have bz := b9.trans bbz
      refine Pl.H.make 6 43 vz wz (by kernel_rfl) (by kernel_rfl) (by kernel_rfl) (Pl.free 6 (by kernel_rfl)) (Pl.appT 6 33 33 (.tmp 40) (.tmp 42) _ _ (by kernel_rfl) (by kernel_rfl) (by decide) (by decide) rz) (hp.keep bz) ?_
      refine Pl.H.take 7 44 (.pointer (some ⟨p, 6, none⟩)) (by kernel_rfl) (by kernel_rfl) (by kernel_rfl) (Pl.free 7 (by kernel_rfl)) (Pl.field 7 35 (.tmp 2) 2 _ (by kernel_rfl) (by decide) (field_dv2 p)) (hp.keep bz) ?_
      refine Pl.H.store 8 (wz.setCell ⟨p, 6, none⟩ vz) (by kernel_rfl) (by kernel_rfl) (by kernel_rfl) (Pl.free 8 (by kernel_rfl)) (Pl.storeV 8 33 (.tmp 44) (.tmp 43) _ (by kernel_rfl) (by decide) (by decide) (store_psV p 6 vz _ oz.form wz (hd.keep bz).c6 ((hd.keep bz).fz 6))) ((hp.keep bz).off hgp _) ?_
      refine Pl.H.done (by kernel_rfl) (fun A' hA' => ?_)
      rw [Pl.At.ext hA' ((((((((hA.put 38 _).put 41 _).put 37 _).put 39 _).put 42 _).put 40 _).put 43 _).put 44 _)]
      exact hend (fun d => if d = 38 then .pointer (some ⟨p, 6, none⟩) else if d = 41 then x.u.val x.q else if d = 37 then (.slice (some ⟨w.drew.heap.size, 0, none⟩) 0 0) else if d = 39 then .slice da dl dc else if d = 42 then (.slice (some ⟨(w.drew.alloc (.cells #[] 81)).heap.size, 0, none⟩) 1 1) else if d = 40 then v9 else if d = 43 then vz else if d = 44 then .pointer (some ⟨p, 6, none⟩) else undef) _ _ oz bz
  · refine Pl.HOp.value 2 39 (.slice da dl dc) w.drew (by kernel_rfl) (by kernel_rfl) (by kernel_rfl) (Pl.load1 2 33 (.tmp 38) _ (by kernel_rfl) (by decide) (load_ps p 6 da dl dc _ (hd.keep b0).c6)) (hp.keep b0) ?_
    refine Pl.H.two 0 5 (by kernel_rfl) ?_ ?_
    · have b11 : Below w.heap.size w (w.drew.alloc (.cells #[] 81)) := b0.alloc b0.size _
      have o11 : OwnsP (w.drew.alloc (.cells #[] 81)) w.heap.size (.slice (some ⟨w.drew.heap.size, 0, none⟩) 0 0) [] := OwnsP.new' _ _ b0.size
      refine Pl.HOp.value 0 37 (.slice (some ⟨w.drew.heap.size, 0, none⟩) 0 0) (w.drew.alloc (.cells #[] 81)) (by kernel_rfl) (by kernel_rfl) (by kernel_rfl) (Pl.zero 0 33 _ _ (by kernel_rfl) (build_ps0 w.drew)) (hp.keep b11) ?_
      rw [Pl.upd_comm _ 39 37 _ _ (by decide)]
      refine Pl.H.two 3 5 (by kernel_rfl) ?_ ?_
      · obtain ⟨v12, w12, r12, o12, bb12, _, t12⟩ := run_append_parts (w.drew.alloc (.cells #[] 81)) 33 w.heap.size (.slice (some ⟨w.drew.heap.size, 0, none⟩) 0 0) [] o11 da dl dc l (hl.keep b11 (Nat.le_refl _)) hn (by simp; omega) b11.size
        rw [List.nil_append] at o12
        have b12 := b11.trans bb12
        refine Pl.HOp.value 3 40 v12 w12 (by kernel_rfl) (by kernel_rfl) (by kernel_rfl) (Pl.appT 3 33 33 (.tmp 37) (.tmp 39) _ _ (by kernel_rfl) (by kernel_rfl) (by decide) (by decide) r12) (hp.keep b12) ?_
        refine Pl.H.one 5 (by kernel_rfl) ?_
        have b13 : Below w.heap.size w (w12.alloc (.cells #[.int .i64 x.u.at_, x.q.val, .bool x.u.trim, .int .i64 x.u.to] 81)) := b12.alloc b12.size _
        have e13 := ps_one w12 x (hx.keep b12 (Nat.le_refl _))
        have o13 := o12.keep (below_alloc w12 (.cells #[.int .i64 x.u.at_, x.q.val, .bool x.u.trim, .int .i64 x.u.to] 81)) (Nat.le_refl _)
        refine Pl.HOp.value 5 42 (.slice (some ⟨w12.heap.size, 0, none⟩) 1 1) (w12.alloc (.cells #[.int .i64 x.u.at_, x.q.val, .bool x.u.trim, .int .i64 x.u.to] 81)) (by kernel_rfl) (by kernel_rfl) (by kernel_rfl) (Pl.one 5 33 (.tmp 41) _ _ (by kernel_rfl) (by decide) (build_ps1 x w12)) (hp.keep b13) ?_
        rw [Pl.upd_comm _ 40 42 _ _ (by decide)]
        obtain ⟨vz, wz, rz, oz, bbz, _, _⟩ := run_append_parts (w12.alloc (.cells #[.int .i64 x.u.at_, x.q.val, .bool x.u.trim, .int .i64 x.u.to] 81)) 33 w.heap.size v12 l o13 _ 1 1 [x] e13 (fun h => by cases h) (by omega) b13.size
        have bz := b13.trans bbz
        refine Pl.H.make 6 43 vz wz (by kernel_rfl) (by kernel_rfl) (by kernel_rfl) (Pl.free 6 (by kernel_rfl)) (Pl.appT 6 33 33 (.tmp 40) (.tmp 42) _ _ (by kernel_rfl) (by kernel_rfl) (by decide) (by decide) rz) (hp.keep bz) ?_
        refine Pl.H.take 7 44 (.pointer (some ⟨p, 6, none⟩)) (by kernel_rfl) (by kernel_rfl) (by kernel_rfl) (Pl.free 7 (by kernel_rfl)) (Pl.field 7 35 (.tmp 2) 2 _ (by kernel_rfl) (by decide) (field_dv2 p)) (hp.keep bz) ?_
        refine Pl.H.store 8 (wz.setCell ⟨p, 6, none⟩ vz) (by kernel_rfl) (by kernel_rfl) (by kernel_rfl) (Pl.free 8 (by kernel_rfl)) (Pl.storeV 8 33 (.tmp 44) (.tmp 43) _ (by kernel_rfl) (by decide) (by decide) (store_psV p 6 vz _ oz.form wz (hd.keep bz).c6 ((hd.keep bz).fz 6))) ((hp.keep bz).off hgp _) ?_
        refine Pl.H.done (by kernel_rfl) (fun A' hA' => ?_)
        rw [Pl.At.ext hA' ((((((((hA.put 38 _).put 41 _).put 37 _).put 39 _).put 42 _).put 40 _).put 43 _).put 44 _)]
        exact hend (fun d => if d = 38 then .pointer (some ⟨p, 6, none⟩) else if d = 41 then x.u.val x.q else if d = 37 then (.slice (some ⟨w.drew.heap.size, 0, none⟩) 0 0) else if d = 39 then .slice da dl dc else if d = 42 then (.slice (some ⟨w12.heap.size, 0, none⟩) 1 1) else if d = 40 then v12 else if d = 43 then vz else if d = 44 then .pointer (some ⟨p, 6, none⟩) else undef) _ _ oz bz
      · have b14 : Below w.heap.size w ((w.drew.alloc (.cells #[] 81)).alloc (.cells #[.int .i64 x.u.at_, x.q.val, .bool x.u.trim, .int .i64 x.u.to] 81)) := b11.alloc b11.size _
        have e14 := ps_one (w.drew.alloc (.cells #[] 81)) x (hx.keep b11 (Nat.le_refl _))
        have o14 := o11.keep (below_alloc (w.drew.alloc (.cells #[] 81)) (.cells #[.int .i64 x.u.at_, x.q.val, .bool x.u.trim, .int .i64 x.u.to] 81)) (Nat.le_refl _)
        refine Pl.HOp.value 5 42 (.slice (some ⟨(w.drew.alloc (.cells #[] 81)).heap.size, 0, none⟩) 1 1) ((w.drew.alloc (.cells #[] 81)).alloc (.cells #[.int .i64 x.u.at_, x.q.val, .bool x.u.trim, .int .i64 x.u.to] 81)) (by kernel_rfl) (by kernel_rfl) (by kernel_rfl) (Pl.one 5 33 (.tmp 41) _ _ (by kernel_rfl) (by decide) (build_ps1 x (w.drew.alloc (.cells #[] 81)))) (hp.keep b14) ?_
        refine Pl.H.one 3 (by kernel_rfl) ?_
        obtain ⟨v15, w15, r15, o15, bb15, _, t15⟩ := run_append_parts ((w.drew.alloc (.cells #[] 81)).alloc (.cells #[.int .i64 x.u.at_, x.q.val, .bool x.u.trim, .int .i64 x.u.to] 81)) 33 w.heap.size (.slice (some ⟨w.drew.heap.size, 0, none⟩) 0 0) [] o14 da dl dc l (hl.keep b14 (Nat.le_refl _)) hn (by simp; omega) b14.size
        rw [List.nil_append] at o15
        have b15 := b14.trans bb15
        have e15 := e14.stay (t15 _ (by simp <;> omega) (by simp [Value.ownBlock] <;> omega)) (fun i hi => by simp only [List.mem_singleton] at hi; rw [hi]; exact hx.keep b15 (Nat.le_refl _))
        refine Pl.HOp.value 3 40 v15 w15 (by kernel_rfl) (by kernel_rfl) (by kernel_rfl) (Pl.appT 3 33 33 (.tmp 37) (.tmp 39) _ _ (by kernel_rfl) (by kernel_rfl) (by decide) (by decide) r15) (hp.keep b15) ?_
        obtain ⟨vz, wz, rz, oz, bbz, _, _⟩ := run_append_parts w15 33 w.heap.size v15 l o15 _ 1 1 [x] e15 (fun h => by cases h) (by omega) b15.size
        have bz := b15.trans bbz
        refine Pl.H.make 6 43 vz wz (by kernel_rfl) (by kernel_rfl) (by kernel_rfl) (Pl.free 6 (by kernel_rfl)) (Pl.appT 6 33 33 (.tmp 40) (.tmp 42) _ _ (by kernel_rfl) (by kernel_rfl) (by decide) (by decide) rz) (hp.keep bz) ?_
        refine Pl.H.take 7 44 (.pointer (some ⟨p, 6, none⟩)) (by kernel_rfl) (by kernel_rfl) (by kernel_rfl) (Pl.free 7 (by kernel_rfl)) (Pl.field 7 35 (.tmp 2) 2 _ (by kernel_rfl) (by decide) (field_dv2 p)) (hp.keep bz) ?_
        refine Pl.H.store 8 (wz.setCell ⟨p, 6, none⟩ vz) (by kernel_rfl) (by kernel_rfl) (by kernel_rfl) (Pl.free 8 (by kernel_rfl)) (Pl.storeV 8 33 (.tmp 44) (.tmp 43) _ (by kernel_rfl) (by decide) (by decide) (store_psV p 6 vz _ oz.form wz (hd.keep bz).c6 ((hd.keep bz).fz 6))) ((hp.keep bz).off hgp _) ?_
        refine Pl.H.done (by kernel_rfl) (fun A' hA' => ?_)
        rw [Pl.At.ext hA' ((((((((hA.put 38 _).put 41 _).put 37 _).put 39 _).put 42 _).put 40 _).put 43 _).put 44 _)]
        exact hend (fun d => if d = 38 then .pointer (some ⟨p, 6, none⟩) else if d = 41 then x.u.val x.q else if d = 37 then (.slice (some ⟨w.drew.heap.size, 0, none⟩) 0 0) else if d = 39 then .slice da dl dc else if d = 42 then (.slice (some ⟨(w.drew.alloc (.cells #[] 81)).heap.size, 0, none⟩) 1 1) else if d = 40 then v15 else if d = 43 then vz else if d = 44 then .pointer (some ⟨p, 6, none⟩) else undef) _ _ oz bz
    · have b16 : Below w.heap.size w (w.drew.alloc (.cells #[.int .i64 x.u.at_, x.q.val, .bool x.u.trim, .int .i64 x.u.to] 81)) := b0.alloc b0.size _
      have e16 := ps_one w.drew x (hx.keep b0 (Nat.le_refl _))
      refine Pl.HOp.value 5 42 (.slice (some ⟨w.drew.heap.size, 0, none⟩) 1 1) (w.drew.alloc (.cells #[.int .i64 x.u.at_, x.q.val, .bool x.u.trim, .int .i64 x.u.to] 81)) (by kernel_rfl) (by kernel_rfl) (by kernel_rfl) (Pl.one 5 33 (.tmp 41) _ _ (by kernel_rfl) (by decide) (build_ps1 x w.drew)) (hp.keep b16) ?_
      refine Pl.H.one 0 (by kernel_rfl) ?_
      have b17 : Below w.heap.size w ((w.drew.alloc (.cells #[.int .i64 x.u.at_, x.q.val, .bool x.u.trim, .int .i64 x.u.to] 81)).alloc (.cells #[] 81)) := b16.alloc b16.size _
      have o17 : OwnsP ((w.drew.alloc (.cells #[.int .i64 x.u.at_, x.q.val, .bool x.u.trim, .int .i64 x.u.to] 81)).alloc (.cells #[] 81)) w.heap.size (.slice (some ⟨(w.drew.alloc (.cells #[.int .i64 x.u.at_, x.q.val, .bool x.u.trim, .int .i64 x.u.to] 81)).heap.size, 0, none⟩) 0 0) [] := OwnsP.new' _ _ b16.size
      have e17 := e16.keep (below_alloc (w.drew.alloc (.cells #[.int .i64 x.u.at_, x.q.val, .bool x.u.trim, .int .i64 x.u.to] 81)) (.cells #[] 81)) (Nat.le_refl _)
      refine Pl.HOp.value 0 37 (.slice (some ⟨(w.drew.alloc (.cells #[.int .i64 x.u.at_, x.q.val, .bool x.u.trim, .int .i64 x.u.to] 81)).heap.size, 0, none⟩) 0 0) ((w.drew.alloc (.cells #[.int .i64 x.u.at_, x.q.val, .bool x.u.trim, .int .i64 x.u.to] 81)).alloc (.cells #[] 81)) (by kernel_rfl) (by kernel_rfl) (by kernel_rfl) (Pl.zero 0 33 _ _ (by kernel_rfl) (build_ps0 (w.drew.alloc (.cells #[.int .i64 x.u.at_, x.q.val, .bool x.u.trim, .int .i64 x.u.to] 81)))) (hp.keep b17) ?_
      rw [Pl.upd_comm _ 42 37 _ _ (by decide)]
      rw [Pl.upd_comm _ 39 37 _ _ (by decide)]
      refine Pl.H.one 3 (by kernel_rfl) ?_
      obtain ⟨v18, w18, r18, o18, bb18, _, t18⟩ := run_append_parts ((w.drew.alloc (.cells #[.int .i64 x.u.at_, x.q.val, .bool x.u.trim, .int .i64 x.u.to] 81)).alloc (.cells #[] 81)) 33 w.heap.size (.slice (some ⟨(w.drew.alloc (.cells #[.int .i64 x.u.at_, x.q.val, .bool x.u.trim, .int .i64 x.u.to] 81)).heap.size, 0, none⟩) 0 0) [] o17 da dl dc l (hl.keep b17 (Nat.le_refl _)) hn (by simp; omega) b17.size
      rw [List.nil_append] at o18
      have b18 := b17.trans bb18
      have e18 := e17.stay (t18 _ (by simp <;> omega) (by simp [Value.ownBlock] <;> omega)) (fun i hi => by simp only [List.mem_singleton] at hi; rw [hi]; exact hx.keep b18 (Nat.le_refl _))
      refine Pl.HOp.value 3 40 v18 w18 (by kernel_rfl) (by kernel_rfl) (by kernel_rfl) (Pl.appT 3 33 33 (.tmp 37) (.tmp 39) _ _ (by kernel_rfl) (by kernel_rfl) (by decide) (by decide) r18) (hp.keep b18) ?_
      obtain ⟨vz, wz, rz, oz, bbz, _, _⟩ := run_append_parts w18 33 w.heap.size v18 l o18 _ 1 1 [x] e18 (fun h => by cases h) (by omega) b18.size
      have bz := b18.trans bbz
      refine Pl.H.make 6 43 vz wz (by kernel_rfl) (by kernel_rfl) (by kernel_rfl) (Pl.free 6 (by kernel_rfl)) (Pl.appT 6 33 33 (.tmp 40) (.tmp 42) _ _ (by kernel_rfl) (by kernel_rfl) (by decide) (by decide) rz) (hp.keep bz) ?_
      refine Pl.H.take 7 44 (.pointer (some ⟨p, 6, none⟩)) (by kernel_rfl) (by kernel_rfl) (by kernel_rfl) (Pl.free 7 (by kernel_rfl)) (Pl.field 7 35 (.tmp 2) 2 _ (by kernel_rfl) (by decide) (field_dv2 p)) (hp.keep bz) ?_
      refine Pl.H.store 8 (wz.setCell ⟨p, 6, none⟩ vz) (by kernel_rfl) (by kernel_rfl) (by kernel_rfl) (Pl.free 8 (by kernel_rfl)) (Pl.storeV 8 33 (.tmp 44) (.tmp 43) _ (by kernel_rfl) (by decide) (by decide) (store_psV p 6 vz _ oz.form wz (hd.keep bz).c6 ((hd.keep bz).fz 6))) ((hp.keep bz).off hgp _) ?_
      refine Pl.H.done (by kernel_rfl) (fun A' hA' => ?_)
      rw [Pl.At.ext hA' ((((((((hA.put 38 _).put 41 _).put 37 _).put 39 _).put 42 _).put 40 _).put 43 _).put 44 _)]
      exact hend (fun d => if d = 38 then .pointer (some ⟨p, 6, none⟩) else if d = 41 then x.u.val x.q else if d = 37 then (.slice (some ⟨(w.drew.alloc (.cells #[.int .i64 x.u.at_, x.q.val, .bool x.u.trim, .int .i64 x.u.to] 81)).heap.size, 0, none⟩) 0 0) else if d = 39 then .slice da dl dc else if d = 42 then (.slice (some ⟨w.drew.heap.size, 0, none⟩) 1 1) else if d = 40 then v18 else if d = 43 then vz else if d = 44 then .pointer (some ⟨p, 6, none⟩) else undef) _ _ oz bz
  · have b19 : Below w.heap.size w (w.drew.alloc (.cells #[.int .i64 x.u.at_, x.q.val, .bool x.u.trim, .int .i64 x.u.to] 81)) := b0.alloc b0.size _
    have e19 := ps_one w.drew x (hx.keep b0 (Nat.le_refl _))
    refine Pl.HOp.value 5 42 (.slice (some ⟨w.drew.heap.size, 0, none⟩) 1 1) (w.drew.alloc (.cells #[.int .i64 x.u.at_, x.q.val, .bool x.u.trim, .int .i64 x.u.to] 81)) (by kernel_rfl) (by kernel_rfl) (by kernel_rfl) (Pl.one 5 33 (.tmp 41) _ _ (by kernel_rfl) (by decide) (build_ps1 x w.drew)) (hp.keep b19) ?_
    refine Pl.H.two 0 2 (by kernel_rfl) ?_ ?_
    · have b20 : Below w.heap.size w ((w.drew.alloc (.cells #[.int .i64 x.u.at_, x.q.val, .bool x.u.trim, .int .i64 x.u.to] 81)).alloc (.cells #[] 81)) := b19.alloc b19.size _
      have o20 : OwnsP ((w.drew.alloc (.cells #[.int .i64 x.u.at_, x.q.val, .bool x.u.trim, .int .i64 x.u.to] 81)).alloc (.cells #[] 81)) w.heap.size (.slice (some ⟨(w.drew.alloc (.cells #[.int .i64 x.u.at_, x.q.val, .bool x.u.trim, .int .i64 x.u.to] 81)).heap.size, 0, none⟩) 0 0) [] := OwnsP.new' _ _ b19.size
      have e20 := e19.keep (below_alloc (w.drew.alloc (.cells #[.int .i64 x.u.at_, x.q.val, .bool x.u.trim, .int .i64 x.u.to] 81)) (.cells #[] 81)) (Nat.le_refl _)
      refine Pl.HOp.value 0 37 (.slice (some ⟨(w.drew.alloc (.cells #[.int .i64 x.u.at_, x.q.val, .bool x.u.trim, .int .i64 x.u.to] 81)).heap.size, 0, none⟩) 0 0) ((w.drew.alloc (.cells #[.int .i64 x.u.at_, x.q.val, .bool x.u.trim, .int .i64 x.u.to] 81)).alloc (.cells #[] 81)) (by kernel_rfl) (by kernel_rfl) (by kernel_rfl) (Pl.zero 0 33 _ _ (by kernel_rfl) (build_ps0 (w.drew.alloc (.cells #[.int .i64 x.u.at_, x.q.val, .bool x.u.trim, .int .i64 x.u.to] 81)))) (hp.keep b20) ?_
      rw [Pl.upd_comm _ 42 37 _ _ (by decide)]
      refine Pl.H.one 2 (by kernel_rfl) ?_
      refine Pl.HOp.value 2 39 (.slice da dl dc) ((w.drew.alloc (.cells #[.int .i64 x.u.at_, x.q.val, .bool x.u.trim, .int .i64 x.u.to] 81)).alloc (.cells #[] 81)) (by kernel_rfl) (by kernel_rfl) (by kernel_rfl) (Pl.load1 2 33 (.tmp 38) _ (by kernel_rfl) (by decide) (load_ps p 6 da dl dc _ (hd.keep b20).c6)) (hp.keep b20) ?_
      rw [Pl.upd_comm _ 42 39 _ _ (by decide)]
      refine Pl.H.one 3 (by kernel_rfl) ?_
      obtain ⟨v22, w22, r22, o22, bb22, _, t22⟩ := run_append_parts ((w.drew.alloc (.cells #[.int .i64 x.u.at_, x.q.val, .bool x.u.trim, .int .i64 x.u.to] 81)).alloc (.cells #[] 81)) 33 w.heap.size (.slice (some ⟨(w.drew.alloc (.cells #[.int .i64 x.u.at_, x.q.val, .bool x.u.trim, .int .i64 x.u.to] 81)).heap.size, 0, none⟩) 0 0) [] o20 da dl dc l (hl.keep b20 (Nat.le_refl _)) hn (by simp; omega) b20.size
      rw [List.nil_append] at o22
      have b22 := b20.trans bb22
      have e22 := e20.stay (t22 _ (by simp <;> omega) (by simp [Value.ownBlock] <;> omega)) (fun i hi => by simp only [List.mem_singleton] at hi; rw [hi]; exact hx.keep b22 (Nat.le_refl _))
      refine Pl.HOp.value 3 40 v22 w22 (by kernel_rfl) (by kernel_rfl) (by kernel_rfl) (Pl.appT 3 33 33 (.tmp 37) (.tmp 39) _ _ (by kernel_rfl) (by kernel_rfl) (by decide) (by decide) r22) (hp.keep b22) ?_
      obtain ⟨vz, wz, rz, oz, bbz, _, _⟩ := run_append_parts w22 33 w.heap.size v22 l o22 _ 1 1 [x] e22 (fun h => by cases h) (by omega) b22.size
      have bz := b22.trans bbz
      refine Pl.H.make 6 43 vz wz (by kernel_rfl) (by kernel_rfl) (by kernel_rfl) (Pl.free 6 (by kernel_rfl)) (Pl.appT 6 33 33 (.tmp 40) (.tmp 42) _ _ (by kernel_rfl) (by kernel_rfl) (by decide) (by decide) rz) (hp.keep bz) ?_
      refine Pl.H.take 7 44 (.pointer (some ⟨p, 6, none⟩)) (by kernel_rfl) (by kernel_rfl) (by kernel_rfl) (Pl.free 7 (by kernel_rfl)) (Pl.field 7 35 (.tmp 2) 2 _ (by kernel_rfl) (by decide) (field_dv2 p)) (hp.keep bz) ?_
      refine Pl.H.store 8 (wz.setCell ⟨p, 6, none⟩ vz) (by kernel_rfl) (by kernel_rfl) (by kernel_rfl) (Pl.free 8 (by kernel_rfl)) (Pl.storeV 8 33 (.tmp 44) (.tmp 43) _ (by kernel_rfl) (by decide) (by decide) (store_psV p 6 vz _ oz.form wz (hd.keep bz).c6 ((hd.keep bz).fz 6))) ((hp.keep bz).off hgp _) ?_
      refine Pl.H.done (by kernel_rfl) (fun A' hA' => ?_)
      rw [Pl.At.ext hA' ((((((((hA.put 38 _).put 41 _).put 37 _).put 39 _).put 42 _).put 40 _).put 43 _).put 44 _)]
      exact hend (fun d => if d = 38 then .pointer (some ⟨p, 6, none⟩) else if d = 41 then x.u.val x.q else if d = 37 then (.slice (some ⟨(w.drew.alloc (.cells #[.int .i64 x.u.at_, x.q.val, .bool x.u.trim, .int .i64 x.u.to] 81)).heap.size, 0, none⟩) 0 0) else if d = 39 then .slice da dl dc else if d = 42 then (.slice (some ⟨w.drew.heap.size, 0, none⟩) 1 1) else if d = 40 then v22 else if d = 43 then vz else if d = 44 then .pointer (some ⟨p, 6, none⟩) else undef) _ _ oz bz
    · refine Pl.HOp.value 2 39 (.slice da dl dc) (w.drew.alloc (.cells #[.int .i64 x.u.at_, x.q.val, .bool x.u.trim, .int .i64 x.u.to] 81)) (by kernel_rfl) (by kernel_rfl) (by kernel_rfl) (Pl.load1 2 33 (.tmp 38) _ (by kernel_rfl) (by decide) (load_ps p 6 da dl dc _ (hd.keep b19).c6)) (hp.keep b19) ?_
      rw [Pl.upd_comm _ 42 39 _ _ (by decide)]
      refine Pl.H.one 0 (by kernel_rfl) ?_
      have b24 : Below w.heap.size w ((w.drew.alloc (.cells #[.int .i64 x.u.at_, x.q.val, .bool x.u.trim, .int .i64 x.u.to] 81)).alloc (.cells #[] 81)) := b19.alloc b19.size _
      have o24 : OwnsP ((w.drew.alloc (.cells #[.int .i64 x.u.at_, x.q.val, .bool x.u.trim, .int .i64 x.u.to] 81)).alloc (.cells #[] 81)) w.heap.size (.slice (some ⟨(w.drew.alloc (.cells #[.int .i64 x.u.at_, x.q.val, .bool x.u.trim, .int .i64 x.u.to] 81)).heap.size, 0, none⟩) 0 0) [] := OwnsP.new' _ _ b19.size
      have e24 := e19.keep (below_alloc (w.drew.alloc (.cells #[.int .i64 x.u.at_, x.q.val, .bool x.u.trim, .int .i64 x.u.to] 81)) (.cells #[] 81)) (Nat.le_refl _)
      refine Pl.HOp.value 0 37 (.slice (some ⟨(w.drew.alloc (.cells #[.int .i64 x.u.at_, x.q.val, .bool x.u.trim, .int .i64 x.u.to] 81)).heap.size, 0, none⟩) 0 0) ((w.drew.alloc (.cells #[.int .i64 x.u.at_, x.q.val, .bool x.u.trim, .int .i64 x.u.to] 81)).alloc (.cells #[] 81)) (by kernel_rfl) (by kernel_rfl) (by kernel_rfl) (Pl.zero 0 33 _ _ (by kernel_rfl) (build_ps0 (w.drew.alloc (.cells #[.int .i64 x.u.at_, x.q.val, .bool x.u.trim, .int .i64 x.u.to] 81)))) (hp.keep b24) ?_
      rw [Pl.upd_comm _ 42 37 _ _ (by decide)]
      rw [Pl.upd_comm _ 39 37 _ _ (by decide)]
      refine Pl.H.one 3 (by kernel_rfl) ?_
      obtain ⟨v25, w25, r25, o25, bb25, _, t25⟩ := run_append_parts ((w.drew.alloc (.cells #[.int .i64 x.u.at_, x.q.val, .bool x.u.trim, .int .i64 x.u.to] 81)).alloc (.cells #[] 81)) 33 w.heap.size (.slice (some ⟨(w.drew.alloc (.cells #[.int .i64 x.u.at_, x.q.val, .bool x.u.trim, .int .i64 x.u.to] 81)).heap.size, 0, none⟩) 0 0) [] o24 da dl dc l (hl.keep b24 (Nat.le_refl _)) hn (by simp; omega) b24.size
      rw [List.nil_append] at o25
      have b25 := b24.trans bb25
      have e25 := e24.stay (t25 _ (by simp <;> omega) (by simp [Value.ownBlock] <;> omega)) (fun i hi => by simp only [List.mem_singleton] at hi; rw [hi]; exact hx.keep b25 (Nat.le_refl _))
      refine Pl.HOp.value 3 40 v25 w25 (by kernel_rfl) (by kernel_rfl) (by kernel_rfl) (Pl.appT 3 33 33 (.tmp 37) (.tmp 39) _ _ (by kernel_rfl) (by kernel_rfl) (by decide) (by decide) r25) (hp.keep b25) ?_
      obtain ⟨vz, wz, rz, oz, bbz, _, _⟩ := run_append_parts w25 33 w.heap.size v25 l o25 _ 1 1 [x] e25 (fun h => by cases h) (by omega) b25.size
      have bz := b25.trans bbz
      refine Pl.H.make 6 43 vz wz (by kernel_rfl) (by kernel_rfl) (by kernel_rfl) (Pl.free 6 (by kernel_rfl)) (Pl.appT 6 33 33 (.tmp 40) (.tmp 42) _ _ (by kernel_rfl) (by kernel_rfl) (by decide) (by decide) rz) (hp.keep bz) ?_
      refine Pl.H.take 7 44 (.pointer (some ⟨p, 6, none⟩)) (by kernel_rfl) (by kernel_rfl) (by kernel_rfl) (Pl.free 7 (by kernel_rfl)) (Pl.field 7 35 (.tmp 2) 2 _ (by kernel_rfl) (by decide) (field_dv2 p)) (hp.keep bz) ?_
      refine Pl.H.store 8 (wz.setCell ⟨p, 6, none⟩ vz) (by kernel_rfl) (by kernel_rfl) (by kernel_rfl) (Pl.free 8 (by kernel_rfl)) (Pl.storeV 8 33 (.tmp 44) (.tmp 43) _ (by kernel_rfl) (by decide) (by decide) (store_psV p 6 vz _ oz.form wz (hd.keep bz).c6 ((hd.keep bz).fz 6))) ((hp.keep bz).off hgp _) ?_
      refine Pl.H.done (by kernel_rfl) (fun A' hA' => ?_)
      rw [Pl.At.ext hA' ((((((((hA.put 38 _).put 41 _).put 37 _).put 39 _).put 42 _).put 40 _).put 43 _).put 44 _)]
      exact hend (fun d => if d = 38 then .pointer (some ⟨p, 6, none⟩) else if d = 41 then x.u.val x.q else if d = 37 then (.slice (some ⟨(w.drew.alloc (.cells #[.int .i64 x.u.at_, x.q.val, .bool x.u.trim, .int .i64 x.u.to] 81)).heap.size, 0, none⟩) 0 0) else if d = 39 then .slice da dl dc else if d = 42 then (.slice (some ⟨w.drew.heap.size, 0, none⟩) 1 1) else if d = 40 then v25 else if d = 43 then vz else if d = 44 then .pointer (some ⟨p, 6, none⟩) else undef) _ _ oz bz

end Go.Proofs.Ytokdeilcfkobfaa
