/-
  The document's device: a disk behind a part.
-/
import Derived.Test.YtokdeilcfkobfaaDevA
namespace Go.Proofs.Ytokdeilcfkobfaa
open Go.RowKit
variable {K : Home}

/-- A part of a slice, from a place on. -/
def Sl.from_ (s : Sl) (k : Nat) : Sl := ⟨fromA s.a s.cap k, s.len - k, s.cap - k⟩

theorem BsS.from_ {w : World} {s : Sl} {xs : List Nat} {k : Nat} (h : BsS K w s xs) (hk : k ≤ s.len) : BsS K w (s.from_ k) (xs.drop k) := by
  refine ⟨⟨h.bs.from hk h.le, ?_, by have := h.le; show s.len - k ≤ s.cap - k; omega, by have := h.big; show s.len - k ≤ _; omega⟩, h.low, fun h0 ad ha => ?_⟩
  rotate_left
  · have h0' : 0 < s.len := by have : 0 < s.len - k := h0; omega
    have ha' : fromA s.a s.cap k = some ad := ha
    unfold fromA at ha'
    split at ha'
    · exact h.home h0' ad ha'
    · cases hs : s.a with
      | none => rw [hs] at ha'; cases ha'
      | some x =>
        rw [hs] at ha'
        have := h.home h0' x hs
        simp only [Option.map_some, Option.some.injEq] at ha'
        rw [← ha']
        unfold Addr.add
        split <;> exact this
  intro e
  show s.cap - k = 0
  have e' : fromA s.a s.cap k = none := e
  unfold fromA at e'
  split at e'
  · omega
  · cases ha : s.a with
    | none => have := h.nil ha; omega
    | some x => rw [ha] at e'; simp at e'

/-- A part in a block of its own. -/
def PtBlk (w : World) (p : Nat) (a : Int) (x : Value) (t : Bool) (o : Int) : Prop := w.heap[p]? = some (Obj.cells #[.int .i64 a, x, .bool t, .int .i64 o] 81 (0, 0))
theorem PtBlk.keep {w w' : World} {p : Nat} {a o : Int} {x : Value} {t : Bool} (h : PtBlk w p a x t o) (hb : Below w.heap.size w w') : PtBlk w' p a x t o := (hb.block p (Array.getElem?_eq_some_iff.1 h).1).trans h
theorem PtBlk.c0 {w : World} {p : Nat} {a o : Int} {x : Value} {t : Bool} (h : PtBlk w p a x t o) : w.cell? ⟨p, 0, none⟩ = some (.int .i64 a) := by unfold PtBlk at h; simp [World.cell?, h]
theorem PtBlk.c1 {w : World} {p : Nat} {a o : Int} {x : Value} {t : Bool} (h : PtBlk w p a x t o) : w.cell? ⟨p, 1, none⟩ = some x := by unfold PtBlk at h; simp [World.cell?, h]
theorem PtBlk.c2 {w : World} {p : Nat} {a o : Int} {x : Value} {t : Bool} (h : PtBlk w p a x t o) : w.cell? ⟨p, 2, none⟩ = some (.bool t) := by unfold PtBlk at h; simp [World.cell?, h]
theorem PtBlk.c3 {w : World} {p : Nat} {a o : Int} {x : Value} {t : Bool} (h : PtBlk w p a x t o) : w.cell? ⟨p, 3, none⟩ = some (.int .i64 o) := by unfold PtBlk at h; simp [World.cell?, h]
theorem PtBlk.fz {w : World} {p : Nat} {a o : Int} {x : Value} {t : Bool} (h : PtBlk w p a x t o) (k : Nat) : w.frozen? ⟨p, k, none⟩ = false := frozen_of_row w p _ _ 81 h
theorem ptBlk_new (w : World) (a : Int) (x : Value) (t : Bool) (o : Int) : PtBlk (w.alloc (.cells #[.int .i64 a, x, .bool t, .int .i64 o] 81)) w.heap.size a x t o := heap_alloc_new w _

set_option maxHeartbeats 2000000 in
set_option maxRecDepth 100000 in
theorem turn_trim (d : Dk) (p s : Sl) (u : Pt) (q : Sl) (k : Nat) (w : World) (h : DkIn K w d p s) (ha : u.at_ < 0) (ht : u.trim = true) (hk : u.to - d.base = (k : Nat)) (hl : k ≤ s.len) (hto : (Lit.int .i64 u.to).wf = true) :
    Calls Try.prog 41 #[d.val p s, u.val q] w fun e w' => Below w.heap.size w w' ∧ ∃ p' s', e = .returned (Dk.val ⟨d.pg, u.to, d.st.drop k⟩ p' s') ∧ DkIn K w' ⟨d.pg, u.to, d.st.drop k⟩ p' s' := by
  obtain ⟨pg, base, st⟩ := d
  obtain ⟨at_, b, trim, to⟩ := u
  obtain ⟨pa, pl, pc⟩ := p
  obtain ⟨sa, sl, sc⟩ := s
  obtain ⟨qa, ql, qc⟩ := q
  simp only at h ha ht hk hl hto ⊢
  subst ht
  have hbig := h.st.big
  simp only at hbig
  have hwr : IntKind.i64.wrap (to - base) = ((k : Nat) : Int) := by rw [hk, IntKind.wrap_i64]; omega
  have hsl := slice_from sa sl sc k hl
  have H := hide h
  have ha' : ¬ (0 : Int) ≤ at_ := by omega
  clear h hk
  have HB : Hid (DkBlk (((w.alloc (.cells #[.slice pa pl pc, .int .i64 to, .slice (fromA sa sc k) (sl - k) (sc - k)] 32)).alloc (.cells #[.int .i64 at_, .slice qa ql qc, .bool true, .int .i64 to] 81)).alloc (.cells #[.slice pa pl pc, .int .i64 to, .slice (fromA sa sc k) (sl - k) (sc - k)] 32)) (w.heap.size + 1 + 1) (.slice pa pl pc) to (.slice (fromA sa sc k) (sl - k) (sc - k))) := by
    have := dkBlk_new ((w.alloc (.cells #[.slice pa pl pc, .int .i64 to, .slice (fromA sa sc k) (sl - k) (sc - k)] 32)).alloc (.cells #[.int .i64 at_, .slice qa ql qc, .bool true, .int .i64 to] 81)) (.slice pa pl pc) to (.slice (fromA sa sc k) (sl - k) (sc - k))
    exact hide (by simpa using this)
  have HW := hide (rBelow (below_two w (.cells #[.slice pa pl pc, .int .i64 to, .slice (fromA sa sc k) (sl - k) (sc - k)] 32) (.cells #[.int .i64 at_, .slice qa ql qc, .bool true, .int .i64 to] 81)) (below_alloc _ (.cells #[.slice pa pl pc, .int .i64 to, .slice (fromA sa sc k) (sl - k) (sc - k)] 32)))
  unfold Dk.val Pt.val Sl.val
  simp only
  go_enter Try.func41, Try.ntmps41
  go_wp2_with fail
  refine bodyPost_ret (dk_results (d := ⟨pg, to, st.drop k⟩) (p := ⟨pa, pl, pc⟩) (s := Sl.from_ ⟨sa, sl, sc⟩ k) rfl HB.out _ rfl) rfl ?_
  exact ⟨HW.out, _, _, rfl, H.out.pg.keep HW.out (Nat.le_refl _), (H.out.st.from_ hl).keep HW.out (Nat.le_refl _)⟩

end Go.Proofs.Ytokdeilcfkobfaa
