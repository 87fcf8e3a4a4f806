/-
  Layer 13: what stands between two rounds of the law of what was turned last.
  Layer 13: the walk of the law of what was turned last.
-/
import Derived.Test.YtpggkfdnpdhkfaaGreatMc
import Derived.Test.YtpggkfdnpdhkfaaGreatRe
namespace Go.Proofs.YtpggkfdnpdhkfaaGreat
open Go.RowKit
set_option maxRecDepth 100000
set_option linter.unusedVariables false

def pgs (f : Nat → List Nat) : Nat → Nat → List Im
  | 0, _ => []
  | n + 1, s => ⟨((s : Nat) : Int), f s⟩ :: pgs f n (s + 1)
theorem pgs_at {f h : Nat → List Nat} : ∀ (n s : Nat), (∀ k, s ≤ k → k < s + n → f k = h k) → pgs f n s = pgs h n s
  | 0, _, _ => rfl
  | n + 1, s, e => by
    show _ :: _ = _ :: _
    rw [e s (Nat.le_refl _) (by omega), pgs_at n (s + 1) (fun k h1 h2 => e k (by omega) (by omega))]
theorem pgs_len (f : Nat → List Nat) : ∀ n s, (pgs f n s).length = n
  | 0, _ => rfl
  | n + 1, s => by show (pgs f n (s + 1)).length + 1 = _; rw [pgs_len f n]
theorem pgs_ge {f : Nat → List Nat} : ∀ (n s : Nat) (y : Im), y ∈ pgs f n s → ((s : Nat) : Int) ≤ y.page
  | 0, _, y, h => by cases h
  | n + 1, s, y, h => by
    rcases List.mem_cons.1 h with rfl | h
    · exact Int.le_refl _
    · have := pgs_ge n (s + 1) y h
      omega
theorem pgs_steep (f : Nat → List Nat) : ∀ n s, Ap.Steep Im.page (pgs f n s)
  | 0, _ => trivial
  | n + 1, s => ⟨fun y hy => by have := pgs_ge n (s + 1) y hy; show ((s : Nat) : Int) < _; omega, pgs_steep f n (s + 1)⟩
theorem pgs_get (f : Nat → List Nat) : ∀ (n s k : Nat), k < n → (pgs f n s).getD k Im.zero = ⟨((s + k : Nat) : Int), f (s + k)⟩
  | 0, _, _, h => absurd h (Nat.not_lt_zero _)
  | n + 1, s, 0, _ => rfl
  | n + 1, s, k + 1, h => by
    have := pgs_get f n (s + 1) k (by omega)
    show (pgs f n (s + 1)).getD k Im.zero = _
    rw [this, show s + 1 + k = s + (k + 1) by omega]
theorem pgs_put (f : Nat → List Nat) (x : Im) : ∀ (n s : Nat), ((s : Nat) : Int) ≤ x.page → x.page < ((s + n : Nat) : Int) → Ap.put Im.page (pgs f n s) x = pgs (updI f x) n s
  | 0, s, h1, h2 => by omega
  | n + 1, s, h1, h2 => by
    show (if x.page ≤ ((s : Nat) : Int) then (if ((s : Nat) : Int) = x.page then x :: pgs f n (s + 1) else _) else (⟨((s : Nat) : Int), f s⟩ : Im) :: Ap.put Im.page (pgs f n (s + 1)) x) = (⟨((s : Nat) : Int), updI f x s⟩ : Im) :: pgs (updI f x) n (s + 1)
    by_cases e : x.page = ((s : Nat) : Int)
    · rw [if_pos (by omega), if_pos e.symm]
      have e1 : updI f x s = x.bs := by unfold updI; rw [if_pos e]
      rw [e1, pgs_at n (s + 1) (f := updI f x) (h := f) (fun k h3 _ => by unfold updI; rw [if_neg (by omega)]), ← e]
    · rw [if_neg (by omega), pgs_put f x n (s + 1) (by omega) (by omega)]
      have e1 : updI f x s = f s := by unfold updI; rw [if_neg e]
      rw [e1]
theorem pgs_fold {n : Nat} : ∀ (g : List Im) (f : Nat → List Nat), (∀ x ∈ g, 0 ≤ x.page ∧ x.page < ((n : Nat) : Int)) → g.foldl (Ap.put Im.page) (pgs f n 0) = pgs (upd f g) n 0
  | [], f, _ => rfl
  | x :: g, f, h => by
    rw [List.foldl_cons, pgs_put f x n 0 (h x (by simp)).1 (by have := (h x (by simp)).2; omega)]
    exact pgs_fold g (updI f x) (fun y hy => h y (by simp [hy]))
/-- A group whose last page is there has all of them there. -/
theorem may_pages {g : List Im} (h : May g) {n : Nat} (hl : (g.getD (g.length - 1) Im.zero).page < ((n : Nat) : Int)) : ∀ x ∈ g, 0 ≤ x.page ∧ x.page < ((n : Nat) : Int) := by
  have key : ∀ d i, i + d + 1 = g.length → (g.getD i Im.zero).page ≤ (g.getD (g.length - 1) Im.zero).page := by
    intro d
    induction d with
    | zero => intro i hi; rw [show g.length - 1 = i by omega]; exact Int.le_refl _
    | succ d ih =>
      intro i hi
      have h1 := ih (i + 1) (by omega)
      have h2 := (h.2.2 (i + 1) (by omega)).2.1
      unfold prevP at h2
      rw [if_neg (by omega), Nat.add_sub_cancel] at h2
      omega
  intro x hx
  obtain ⟨i, hi, rfl⟩ := List.mem_iff_getElem.1 hx
  have e : g.getD i Im.zero = g[i] := by simp [List.getD, hi]
  have h1 := key (g.length - 1 - i) i (by omega)
  have h2 := (h.2.2 i hi).1
  rw [e] at h1 h2
  exact ⟨h2, by omega⟩
theorem applyE_zero {P : Po} {n : Nat} {g : List Im} (h : P.applyE n g = 0) : May g ∧ (∀ x ∈ g, 0 ≤ x.page ∧ x.page < ((n : Nat) : Int)) ∧ P.D.ss.length + (recd g).length ≤ 65536 := by
  unfold Po.applyE at h
  by_cases hm : May g
  · rw [if_neg (not_not_intro hm)] at h
    by_cases h2 : ((n : Nat) : Int) ≤ (g.getD (g.length - 1) Im.zero).page
    · rw [if_pos h2] at h
      cases h
    · rw [if_neg h2] at h
      by_cases h3 : 65536 < P.D.ss.length + (recd g).length
      · rw [if_pos h3] at h
        cases h
      · exact ⟨hm, may_pages hm (by omega), by omega⟩
  · rw [if_pos hm] at h
    cases h

/-- The pages now, in images that are apart from the Mtr. -/
def LI (M : PoM) (w wr : World) (m p d : Nat) (c s : Nat) (v : Sl) : Prop := ∃ (A : Nat → Prop) (P : Po) (l : List Ix), OM M A w wr m p d P ∧ P.Fine 4 c ∧ P.D.sb ≤ s ∧ Gr A wr v l ∧ ims l = pgs P.con 4 0
section
variable {M : PoM} {w wr : World} {m p d c s : Nat} {v : Sl}
theorem LI.below (h : LI M w wr m p d c s v) : Below w.heap.size w wr := by
  obtain ⟨A, P, l, h, _⟩ := h
  exact h.below
theorem LI.more (h : LI M w wr m p d c s v) {c' s' : Nat} (h1 : c ≤ c') (h2 : s ≤ s') (h3 : c' ≤ 9000) : LI M w wr m p d c' s' v := by
  obtain ⟨A, P, l, o, f, b, g, e⟩ := h
  exact ⟨A, P, l, o, f.more h1 h3, Nat.le_trans b h2, g, e⟩
theorem LI.keep (S : PoolS M) (h : LI M w wr m p d c s v) {w' : World} (hb : Below wr.heap.size wr w') : LI M w w' m p d c s v := by
  obtain ⟨A, P, l, o, f, b, g, e⟩ := h
  exact ⟨A, P, l, o.keep S hb, f, b, g.below hb (Nat.le_refl _), e⟩
end
end Go.Proofs.YtpggkfdnpdhkfaaGreat

namespace Go.Proofs.YtpggkfdnpdhkfaaGreat
open Go.RowKit
set_option maxRecDepth 100000
set_option linter.unusedVariables false

theorem upd_zero (n k : Nat) (hk : k < n) : (Ds.new n).page k = List.replicate 512 0 := by
  show ((List.replicate (512 * n) 0).drop (512 * k)).take 512 = _
  rw [List.drop_replicate, List.take_replicate, show min 512 (512 * n - 512 * k) = 512 by omega]
theorem opened_new {n f : Nat} (hn1 : 1 ≤ n) (hn2 : n ≤ 64) (h1 : 1 ≤ f) (h2 : f ≤ 64) : (Po.opened (Ds.new n) n f).Fine n (512 + 4 * n) ∧ (Po.opened (Ds.new n) n f).D.ss = [] ∧ (Po.opened (Ds.new n) n f).D.sb = 0 ∧ ∀ k, k < n → (Po.opened (Ds.new n) n f).con k = List.replicate 512 0 := by
  have hE := Ds.Easy.new hn1 hn2
  obtain ⟨q1, q2, q3⟩ := opened_ss (f := f) hE (fun x hx => by cases hx) (by show (0 : Nat) ≤ _; omega) (by omega) h1 h2 (by show 0 + 65536 ≤ _; omega)
  refine ⟨q3.more (by omega) (by omega), q1, q2, fun k hk => ?_⟩
  rw [opened_con (f := f) hE (fun x hx => by cases hx) (by show (0 : Nat) ≤ _; omega) (by omega) h1 h2 (by show 0 + 65536 ≤ _; omega) (gs := []) (t := []) (fun g hg => by cases hg) dec_nil rfl k hk]
  exact upd_zero n k hk
/-- The first pages, that are noughts, in images. -/
def ZI (w2 wr : World) (v : Sl) (l : List Ix) (k : Nat) : Prop := GI (fun i => w2.heap.size ≤ i) w2.heap.size wr v l ∧ ims l = pgs (fun _ => List.replicate 512 0) k 0 ∧ Below w2.heap.size w2 wr
theorem pgs_snoc (f : Nat → List Nat) : ∀ n s, pgs f (n + 1) s = pgs f n s ++ [⟨((s + n : Nat) : Int), f (s + n)⟩]
  | 0, s => rfl
  | n + 1, s => by
    show (⟨((s : Nat) : Int), f s⟩ : Im) :: pgs f (n + 1) (s + 1) = (⟨((s : Nat) : Int), f s⟩ : Im) :: (pgs f n (s + 1) ++ _)
    rw [pgs_snoc f n (s + 1), show s + 1 + n = s + (n + 1) by omega]
theorem zi_step {w2 wr w' : World} {v v' : Sl} {l : List Ix} {k : Nat} (hz : ZI w2 wr v l k) {C : Obj} (hC : C = .cells (vals (List.replicate 512 0)).toArray 5) (ho : OwnI w' v' (l ++ [⟨((k : Nat) : Int), ⟨some ⟨wr.heap.size, 0, none⟩, 512, 512⟩, List.replicate 512 0⟩])) (hf : Frm (fun i => v.blk = some i) (wr.alloc C) w') (hb : v'.blk = v.blk ∨ ∃ i, v'.blk = some i ∧ (wr.alloc C).heap.size ≤ i) : ZI w2 w' v' (l ++ [⟨((k : Nat) : Int), ⟨some ⟨wr.heap.size, 0, none⟩, 512, 512⟩, List.replicate 512 0⟩]) (k + 1) := by
  have hA := below_alloc wr C
  have h1 := hz.1.keep hA
  have hs := hz.2.2.size
  have hcm : Cm (fun i => w2.heap.size ≤ i ∧ v.blk ≠ some i) (wr.alloc C) ⟨some ⟨wr.heap.size, 0, none⟩, 512, 512⟩ (List.replicate 512 0) := by
    refine Own.cm _ ?_ (bytes_zero 512) (fun i hi => ?_)
    · rw [hC]
      exact own_made wr 512 (by omega) (List.replicate 512 0) List.length_replicate
    · have e : i = wr.heap.size := by simpa [Sl.blk] using hi.symm
      rw [e]
      exact ⟨hs, fun e2 => by have := hz.1.own.lt e2; omega⟩
  obtain ⟨q1, q2⟩ := h1.add hcm ho hf hb (Nat.le_trans hs hA.size)
  refine ⟨q1, ?_, (hz.2.2.trans (hA.mono hs)).trans q2⟩
  rw [ims_append, hz.2.1, pgs_snoc, Nat.zero_add]
  rfl

end Go.Proofs.YtpggkfdnpdhkfaaGreat
