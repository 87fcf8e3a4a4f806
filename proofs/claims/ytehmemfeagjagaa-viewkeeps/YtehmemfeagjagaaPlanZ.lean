/-
  A statement that leaves its order open, and stores at its end into what it has read: the condition on the worlds is asked ahead of the store alone. No program is named here.
-/
import Derived.Test.YtehmemfeagjagaaPlanF
namespace Go.Proofs.Ytehmemfeagjagaa

namespace Pz
open Pl
section
variable {P : Program} {ops : Array Oper} {S : World → Prop} {Q : Exit → Act → World → Prop} {z n fuel : Nat} {listed : Array Bool} {f : Nat → Value} {w : World}

/-- Whatever order is picked from here on; S holds behind each operation but z. -/
def Ahead (P : Program) (ops : Array Oper) (Q : Exit → Act → World → Prop) (S : World → Prop) (z : Nat) : Nat → Array Bool → Act → World → Prop
  | 0, l, a, w => Region.ready .any ops l = [] ∧ Q .normal a w
  | k + 1, l, a, w => (Region.ready .any ops l = [] → Q .normal a w) ∧ ∀ i ∈ Region.ready .any ops l, wpOp P ops Q i (fun b x => (i ≠ z → S x) ∧ Ahead P ops Q S z k (l.setIfInBounds i true) b x) a w

theorem Ahead.any : ∀ (k : Nat) (l : Array Bool) (a : Act) (w : World), Ahead P ops Q S z k l a w → wpAny P .any ops Q k l a w
  | 0, _, _, _, h => h
  | k + 1, _, _, _, h => ⟨h.1, fun i hi => wpOp_mono (fun b x hb => Ahead.any k _ b x hb.2) (h.2 i hi)⟩

/-- z waits for i. -/
def waits (ops : Array Oper) (z i : Nat) : Bool := (op ops z).after.any fun e => Region.binds .any e && e.on == i

/-- What is pending is not listed, so z is not ready. -/
theorem not_z {i j : Nat} {l : Array Bool} (hz : ops[z]? = some (op ops z)) (hw : waits ops z i = true) (hi : i ∈ Region.ready .any ops l) (hj : j ∈ Region.ready .any ops l) : j ≠ z := by
  rintro rfl
  unfold waits at hw
  rw [Array.any_eq_true] at hw
  obtain ⟨k, hk, he⟩ := hw
  simp only [Bool.and_eq_true, beq_iff_eq] at he
  obtain ⟨_, o, ho, hall⟩ := mem_ready.1 hj
  rw [hz] at ho
  cases ho
  have h1 := hall _ (Array.getElem_mem hk) he.1
  rw [he.2] at h1
  have h0 := (mem_ready.1 hi).1
  rcases Nat.lt_or_ge i l.size with h | h
  · simp [h] at h0 h1
    rw [h0] at h1
    cases h1
  · simp [Array.getElem?_eq_none h] at h1

/-- What is pending and only reads may be read at once. -/
theorem Ahead.early {i : Nat} {v : Value} (hi : ops[i]? = some (op ops i)) (hz : ops[z]? = some (op ops z)) (hw : waits ops z i = true) (hsel : ∀ (j : Nat) (o : Oper) cs b, ops[j]? = some o → o.op ≠ .select cs b)
    (hQ : ∀ c a w, Q (.panic c) (a.put (op ops i).dst v) w → Q (.panic c) a w) :
    ∀ (k : Nat) (l : Array Bool) (a : Act) (w : World), (∀ j o, ops[j]? = some o → j ≠ i → l.getD j true = false → (∀ e ∈ o.after, Region.binds .any e = true → e.on ≠ i) → (op ops i).apart ops o = true) →
      i ∈ Region.ready .any ops l → YieldsIf P ops S (op ops i) v a → S w → Ahead P ops Q S z k (l.setIfInBounds i true) (a.put (op ops i).dst v) w → Ahead P ops Q S z (k + 1) l a w := by
  intro k
  induction k with
  | zero =>
    intro l a w _ hr hy hS h
    constructor
    · intro e; rw [e] at hr; cases hr
    · intro j hj
      by_cases e : j = i
      · rw [e]; exact hy.wpOp hi hS ⟨fun _ => hS, h⟩
      · exact absurd (ready_mono hj e) (by rw [h.1]; exact List.not_mem_nil)
  | succ k ih =>
    intro l a w hap hr hy hS h
    constructor
    · intro e; rw [e] at hr; cases hr
    · intro j hj
      by_cases e : j = i
      · rw [e]; exact hy.wpOp hi hS ⟨fun _ => hS, h⟩
      · have hjz := not_z hz hw hr hj
        obtain ⟨hun, oj, hoj, hall⟩ := mem_ready.1 hj
        have hno : ∀ x ∈ oj.after, Region.binds .any x = true → x.on ≠ i := by
          intro x hx hb hxi
          have h1 := hall x hx hb
          have h0 := (mem_ready.1 hr).1
          rw [hxi] at h1
          rcases Nat.lt_or_ge i l.size with hl | hl
          · simp [hl] at h0 h1
            rw [h0] at h1
            cases h1
          · simp [Array.getElem?_eq_none hl] at h1
        refine wpOp_mono ?_ (wpOp_putIf hoj (hap j oj hoj e hun hno) (fun cs b => hsel i _ cs b hi) (fun cs b => hsel j oj cs b hoj) hQ hy (h.2 j (ready_mono hj e)))
        intro b x hb
        refine ⟨fun _ => hb.2.1 hjz, ih _ b x ?_ (ready_mono hr (fun y => e y.symm)) hb.1 (hb.2.1 hjz) (by rw [Array.setIfInBounds_comm _ _ e]; exact hb.2.2)⟩
        intro m o ho hmi hmu hmo
        refine hap m o ho hmi ?_ hmo
        by_cases hjm : j = m
        · rw [← hjm]; exact hun
        · rwa [getD_set_ne true hjm] at hmu

/-- From here on, whatever order is picked. -/
def H (P : Program) (ops : Array Oper) (S : World → Prop) (Q : Exit → Act → World → Prop) (z n fuel : Nat) (listed : Array Bool) (f : Nat → Value) (w : World) : Prop :=
  ∀ A, At n A f → Ahead P ops (NoPanic Q) S z fuel listed A w
def HOp (P : Program) (ops : Array Oper) (S : World → Prop) (Q : Exit → Act → World → Prop) (z n fuel : Nat) (listed : Array Bool) (f : Nat → Value) (w : World) (i : Nat) : Prop :=
  ∀ A, At n A f → wpOp P ops (NoPanic Q) i (fun b x => (i ≠ z → S x) ∧ Ahead P ops (NoPanic Q) S z fuel (listed.setIfInBounds i true) b x) A w

theorem H.start (z : Nat) {id : Nat} {A : Act} (hm : P.follows .mixedOrders = true) (hA : At n A f) (h : H P ops S Q z n ops.size (Array.replicate ops.size false) f w.drew) : (Code.region id ops true).wp P Q A w :=
  wp_region_noPanic (wp_region_any hm (Ahead.any _ _ _ _ (h A hA)))

theorem H.done (hr : Region.ready .any ops listed = []) (h : ∀ A, At n A f → Q .normal A w) : H P ops S Q z n fuel listed f w := by
  intro A hA
  cases fuel with
  | zero => exact ⟨hr, NoPanic.normal (h A hA)⟩
  | succ k => exact ⟨fun _ => NoPanic.normal (h A hA), fun i hi => by rw [hr] at hi; cases hi⟩

theorem H.take (i d : Nat) (v : Value) (hi : ops[i]? = some (op ops i)) (hd : (op ops i).dst = some d) (hc : first ops listed i = true) (hzz : (ops[z]?.isSome && waits ops z i) = true)
    (hw : ∀ A, At n A f → Region.wanted (op ops i) (yielded ops A.tmps) = true)
    (hy : ∀ A, At n A f → ∀ w, S w → (execOp A.eval (op ops i)).run P w = .ok (.value v) w) (hS : S w)
    (h : H P ops S Q z n fuel (listed.setIfInBounds i true) (upd f d v) w) : H P ops S Q z n (fuel + 1) listed f w := by
  intro A hA
  simp only [first, Bool.and_eq_true] at hc hzz
  have hz : ops[z]? = some (op ops z) := by
    obtain ⟨o, ho⟩ := Option.isSome_iff_exists.1 hzz.1
    rw [ho]
    simp [op, ho]
  refine Ahead.early (v := v) hi hz hzz.2 (Region.noSelect_spec hc.1.1) (fun _ _ _ h => h) fuel listed A w (Region.free_spec hi hc.1.2) (by simpa using hc.2) (.inl ⟨hw A hA, hy A hA⟩) hS (h _ ?_)
  rw [hd]
  exact hA.put d v

theorem H.one (i : Nat) (hr : Region.ready .any ops listed = [i]) (h : HOp P ops S Q z n fuel listed f w i) : H P ops S Q z n (fuel + 1) listed f w := by
  intro A hA
  refine ⟨fun e => (by rw [hr] at e; cases e), fun j hj => ?_⟩
  rw [hr] at hj
  obtain rfl : j = i := by simpa using hj
  exact h A hA
theorem H.two (i k : Nat) (hr : Region.ready .any ops listed = [i, k]) (h : HOp P ops S Q z n fuel listed f w i) (h2 : HOp P ops S Q z n fuel listed f w k) : H P ops S Q z n (fuel + 1) listed f w := by
  intro A hA
  refine ⟨fun e => (by rw [hr] at e; cases e), fun j hj => ?_⟩
  rw [hr] at hj
  have : j = i ∨ j = k := by simpa using hj
  rcases this with rfl | rfl
  · exact h A hA
  · exact h2 A hA
theorem HOp.value (i d : Nat) (v : Value) (w' : World) (hi : ops[i]? = some (op ops i)) (hd : (op ops i).dst = some d) (hg : (op ops i).guard = none)
    (hy : ∀ A, At n A f → (execOp A.eval (op ops i)).run P w = .ok (.value v) w') (hS : S w')
    (h : H P ops S Q z n fuel (listed.setIfInBounds i true) (upd f d v) w') : HOp P ops S Q z n fuel listed f w i := by
  intro A hA
  unfold wpOp
  rw [hi]
  simp only [Pl.free (n := n) (f := f) i hg A hA, if_true]
  refine .inl ?_
  unfold Oper.wp
  rw [hy A hA]
  refine ⟨fun _ => hS, h _ ?_⟩
  rw [hd]
  exact hA.put d v
theorem H.make (i d : Nat) (v : Value) (w' : World) (hi : ops[i]? = some (op ops i)) (hd : (op ops i).dst = some d) (hr : Region.ready .any ops listed = [i])
    (hw : ∀ A, At n A f → Region.wanted (op ops i) (yielded ops A.tmps) = true)
    (hy : ∀ A, At n A f → (execOp A.eval (op ops i)).run P w = .ok (.value v) w') (hS : S w')
    (h : H P ops S Q z n fuel (listed.setIfInBounds i true) (upd f d v) w') : H P ops S Q z n (fuel + 1) listed f w := by
  refine H.one i hr fun A hA => ?_
  unfold wpOp
  rw [hi]
  simp only [hw A hA, if_true]
  refine .inl ?_
  unfold Oper.wp
  rw [hy A hA]
  refine ⟨fun _ => hS, h _ ?_⟩
  rw [hd]
  exact hA.put d v
/-- The store itself. -/
theorem H.store (w' : World) (hi : ops[z]? = some (op ops z)) (hd : (op ops z).dst = none) (hr : Region.ready .any ops listed = [z])
    (hw : ∀ A, At n A f → Region.wanted (op ops z) (yielded ops A.tmps) = true)
    (hy : ∀ A, At n A f → (execOp A.eval (op ops z)).run P w = .ok .skip w')
    (h : H P ops S Q z n fuel (listed.setIfInBounds z true) f w') : H P ops S Q z n (fuel + 1) listed f w := by
  refine H.one z hr fun A hA => ?_
  unfold wpOp
  rw [hi]
  simp only [hw A hA, if_true]
  refine .inl ?_
  unfold Oper.wp
  rw [hy A hA]
  refine ⟨fun e => absurd rfl e, ?_⟩
  rw [hd]
  exact h A hA
end
end Pz
end Go.Proofs.Ytehmemfeagjagaa
