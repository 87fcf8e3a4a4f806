/-
  Layer 7: who is held: the law's map and the clock.
-/
import Derived.Test.YtfdfpdioelfjdaaCkQ
import Derived.Test.YtfdfpdioelfjdaaCkR
namespace Go.Proofs.Ytfdfpdioelfjdaa
open Go.RowKit Go.Maps

def kI (q : Int) : Lit := .int .i64 q
def dI (q : Int) : (DataW Unit) := .lit (.int .i64 q)

/-- Who is held is pinned, and who is pinned is held. -/
structure Hd (l : List Sp) (D : (DataW Unit)) : Prop where
  tidy : Tidy D
  fwd : ∀ q : Int, Maps.has D (kI q) = true → ∃ k, k < l.length ∧ (fr l k).page = q ∧ (fr l k).pin = true ∧ D.atKey (kI q) (dI 0) = dI ((k : Nat) : Int)
  back : ∀ k, k < l.length → (fr l k).pin = true → Maps.has D (kI (fr l k).page) = true
  size : Maps.size D = l.countP (fun s => s.pin)

theorem countP_fr : ∀ (l m : List Sp), l.length = m.length → (∀ j, j < l.length → (fr m j).pin = (fr l j).pin) → m.countP (fun s => s.pin) = l.countP (fun s => s.pin)
  | [], [], _, _ => rfl
  | x :: l, y :: m, hl, h => by
    have h0 : y.pin = x.pin := h 0 (by simp)
    have ih := countP_fr l m (by simpa using hl) (fun j hj => h (j + 1) (by simpa using hj))
    simp only [List.countP_cons, ih, h0]
  | [], _ :: _, hl, _ => by simp at hl
  | _ :: _, [], hl, _ => by simp at hl
theorem countP_all : ∀ (l : List Sp), (∀ j, j < l.length → (fr l j).pin = true) → l.countP (fun s => s.pin) = l.length
  | [], _ => rfl
  | x :: l, h => by
    have h0 : x.pin = true := h 0 (by simp)
    have ih := countP_all l (fun j hj => h (j + 1) (by simpa using hj))
    simp [ih, h0]
theorem countP_pin : ∀ (l : List Sp) (k : Nat) (s : Sp), k < l.length → s.pin = true → (l.set k s).countP (fun s => s.pin) = l.countP (fun s => s.pin) + (if (fr l k).pin = true then 0 else 1)
  | x :: l, 0, s, _, hs => by
    have e : (fr (x :: l) 0) = x := rfl
    rw [e, List.set_cons_zero, List.countP_cons, List.countP_cons, hs]
    cases x.pin <;> simp
  | x :: l, k + 1, s, hk, hs => by
    have ih := countP_pin l k s (by simpa using hk) hs
    have e : (fr (x :: l) (k + 1)) = fr l k := rfl
    rw [e, List.set_cons_succ, List.countP_cons, List.countP_cons, ih]
    omega

theorem Hd.start (n : Nat) : Hd (List.replicate n Sp.none) (.map []) := by
  refine ⟨tidy_empty, fun q h => (by cases h), fun k hk hp => ?_, ?_⟩
  · rw [List.length_replicate] at hk
    rw [fr_get (by simpa using hk)] at hp
    simp [Sp.none] at hp
  · rw [Maps.size_eq]
    symm
    rw [List.length_nil, List.countP_eq_zero]
    intro a ha
    rw [(List.mem_replicate.1 ha).2]
    simp [Sp.none]

theorem Hd.touch {l : List Sp} {D : (DataW Unit)} {h p : Int} {t : Tc} {k : Nat} (H : Hd l D) (T : Tk l h p t k) : Hd t.l D := by
  refine ⟨H.tidy, fun q hq => ?_, fun j hj hp => ?_, ?_⟩
  · obtain ⟨j, hj, hpg, hpn, hat⟩ := H.fwd q hq
    refine ⟨j, by rw [T.len]; exact hj, ?_, by rw [T.pin j hj]; exact hpn, hat⟩
    by_cases e : j = k
    · subst e
      rcases T.was with ⟨h1, _⟩ | ⟨h1, _⟩
      · rw [T.page, ← hpg, h1]
      · rw [h1] at hpn; cases hpn
    · rw [T.others j hj e]; exact hpg
  · rw [T.len] at hj
    rw [T.pin j hj] at hp
    by_cases e : j = k
    · subst e
      rcases T.was with ⟨h1, _⟩ | ⟨h1, _⟩
      · rw [T.page, ← h1]; exact H.back j hj hp
      · rw [h1] at hp; cases hp
    · rw [T.others j hj e]; exact H.back j hj hp
  · rw [H.size, countP_fr l t.l T.len.symm T.pin]
theorem Hd.lost {l : List Sp} {D : (DataW Unit)} {h p : Int} {t : Tc} {k : Nat} (H : Hd l D) (hm : may l h = true) (T : Tk l h p t k) : Maps.has D (kI t.was) = false := by
  obtain ⟨_, _, _, _, mg⟩ := may_iff.1 hm
  cases hh : Maps.has D (kI t.was) with
  | false => rfl
  | true =>
    obtain ⟨j, hj, hpg, hpn, _⟩ := H.fwd _ hh
    have h0 := (mg j hj).pinned hpn
    rcases T.was with ⟨_, h1⟩ | ⟨h1, h2, _⟩
    · rw [hpg, h1] at h0; omega
    · have := Gds.one mg hj T.lt (hpg.trans h2) h0
      rw [this, h1] at hpn
      cases hpn
theorem Hd.full {l : List Sp} {D : (DataW Unit)} (H : Hd l D) (hall : ∀ k, k < l.length → (fr l k).pin = true) : Maps.size D = l.length := by
  rw [H.size, countP_all l hall]
theorem Hd.absent {l : List Sp} {D : (DataW Unit)} {p : Int} (H : Hd l D) (hno : ∀ k, k < l.length → (fr l k).page ≠ p) : Maps.has D (kI p) = false := by
  cases hh : Maps.has D (kI p) with
  | false => rfl
  | true =>
    obtain ⟨j, hj, hpg, _⟩ := H.fwd _ hh
    exact absurd hpg (hno j hj)

theorem at_is {l : List Sp} {h p : Int} (hm : may l h = true) (hp : 0 ≤ p) {k : Nat} (hk : k < l.length) (hpg : (fr l k).page = p) : ixP l p = ((k : Nat) : Int) := by
  obtain ⟨_, _, _, _, mg⟩ := may_iff.1 hm
  rcases ixP_cases l p with ⟨_, h2⟩ | ⟨i, hi, h1, h2, _⟩
  · exact absurd hpg (h2 k hk)
  · rw [h1, Gds.one mg hi hk (h2.trans hpg.symm) (by rw [h2]; exact hp)]
/-- The frame k is pinned. -/
def pinAt (l : List Sp) (k : Nat) : List Sp := l.set k ⟨(fr l k).page, (fr l k).used, true⟩
theorem pinAt_length (l : List Sp) (k : Nat) : (pinAt l k).length = l.length := by simp [pinAt]
theorem pinAt_may {l : List Sp} {h : Int} {k : Nat} (hm : may l h = true) (hk : k < l.length) (hp : 0 ≤ (fr l k).page) : may (pinAt l k) h = true := by
  obtain ⟨m1, m2, m3, m4, mg⟩ := may_iff.1 hm
  have e : (fr (pinAt l k) k).page = (fr l k).page := by unfold pinAt; rw [fr_set_same hk]
  refine may_of (k := k) hm (pinAt_length l k) m3 m4 (fun j hj hne => .inl (fr_set_other (fun e => hne e.symm) _)) (by rw [e]; exact ⟨hp, (mg k hk).bound.2⟩) (fun j hj hne => ?_)
  rw [e]
  exact fun x => hne (Gds.one mg hj hk x (by rw [x]; exact hp))
theorem Hd.pin {l : List Sp} {D : (DataW Unit)} {h p : Int} {k : Nat} (H : Hd l D) (hm : may l h = true) (hp : 0 ≤ p) (hk : k < l.length) (hpg : (fr l k).page = p) : Hd (pinAt l k) (D.put (kI p) (dI ((k : Nat) : Int))) := by
  obtain ⟨_, _, _, _, mg⟩ := may_iff.1 hm
  have hkl : ∀ q, WideAt.IsKeyLit (kI q) := fun q => trivial
  have hneq : ∀ {q : Int}, q ≠ p → kI q ≠ kI p := fun hq e => hq (by unfold kI at e; injection e)
  have hfk : fr (pinAt l k) k = ⟨p, (fr l k).used, true⟩ := by unfold pinAt; rw [fr_set_same hk, hpg]
  have hfo : ∀ j, k ≠ j → fr (pinAt l k) j = fr l j := fun j hj => by unfold pinAt; exact fr_set_other hj _
  refine ⟨H.tidy.put (hkl p) _, fun q hq => ?_, fun j hj hpn => ?_, ?_⟩
  · by_cases e : q = p
    · subst e
      exact ⟨k, by rw [pinAt_length]; exact hk, by rw [hfk], by rw [hfk], atKey_put_same H.tidy.isMap (hkl _) _ _⟩
    · rw [has_put_other (hneq e)] at hq
      obtain ⟨j, hj, hpj, hpn, hat⟩ := H.fwd q hq
      have hne : k ≠ j := fun x => e (by rw [← hpj, ← x, hpg])
      exact ⟨j, by rw [pinAt_length]; exact hj, by rw [hfo j hne]; exact hpj, by rw [hfo j hne]; exact hpn, by rw [atKey_put_other (hneq e)]; exact hat⟩
  · rw [pinAt_length] at hj
    by_cases e : k = j
    · subst e
      rw [hfk]
      exact has_put_same H.tidy.isMap (hkl _) _
    · rw [hfo j e] at hpn ⊢
      have hb := H.back j hj hpn
      have hne : (fr l j).page ≠ p := fun x => e (Gds.one mg hk hj (hpg.trans x.symm) (by rw [hpg]; exact hp))
      rw [has_put_other (hneq hne)]
      exact hb
  · rw [size_put H.tidy, H.size]
    unfold pinAt
    rw [countP_pin l k _ hk rfl]
    cases hh : Maps.has D (kI p) with
    | true =>
      obtain ⟨j, hj, hpj, hpn, _⟩ := H.fwd p hh
      have := Gds.one mg hj hk (hpj.trans hpg.symm) (by rw [hpj]; exact hp)
      subst this
      simp [hpn]
    | false =>
      cases hpn : (fr l k).pin with
      | true =>
        have := H.back k hk hpn
        rw [hpg, hh] at this
        cases this
      | false => simp
theorem pinC_at {l : List Sp} {h p : Int} (hm : may l h = true) (hp : 0 ≤ p) {k : Nat} (hk : k < l.length) (hpg : (fr l k).page = p) : pinC l p true = ⟨pinAt l k, 0⟩ := pinC_yes hp (at_is hm hp hk hpg)
theorem Hd.room {l : List Sp} {D : (DataW Unit)} (H : Hd l D) (hlt : Maps.size D < l.length) : ¬ ∀ k, k < l.length → (fr l k).pin = true := fun h => by
  have := H.full h
  omega
theorem may_new (n : Nat) (h1 : 1 ≤ n) (h2 : n ≤ 64) : may (List.replicate n Sp.none) 0 = true := by
  refine may_iff.2 ⟨by simpa using h1, by simpa using h2, by omega, by rw [List.length_replicate]; omega, fun i hi => .inl ?_⟩
  rw [fr_get hi]
  simp
end Go.Proofs.Ytfdfpdioelfjdaa
