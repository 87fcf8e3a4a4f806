/-
  Layer 7 without memory: what a touch leaves; who is held.
-/
import Derived.Test.YtfdfpdioelfjdaaCkJ
import Derived.Maps.OwnSet
namespace Go.Proofs.Ytfdfpdioelfjdaa
open Go.RowKit

/-- What the hand leaves on its way. -/
structure Keeps (l : List Sp) (r : Rd) : Prop where
  len : r.l.length = l.length
  hand : r.h < l.length
  page : ∀ j, (fr r.l j).page = (fr l j).page
  pin : ∀ j, (fr r.l j).pin = (fr l j).pin
  found : r.at_ = -1 ∨ ∃ q, q < l.length ∧ r.at_ = ((q : Nat) : Int) ∧ (fr l q).pin = false

theorem fr_clear (l : List Sp) (h j : Nat) (u : Bool) : (fr (l.set h ⟨(fr l h).page, u, (fr l h).pin⟩) j).page = (fr l j).page ∧ (fr (l.set h ⟨(fr l h).page, u, (fr l h).pin⟩) j).pin = (fr l j).pin := by
  by_cases e : h = j
  · subst e
    by_cases hl : h < l.length
    · rw [fr_set_same hl]
      exact ⟨rfl, rfl⟩
    · rw [List.set_eq_of_length_le (by omega)]
      exact ⟨rfl, rfl⟩
  · rw [fr_set_other e]
    exact ⟨rfl, rfl⟩

theorem rnd_keeps : ∀ (k : Nat) (l : List Sp) (h : Nat), h < l.length → Keeps l (rnd k l h)
  | 0, l, h, hh => ⟨rfl, hh, fun _ => rfl, fun _ => rfl, .inl rfl⟩
  | k + 1, l, h, hh => by
    have hm : (h + 1) % l.length < l.length := Nat.mod_lt _ (by omega)
    cases hp : (fr l h).pin with
    | true =>
      rw [rnd_pin hp]
      exact rnd_keeps k l _ hm
    | false =>
      cases hu : (fr l h).used with
      | true =>
        rw [rnd_use hp hu]
        have e := rnd_keeps k (l.set h ⟨(fr l h).page, false, (fr l h).pin⟩) ((h + 1) % l.length) (by rw [List.length_set]; exact hm)
        refine ⟨by rw [e.len, List.length_set], by have := e.hand; rwa [List.length_set] at this, fun j => by rw [e.page, (fr_clear l h j false).1], fun j => by rw [e.pin, (fr_clear l h j false).2], ?_⟩
        rcases e.found with e1 | ⟨q, hq, e1, e2⟩
        · exact .inl e1
        · exact .inr ⟨q, by rwa [List.length_set] at hq, e1, by rwa [(fr_clear l h q false).2] at e2⟩
      | false =>
        rw [rnd_hit hp hu]
        exact ⟨rfl, hm, fun _ => rfl, fun _ => rfl, .inr ⟨h, hh, rfl, hp⟩⟩

theorem way_step {n h d j : Nat} (hn : h < n) (hd : d + 1 < n) (hj : (h + (d + 1)) % n = j) : ((h + 1) % n + d) % n = j ∧ h ≠ j := by
  constructor
  · rw [Nat.mod_add_mod, ← hj]
    congr 1
    omega
  · intro e
    rcases Nat.lt_or_ge (h + (d + 1)) n with h1 | h1
    · rw [Nat.mod_eq_of_lt h1] at hj
      omega
    · rw [Nat.mod_eq_sub_mod h1, Nat.mod_eq_of_lt (by omega)] at hj
      omega

/-- A frame that is neither is met. -/
theorem rnd_meets : ∀ (k d : Nat) (l : List Sp) (h j : Nat), h < l.length → d < l.length → d < k → (h + d) % l.length = j → (fr l j).pin = false → (fr l j).used = false → (rnd k l h).at_ ≠ -1
  | 0, _, _, _, _, _, _, hk, _, _, _ => absurd hk (Nat.not_lt_zero _)
  | k + 1, d, l, h, j, hh, hd, hk, hj, hp, hu => by
    have hm : (h + 1) % l.length < l.length := Nat.mod_lt _ (by omega)
    cases d with
    | zero =>
      have e : h = j := by rw [← hj, Nat.add_zero, Nat.mod_eq_of_lt hh]
      subst e
      rw [rnd_hit hp hu]
      show ((h : Nat) : Int) ≠ -1
      omega
    | succ d =>
      obtain ⟨hj', hne⟩ := way_step hh hd hj
      cases hp2 : (fr l h).pin with
      | true =>
        rw [rnd_pin hp2]
        exact rnd_meets k d l _ j hm (by omega) (by omega) hj' hp hu
      | false =>
        cases hu2 : (fr l h).used with
        | true =>
          rw [rnd_use hp2 hu2]
          exact rnd_meets k d _ _ j (by rw [List.length_set]; exact hm) (by rw [List.length_set]; omega) (by omega) (by rw [List.length_set]; exact hj') (by rw [fr_set_other hne]; exact hp) (by rw [fr_set_other hne]; exact hu)
        | false =>
          rw [rnd_hit hp2 hu2]
          show ((h : Nat) : Int) ≠ -1
          omega
/-- One that is not pinned is met, if the hand goes round once more. -/
theorem rnd_twice : ∀ (k d : Nat) (l : List Sp) (h j : Nat), h < l.length → d < l.length → d + l.length < k → (h + d) % l.length = j → (fr l j).pin = false → (rnd k l h).at_ ≠ -1
  | 0, _, _, _, _, _, _, hk, _, _ => absurd hk (Nat.not_lt_zero _)
  | k + 1, d, l, h, j, hh, hd, hk, hj, hp => by
    have hm : (h + 1) % l.length < l.length := Nat.mod_lt _ (by omega)
    cases d with
    | zero =>
      have e : h = j := by rw [← hj, Nat.add_zero, Nat.mod_eq_of_lt hh]
      subst e
      cases hu : (fr l h).used with
      | true =>
        rw [rnd_use hp hu]
        have hw : ((h + 1) % l.length + (l.length - 1)) % l.length = h := by
          rw [Nat.mod_add_mod, show h + 1 + (l.length - 1) = h + l.length by omega, Nat.add_mod_right, Nat.mod_eq_of_lt hh]
        exact rnd_meets k (l.length - 1) _ _ h (by rw [List.length_set]; exact hm) (by rw [List.length_set]; omega) (by omega) (by rw [List.length_set]; exact hw) (by rw [fr_set_same hh]; exact hp) (by rw [fr_set_same hh])
      | false =>
        rw [rnd_hit hp hu]
        show ((h : Nat) : Int) ≠ -1
        omega
    | succ d =>
      obtain ⟨hj', hne⟩ := way_step hh hd hj
      cases hp2 : (fr l h).pin with
      | true =>
        rw [rnd_pin hp2]
        exact rnd_twice k d l _ j hm (by omega) (by omega) hj' hp
      | false =>
        cases hu2 : (fr l h).used with
        | true =>
          rw [rnd_use hp2 hu2]
          exact rnd_twice k d _ _ j (by rw [List.length_set]; exact hm) (by rw [List.length_set]; omega) (by rw [List.length_set]; omega) (by rw [List.length_set]; exact hj') (by rw [fr_set_other hne]; exact hp)
        | false =>
          rw [rnd_hit hp2 hu2]
          show ((h : Nat) : Int) ≠ -1
          omega
theorem rnd_all {l : List Sp} {h : Nat} (hh : h < l.length) (hat : (rnd (2 * l.length) l h).at_ = -1) {j : Nat} (hj : j < l.length) : (fr l j).pin = true := by
  cases hp : (fr l j).pin with
  | true => rfl
  | false =>
    refine absurd hat ?_
    rcases Nat.lt_or_ge j h with h1 | h1
    · exact rnd_twice (2 * l.length) (j + l.length - h) l h j hh (by omega) (by omega) (by rw [show h + (j + l.length - h) = j + l.length by omega, Nat.add_mod_right, Nat.mod_eq_of_lt hj]) hp
    · exact rnd_twice (2 * l.length) (j - h) l h j hh (by omega) (by omega) (by rw [show h + (j - h) = j by omega, Nat.mod_eq_of_lt hj]) hp

/-- A clock of which one frame has turned. -/
theorem may_of {l l' : List Sp} {h h' : Int} {k : Nat} (hm : may l h = true) (hlen : l'.length = l.length) (h0 : 0 ≤ h') (h1 : h' < l.length)
    (ho : ∀ j, j < l.length → j ≠ k → fr l' j = fr l j ∨ (0 ≤ (fr l j).page ∧ (fr l' j).page = (fr l j).page)) (hp : 0 ≤ (fr l' k).page ∧ (fr l' k).page < 64)
    (hd : ∀ j, j < l.length → j ≠ k → (fr l j).page ≠ (fr l' k).page) : may l' h' = true := by
  obtain ⟨m1, m2, _, _, mg⟩ := may_iff.1 hm
  have pg : ∀ j, j < l.length → j ≠ k → (fr l' j).page = (fr l j).page := by
    intro j hj hne
    rcases ho j hj hne with e | e
    · rw [e]
    · exact e.2
  refine may_iff.2 ⟨by omega, by omega, h0, by omega, fun i hi => ?_⟩
  rw [hlen] at hi
  by_cases e : i = k
  · subst e
    refine .inr ⟨hp.1, hp.2, fun j hj => ?_⟩
    rw [pg j (by omega) (by omega)]
    exact hd j (by omega) (by omega)
  · rcases mg i hi with g | ⟨g1, g2, g3⟩
    · rcases ho i hi e with e1 | e1
      · exact .inl (e1.trans g)
      · rw [g] at e1
        simp [Sp.none] at e1
    · refine .inr ⟨by rw [pg i hi e]; exact g1, by rw [pg i hi e]; exact g2, fun j hj => ?_⟩
      rw [pg i hi e]
      by_cases ej : j = k
      · subst ej
        exact fun x => hd i hi e x.symm
      · rw [pg j (by omega) ej]
        exact g3 j hj

/-- What a touch leaves. -/
structure Tk (l : List Sp) (h p : Int) (t : Tc) (k : Nat) : Prop where
  e : t.e = 0
  may : may t.l t.h = true
  len : t.l.length = l.length
  lt : k < l.length
  at_ : t.at_ = ((k : Nat) : Int)
  page : (fr t.l k).page = p
  pin : ∀ j, j < l.length → (fr t.l j).pin = (fr l j).pin
  others : ∀ j, j < l.length → j ≠ k → (fr t.l j).page = (fr l j).page
  was : ((fr l k).page = p ∧ t.was = -1) ∨ ((fr l k).pin = false ∧ t.was = (fr l k).page ∧ ∀ j, j < l.length → (fr l j).page ≠ p)

theorem touch_keeps {l : List Sp} {h p : Int} (hm : may l h = true) (hp : isPg p = true) :
    ((touch l h p).e = 11 ∧ (∀ k, k < l.length → (fr l k).pin = true) ∧ ∀ k, k < l.length → (fr l k).page ≠ p) ∨ ∃ k, Tk l h p (touch l h p) k := by
  obtain ⟨m1, m2, m3, m4, mg⟩ := may_iff.1 hm
  obtain ⟨p0, p1⟩ := isPg_iff.1 hp
  rcases ixP_cases l p with ⟨hi, hno⟩ | ⟨i, hil, hi, hpi, hfi⟩
  · have hhn : h.toNat < l.length := by omega
    rw [touch_find hm hp hi]
    by_cases hn : 0 ≤ ixN l
    · have ef : fnd l h.toNat = ⟨l, h.toNat, ixN l⟩ := if_pos hn
      rw [ef]
      simp only
      rw [if_neg (by omega)]
      have en := ixN_is mg
      rcases ixP_cases l (-1) with ⟨h3, _⟩ | ⟨q, hq, h3, h4, _⟩
      · omega
      · rw [en, h3]
        have hem := (mg q hq).empty (by omega)
        refine .inr ⟨q, ⟨rfl, ?_, by simp, hq, rfl, by simp only [Int.toNat_natCast]; rw [fr_set_same hq], fun j hj => ?_, fun j hj hne => ?_, .inr ⟨by rw [hem]; rfl, by simp only [Int.toNat_natCast], hno⟩⟩⟩
        · simp only [Int.toNat_natCast]
          refine may_of (k := q) hm (by simp) (by omega) (by omega) (fun j hj hne => .inl (fr_set_other (fun e => hne e.symm) _)) (by rw [fr_set_same hq]; exact ⟨p0, p1⟩) (fun j hj hne => by rw [fr_set_same hq]; exact hno j hj)
        · simp only [Int.toNat_natCast]
          by_cases e : q = j
          · subst e
            rw [fr_set_same hq, hem]
            rfl
          · rw [fr_set_other e]
        · simp only [Int.toNat_natCast]
          rw [fr_set_other (fun e => hne e.symm)]
    · have ef : fnd l h.toNat = rnd (2 * l.length) l h.toNat := if_neg hn
      rw [ef]
      have kp := rnd_keeps (2 * l.length) l h.toNat hhn
      rcases kp.found with hat | ⟨q, hq, hat, hpin⟩
      · rw [if_pos (by rw [hat]; decide)]
        exact .inl ⟨rfl, fun k hk => rnd_all hhn hat hk, hno⟩
      · rw [if_neg (by rw [hat]; omega), hat]
        simp only [Int.toNat_natCast]
        have hq' : q < (rnd (2 * l.length) l h.toNat).l.length := by rw [kp.len]; exact hq
        have hpos : ∀ j, j < l.length → 0 ≤ (fr l j).page := by
          intro j hj
          rcases mg j hj with g | g
          · exfalso
            have en := ixN_is mg
            rcases ixP_cases l (-1) with ⟨_, h4⟩ | ⟨i, _, h4, _⟩
            · exact h4 j hj (by rw [g]; rfl)
            · omega
          · exact g.1
        refine .inr ⟨q, ⟨rfl, ?_, by simp [kp.len], hq, rfl, by rw [fr_set_same hq'], fun j hj => ?_, fun j hj hne => by rw [fr_set_other (fun e => hne e.symm), kp.page], .inr ⟨hpin, kp.page q, hno⟩⟩⟩
        · refine may_of (k := q) hm (by simp [kp.len]) (by show (0 : Int) ≤ ((_ : Nat) : Int); omega) (by have := kp.hand; show ((_ : Nat) : Int) < _; omega) (fun j hj hne => .inr ⟨hpos j hj, by rw [fr_set_other (fun e => hne e.symm), kp.page]⟩) (by rw [fr_set_same hq']; exact ⟨p0, p1⟩) (fun j hj hne => by rw [fr_set_same hq']; exact hno j hj)
        · by_cases e : q = j
          · subst e
            rw [fr_set_same hq', hpin]
          · rw [fr_set_other e, kp.pin]
  · rw [touch_in hp hi]
    refine .inr ⟨i, ⟨rfl, ?_, by simp, hil, rfl, by rw [(fr_clear l i i true).1]; exact hpi, fun j _ => (fr_clear l i j true).2, fun j _ _ => (fr_clear l i j true).1, .inl ⟨hpi, rfl⟩⟩⟩
    refine may_of (k := i) hm (by simp) m3 m4 (fun j hj hne => .inl (fr_set_other (fun e => hne e.symm) _)) (by rw [(fr_clear l i i true).1, hpi]; exact ⟨p0, p1⟩) (fun j hj hne => ?_)
    rw [(fr_clear l i i true).1, hpi]
    exact fun x => hne (Gds.one mg hj hil (x.trans hpi.symm) (by rw [x]; exact p0))
end Go.Proofs.Ytfdfpdioelfjdaa
