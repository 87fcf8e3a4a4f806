/-
  Layer 13 without memory: pages of which each byte is of one of some states; what is kept of them.
  Layer 13 without memory: what the device keeps is always some state's, whatever is kept of it; every act of the pool leaves it so.
  Layer 13 without memory: groups that are appended and put, check points: what the device keeps stays some state's.
  Layer 13 without memory: crashes, and what is opened behind them.
-/
import Derived.Test.YtpggkfdnpdhkfaaGreatMb
namespace Go.Proofs.YtpggkfdnpdhkfaaGreat
open Go.RowKit
set_option maxRecDepth 100000
set_option linter.unusedVariables false

theorem spliceW_at (xs ys : List Nat) (o i : Nat) (h : o + ys.length ≤ xs.length) : (splice xs o ys).getD i 0 = if o ≤ i ∧ i < o + ys.length then ys.getD (i - o) 0 else xs.getD i 0 := by
  unfold splice
  simp only [List.getD]
  by_cases h1 : i < o
  · rw [if_neg (by omega), List.append_assoc, List.getElem?_append_left (by rw [List.length_take]; omega), List.getElem?_take_of_lt h1]
  · by_cases h2 : i < o + ys.length
    · rw [if_pos (by omega), List.append_assoc, List.getElem?_append_right (by rw [List.length_take]; omega), List.length_take, Nat.min_eq_left (by omega), List.getElem?_append_left (by omega)]
    · rw [if_neg (by omega), List.getElem?_append_right (by rw [List.length_append, List.length_take]; omega), List.length_append, List.length_take, Nat.min_eq_left (by omega), List.getElem?_drop]
      congr 2
      omega
theorem ext_getD {a b : List Nat} (hl : a.length = b.length) (h : ∀ i, i < a.length → a.getD i 0 = b.getD i 0) : a = b := by
  apply List.ext_getElem hl
  intro i h1 h2
  have := h i h1
  simpa [List.getD, h1, h2] using this
theorem hit_true (i : Nat) : hit [true] i = true := by simp [hit, Nat.mod_one]
theorem keepT_snoc (l : List Sw) (i : Nat) (x : Sw) (kp : List Nat) : keepW [true] i (l ++ [x]) kp = splice (keepW [true] i l kp) x.at_ x.b := by rw [keepW_snoc, if_pos (hit_true _)]
theorem splice_len' (xs ys : List Nat) (o : Nat) (h : o + ys.length ≤ xs.length) : (splice xs o ys).length = xs.length := splice_length _ _ _ h
/-- The sectors of a page, one behind the other, are the page. -/
theorem keepT_secs (wr : List Sw) (i : Nat) (kp b : List Nat) (k n : Nat) (hb : b.length = 512) (hk : k < n) (hl : (keepW [true] i wr kp).length = 512 * n) : ∀ c, c ≤ 4 → keepW [true] i (wr ++ secs (512 * k) b c) kp = splice (keepW [true] i wr kp) (512 * k) (b.take (128 * c))
  | 0, _ => by
    have e : secs (512 * k) b 0 = [] := rfl
    rw [e, List.append_nil]
    unfold splice
    simp
  | c + 1, hc => by
    rw [secs_succ, ← List.append_assoc, keepT_snoc, keepT_secs wr i kp b k n hb hk hl c (by omega)]
    show splice (splice (keepW [true] i wr kp) (512 * k) (b.take (128 * c))) (512 * k + 128 * c) ((b.drop (128 * c)).take 128) = _
    generalize keepW [true] i wr kp = z at hl
    have l1 : (b.take (128 * c)).length = 128 * c := by rw [List.length_take]; omega
    have l2 : ((b.drop (128 * c)).take 128).length = 128 := by rw [List.length_take, List.length_drop]; omega
    have l3 : (b.take (128 * (c + 1))).length = 128 * (c + 1) := by rw [List.length_take]; omega
    have e1 : (splice z (512 * k) (b.take (128 * c))).length = 512 * n := by rw [splice_len' _ _ _ (by omega)]; exact hl
    apply ext_getD
    · rw [splice_len' _ _ _ (by rw [e1, l2]; omega), e1, splice_len' _ _ _ (by omega), hl]
    · intro p hp
      rw [spliceW_at _ _ _ _ (by rw [e1, l2]; omega), spliceW_at _ _ _ _ (by omega), spliceW_at _ _ _ _ (by omega), l1, l2, l3]
      by_cases h1 : 512 * k + 128 * c ≤ p ∧ p < 512 * k + 128 * c + 128
      · rw [if_pos h1, if_pos (by omega)]
        simp only [List.getD, List.getElem?_take, List.getElem?_drop]
        rw [if_pos (by omega), if_pos (by omega)]
        congr 2
        omega
      · rw [if_neg h1]
        by_cases h2 : 512 * k ≤ p ∧ p < 512 * k + 128 * c
        · rw [if_pos h2, if_pos (by omega)]
          simp only [List.getD, List.getElem?_take]
          rw [if_pos (by omega), if_pos (by omega)]
        · rw [if_neg h2, if_neg (by omega)]
theorem keepT_page (wr : List Sw) (i : Nat) (kp b : List Nat) (k n : Nat) (hb : b.length = 512) (hk : k < n) (hl : (keepW [true] i wr kp).length = 512 * n) : keepW [true] i (wr ++ secs (512 * k) b 4) kp = splice (keepW [true] i wr kp) (512 * k) b := by
  rw [keepT_secs wr i kp b k n hb hk hl 4 (Nat.le_refl _), List.take_of_length_le (by omega)]

/-- The pages behind the first so many groups. -/
def Fj (f0 : Nat → List Nat) (gs : List (List Im)) (j : Nat) : Nat → List Nat := upds f0 (gs.take j)
theorem Fj_take (f0 : Nat → List Nat) (gs : List (List Im)) {i j : Nat} (h : j ≤ i) : Fj f0 (gs.take i) j = Fj f0 gs j := by
  unfold Fj
  rw [List.take_take, Nat.min_eq_left h]
theorem Fj_app (f0 : Nat → List Nat) (gs hs : List (List Im)) {j : Nat} (h : j ≤ gs.length) : Fj f0 (gs ++ hs) j = Fj f0 gs j := by
  unfold Fj
  rw [List.take_append_of_le_length h]
theorem Fj_succ (f0 : Nat → List Nat) (gs : List (List Im)) {j : Nat} (h : j < gs.length) : Fj f0 gs (j + 1) = upd (Fj f0 gs j) gs[j] := by
  unfold Fj
  rw [List.take_succ_eq_append_getElem h, upds_append]
  rfl
/-- A byte of one of the states from lo to hi. -/
def InB (f0 : Nat → List Nat) (gs : List (List Im)) (lo hi pos v : Nat) : Prop := ∃ j, lo ≤ j ∧ j ≤ hi ∧ (Fj f0 gs j (pos / 512)).getD (pos % 512) 0 = v
structure KPok (f0 : Nat → List Nat) (gs : List (List Im)) (n lo hi : Nat) (kp : List Nat) : Prop where
  len : kp.length = 512 * n
  at_ : ∀ pos, pos < 512 * n → InB f0 gs lo hi pos (kp.getD pos 0)
def SWok (f0 : Nat → List Nat) (gs : List (List Im)) (lo hi : Nat) (x : Sw) : Prop := ∀ y, y < x.b.length → InB f0 gs lo hi (x.at_ + y) (x.b.getD y 0)
section
variable {f0 : Nat → List Nat} {gs : List (List Im)} {n lo hi : Nat}
theorem InB.mono {lo' hi' pos v : Nat} (h : InB f0 gs lo hi pos v) (h1 : lo' ≤ lo) (h2 : hi ≤ hi') : InB f0 gs lo' hi' pos v := by
  obtain ⟨j, a, b, c⟩ := h
  exact ⟨j, by omega, by omega, c⟩
theorem InB.more {gs' : List (List Im)} {pos v : Nat} (h : InB f0 gs lo hi pos v) (hF : ∀ j, j ≤ hi → Fj f0 gs' j = Fj f0 gs j) : InB f0 gs' lo hi pos v := by
  obtain ⟨j, a, b, c⟩ := h
  exact ⟨j, a, b, by rw [hF j b]; exact c⟩
theorem KPok.mono {lo' hi' : Nat} {kp : List Nat} (h : KPok f0 gs n lo hi kp) (h1 : lo' ≤ lo) (h2 : hi ≤ hi') : KPok f0 gs n lo' hi' kp := ⟨h.len, fun p hp => (h.at_ p hp).mono h1 h2⟩
theorem KPok.more {gs' : List (List Im)} {kp : List Nat} (h : KPok f0 gs n lo hi kp) (hF : ∀ j, j ≤ hi → Fj f0 gs' j = Fj f0 gs j) : KPok f0 gs' n lo hi kp := ⟨h.len, fun p hp => (h.at_ p hp).more hF⟩
theorem SWok.mono {lo' hi' : Nat} {x : Sw} (h : SWok f0 gs lo hi x) (h1 : lo' ≤ lo) (h2 : hi ≤ hi') : SWok f0 gs lo' hi' x := fun y hy => (h y hy).mono h1 h2
theorem SWok.more {gs' : List (List Im)} {x : Sw} (h : SWok f0 gs lo hi x) (hF : ∀ j, j ≤ hi → Fj f0 gs' j = Fj f0 gs j) : SWok f0 gs' lo hi x := fun y hy => (h y hy).more hF
theorem KPok.splice {kp : List Nat} (h : KPok f0 gs n lo hi kp) {x : Sw} (hx : SWok f0 gs lo hi x) (hl : x.at_ + x.b.length ≤ 512 * n) : KPok f0 gs n lo hi (splice kp x.at_ x.b) := by
  refine ⟨by rw [splice_len' _ _ _ (by rw [h.len]; exact hl)]; exact h.len, fun p hp => ?_⟩
  rw [spliceW_at _ _ _ _ (by rw [h.len]; exact hl)]
  split
  · rename_i hc
    have := hx (p - x.at_) (by omega)
    rw [show x.at_ + (p - x.at_) = p by omega] at this
    exact this
  · exact h.at_ p hp
theorem KPok.keep (bs : List Bool) : ∀ (wr : List Sw) (i : Nat) {kp : List Nat}, KPok f0 gs n lo hi kp → (∀ x ∈ wr, SWok f0 gs lo hi x) → (∀ x ∈ wr, x.Ok (512 * n)) → KPok f0 gs n lo hi (keepW bs i wr kp)
  | [], _, kp, h, _, _ => h
  | x :: r, i, kp, h, h1, h2 => by
    unfold keepW
    refine KPok.keep bs r (i + 1) ?_ (fun y hy => h1 y (by simp [hy])) (fun y hy => h2 y (by simp [hy]))
    split
    · exact h.splice (h1 x (by simp)) (by have := h2 x (by simp); rw [this.len]; exact this.le)
    · exact h
theorem secs_in {k j c : Nat} {b : List Nat} (hb : b.length = 512) (hj : b = Fj f0 gs j k) (h1 : lo ≤ j) (h2 : j ≤ hi) (hc : c ≤ 4) : ∀ x ∈ secs (512 * k) b c, SWok f0 gs lo hi x := by
  intro x hx y hy
  obtain ⟨i, hi', rfl⟩ := List.mem_map.1 hx
  have hi4 := List.mem_range.1 hi'
  simp only at hy ⊢
  rw [List.length_take, List.length_drop] at hy
  refine ⟨j, h1, h2, ?_⟩
  rw [show (512 * k + 128 * i + y) / 512 = k by omega, show (512 * k + 128 * i + y) % 512 = 128 * i + y by omega, ← hj]
  simp only [List.getD, List.getElem?_take, List.getElem?_drop]
  rw [if_pos (by omega)]
end
end Go.Proofs.YtpggkfdnpdhkfaaGreat

namespace Go.Proofs.YtpggkfdnpdhkfaaGreat
open Go.RowKit
set_option maxRecDepth 100000
set_option linter.unusedVariables false

/-- Bytes of which no beginning is a group. -/
def OddT (t : List Nat) : Prop := ∀ p, (dec (t.take p)).e ≠ 0
theorem oddT_nil : OddT [] := fun p => by rw [List.take_nil]; exact dec_nil
/-- What a device keeps: the stream has the groups from B on, m of them surely; each byte of its pages, and of what is not synced, is of a state from B to m; those that were synced are among them. -/
structure KI (f0 : Nat → List Nat) (gs : List (List Im)) (n : Nat) (t : List Nat) (B syn : Nat) (D : Ds) : Prop where
  odd : OddT t
  may : ∀ g ∈ gs, May g
  kbs : D.kb ≤ D.sb
  ex : ∃ m q, B ≤ m ∧ m ≤ gs.length ∧ syn ≤ m ∧ D.ks ++ D.ap = (recs (gs.drop B) ++ t).take q ∧ ends (gs.drop B) (m - B) ≤ D.ks.length ∧ KPok f0 gs n B m D.kp ∧ ∀ x ∈ D.wr, SWok f0 gs B m x
/-- A pool whose device has its power. -/
structure LV (f0 : Nat → List Nat) (gs : List (List Im)) (t : List Nat) (B : Nat) (P : Po) : Prop where
  st : P.D.ks ++ P.D.ap = recs (gs.drop B) ++ t
  sy : P.sy ≤ ((P.D.kb + P.D.ks.length : Nat) : Int)
  sp : keepW [true] 0 P.D.wr P.D.kp = P.D.sp
  sh : ∀ k s, P.m k = some s → s.dirty = true → ∃ j, B ≤ j ∧ j ≤ gs.length ∧ s.b = Fj f0 gs j k ∧ s.place = ((P.D.kb + ends (gs.drop B) (j - B) : Nat) : Int)
structure Inv (f0 : Nat → List Nat) (gs : List (List Im)) (n : Nat) (t : List Nat) (B syn : Nat) (P : Po) : Prop where
  ki : KI f0 gs n t B syn P.D
  lv : P.D.gone = false → LV f0 gs t B P
section
variable {f0 : Nat → List Nat} {gs : List (List Im)} {n : Nat} {t : List Nat} {B syn : Nat} {P : Po} {c : Nat}
theorem ends_all (l : List (List Im)) {i : Nat} (h : l.length ≤ i) : ends l i = (recs l).length := by unfold ends; rw [List.take_of_length_le h]
theorem ends_le (l : List (List Im)) (i : Nat) : ends l i ≤ (recs l).length := by
  rcases Nat.lt_or_ge i l.length with h | h
  · rw [← ends_all l (Nat.le_refl _)]; exact ends_mono (Nat.le_of_lt h)
  · rw [ends_all l h]; exact Nat.le_refl _
/-- The device is synced. -/
theorem Inv.sync (h : Inv f0 gs n t B syn P) (hE : P.D.Easy n c) {syn' : Nat} (hs : syn' ≤ syn ∨ (P.D.gone = false ∧ syn' ≤ gs.length)) (hB : B ≤ gs.length) : Inv f0 gs n t B syn' { P with D := P.D.sync, sy := P.D.fin } := by
  obtain ⟨m, q, k1, k2, k3, k4, k5, k6, k7⟩ := h.ki.ex
  cases hg : P.D.gone
  · have L := h.lv hg
    have e := hE.sync_is hg
    obtain ⟨b1, b2⟩ := hE.ki hg
    have hlen : (recs (gs.drop B)).length ≤ (P.D.ks ++ P.D.ap).length := by rw [L.st, List.length_append]; omega
    refine ⟨⟨h.ki.odd, h.ki.may, (by show P.D.sync.kb ≤ P.D.sync.sb; rw [e]; exact h.ki.kbs), ?_⟩, fun _ => ⟨?_, ?_, ?_, ?_⟩⟩
    · show ∃ m q, B ≤ m ∧ m ≤ gs.length ∧ syn' ≤ m ∧ P.D.sync.ks ++ P.D.sync.ap = _ ∧ _ ≤ P.D.sync.ks.length ∧ KPok f0 gs n B m P.D.sync.kp ∧ ∀ x ∈ P.D.sync.wr, _
      rw [e]
      refine ⟨gs.length, (recs (gs.drop B) ++ t).length, hB, Nat.le_refl _, by omega, ?_, ?_, (k6.mono (Nat.le_refl _) k2).keep _ _ _ (fun x hx => (k7 x hx).mono (Nat.le_refl _) k2) hE.wr, fun x hx => by cases hx⟩
      · show (P.D.ks ++ P.D.ap) ++ [] = _
        rw [List.append_nil, L.st, List.take_of_length_le (Nat.le_refl _)]
      · show _ ≤ (P.D.ks ++ P.D.ap).length
        exact Nat.le_trans (ends_le _ _) hlen
    · show P.D.sync.ks ++ P.D.sync.ap = _
      rw [e]
      show (P.D.ks ++ P.D.ap) ++ [] = _
      rw [List.append_nil, L.st]
    · show P.D.fin ≤ ((P.D.sync.kb + P.D.sync.ks.length : Nat) : Int)
      rw [e]
      show ((P.D.sb + P.D.ss.length : Nat) : Int) ≤ ((P.D.kb + (P.D.ks ++ P.D.ap).length : Nat) : Int)
      rw [b2, b1]
      exact Int.le_refl _
    · show keepW [true] 0 P.D.sync.wr P.D.sync.kp = P.D.sync.sp
      rw [e]
      exact L.sp
    · intro k s hk hd
      obtain ⟨j, j1, j2, j3, j4⟩ := L.sh k s hk hd
      refine ⟨j, j1, j2, j3, ?_⟩
      show s.place = ((P.D.sync.kb + _ : Nat) : Int)
      rw [e]
      exact j4
  · have e := Ds.sync_gone hg
    refine ⟨⟨h.ki.odd, h.ki.may, (by show P.D.sync.kb ≤ P.D.sync.sb; rw [e]; exact h.ki.kbs), ?_⟩, fun hn => ?_⟩
    · show ∃ m q, B ≤ m ∧ m ≤ gs.length ∧ syn' ≤ m ∧ P.D.sync.ks ++ P.D.sync.ap = _ ∧ _ ≤ P.D.sync.ks.length ∧ KPok f0 gs n B m P.D.sync.kp ∧ ∀ x ∈ P.D.sync.wr, _
      rw [e]
      refine ⟨m, q, k1, k2, ?_, k4, k5, k6, k7⟩
      rcases hs with hs | hs
      · omega
      · rw [hg] at hs
        exact absurd hs.1 (by decide)
    · exfalso
      have hn' : P.D.sync.gone = false := hn
      rw [e, hg] at hn'
      cases hn'
/-- A page is written. -/
theorem Inv.wr (h : Inv f0 gs n t B syn P) (hE : P.D.Easy n c) {k : Nat} (hk : k < n) {b : List Nat} (hb : b.length = 512) (hj : P.D.gone = false → ∃ j, B ≤ j ∧ j ≤ gs.length ∧ b = Fj f0 gs j k ∧ ends (gs.drop B) (j - B) ≤ P.D.ks.length) (m' : Nat → Option Sh) (hm' : ∀ i s, m' i = some s → s.dirty = true → P.m i = some s) : Inv f0 gs n t B syn { P with D := P.D.write k b, m := m' } := by
  obtain ⟨m, q, k1, k2, k3, k4, k5, k6, k7⟩ := h.ki.ex
  obtain ⟨s1, s2, s3, s4, s5, s6, s7, s8, s9, s10⟩ := (P.D.write0 k b).spend_same 4
  cases hg : P.D.gone
  · obtain ⟨j, j1, j2, j3, j4⟩ := hj hg
    have L := h.lv hg
    have h4 : (P.D.write0 k b).spent 4 ≤ 4 := Ds.spent_le _ _
    refine ⟨⟨h.ki.odd, h.ki.may, (by show ((P.D.write0 k b).spend 4).kb ≤ ((P.D.write0 k b).spend 4).sb; rw [s5, s2]; exact h.ki.kbs), max m j, q, by omega, by omega, by omega, ?_, ?_, ?_, fun x hx => ?_⟩, fun hn => ?_⟩
    · show ((P.D.write0 k b).spend 4).ks ++ ((P.D.write0 k b).spend 4).ap = _
      rw [s6, s8]; exact k4
    · show _ ≤ ((P.D.write0 k b).spend 4).ks.length
      rw [s6]
      show _ ≤ P.D.ks.length
      rcases Nat.le_total m j with e | e
      · rw [Nat.max_eq_right e]; exact j4
      · rw [Nat.max_eq_left e]; exact k5
    · show KPok f0 gs n B _ ((P.D.write0 k b).spend 4).kp
      rw [s4]; exact k6.mono (Nat.le_refl _) (by omega)
    · rcases List.mem_append.1 hx with e | e
      · exact (k7 x e).mono (Nat.le_refl _) (by omega)
      · exact secs_in hb j3 j1 (by omega) h4 x e
    · obtain ⟨g1, g2⟩ := (P.D.write0 k b).spend_gone 4 hn
      refine ⟨?_, ?_, ?_, ?_⟩
      · show ((P.D.write0 k b).spend 4).ks ++ ((P.D.write0 k b).spend 4).ap = _
        rw [s6, s8]; exact L.st
      · show P.sy ≤ ((((P.D.write0 k b).spend 4).kb + ((P.D.write0 k b).spend 4).ks.length : Nat) : Int)
        rw [s5, s6]; exact L.sy
      · show keepW [true] 0 (P.D.wr ++ secs (512 * k) b ((P.D.write0 k b).spent 4)) ((P.D.write0 k b).spend 4).kp = ((P.D.write0 k b).spend 4).sp
        rw [s4, s1, g2]
        show keepW [true] 0 (P.D.wr ++ secs (512 * k) b 4) P.D.kp = splice P.D.sp (512 * k) b
        rw [keepT_page P.D.wr 0 P.D.kp b k n hb hk (keepW_length _ _ _ _ _ hE.wr hE.kp), L.sp]
      · intro i s hi hd
        obtain ⟨j, q1, q2, q3, q4⟩ := L.sh i s (hm' i s hi hd) hd
        refine ⟨j, q1, q2, q3, ?_⟩
        show s.place = ((((P.D.write0 k b).spend 4).kb + _ : Nat) : Int)
        rw [s5]; exact q4
  · have e0 : (P.D.write0 k b).spent 4 = 0 := by
      unfold Ds.spent
      rw [if_pos (show (P.D.write0 k b).gone = true from hg)]
    refine ⟨⟨h.ki.odd, h.ki.may, (by show ((P.D.write0 k b).spend 4).kb ≤ ((P.D.write0 k b).spend 4).sb; rw [s5, s2]; exact h.ki.kbs), m, q, k1, k2, k3, ?_, ?_, ?_, fun x hx => ?_⟩, fun hn => ?_⟩
    · show ((P.D.write0 k b).spend 4).ks ++ ((P.D.write0 k b).spend 4).ap = _
      rw [s6, s8]; exact k4
    · show _ ≤ ((P.D.write0 k b).spend 4).ks.length
      rw [s6]; exact k5
    · show KPok f0 gs n B _ ((P.D.write0 k b).spend 4).kp
      rw [s4]; exact k6
    · have hx' : x ∈ P.D.wr ++ secs (512 * k) b ((P.D.write0 k b).spent 4) := hx
      rw [e0] at hx'
      rcases List.mem_append.1 hx' with e | e
      · exact k7 x e
      · cases e
    · have g1 : P.D.gone = false := ((P.D.write0 k b).spend_gone 4 hn).1
      rw [hg] at g1
      cases g1
/-- Sheets may come and go, if the dirty ones are as they must be. -/
theorem Inv.sheets (h : Inv f0 gs n t B syn P) (m' : Nat → Option Sh) (l : List Sp) (z : Int) (hm' : P.D.gone = false → ∀ i s, m' i = some s → s.dirty = true → ∃ j, B ≤ j ∧ j ≤ gs.length ∧ s.b = Fj f0 gs j i ∧ s.place = ((P.D.kb + ends (gs.drop B) (j - B) : Nat) : Int)) : Inv f0 gs n t B syn ⟨P.D, l, z, m', P.sy⟩ :=
  ⟨h.ki, fun hg => ⟨(h.lv hg).st, (h.lv hg).sy, (h.lv hg).sp, hm' hg⟩⟩
theorem Inv.write (h : Inv f0 gs n t B syn P) (hW : P.Wet n c) (hB : B ≤ gs.length) (k : Nat) : Inv f0 gs n t B syn (P.write k) := by
  unfold Po.write
  cases hp : P.m k with
  | none => exact h
  | some s =>
    simp only
    split
    · rename_i hd
      obtain ⟨hk, hl, hx⟩ := hW.sh k s hp
      have hA : Inv f0 gs n t B syn (P.ahead s.place) ∧ (P.D.gone = false → ∃ j, B ≤ j ∧ j ≤ gs.length ∧ s.b = Fj f0 gs j k ∧ ends (gs.drop B) (j - B) ≤ (P.ahead s.place).D.ks.length) := by
        unfold Po.ahead
        by_cases hz : P.sy < s.place
        · rw [if_pos hz]
          refine ⟨h.sync hW.dev (.inl (Nat.le_refl _)) hB, fun hg => ?_⟩
          obtain ⟨j, j1, j2, j3, j4⟩ := (h.lv hg).sh k s hp hd
          refine ⟨j, j1, j2, j3, ?_⟩
          show _ ≤ P.D.sync.ks.length
          rw [hW.dev.sync_is hg]
          show _ ≤ (P.D.ks ++ P.D.ap).length
          rw [(h.lv hg).st, List.length_append]
          exact Nat.le_trans (ends_le _ _) (Nat.le_add_right _ _)
        · rw [if_neg hz]
          refine ⟨h, fun hg => ?_⟩
          obtain ⟨j, j1, j2, j3, j4⟩ := (h.lv hg).sh k s hp hd
          refine ⟨j, j1, j2, j3, ?_⟩
          have := (h.lv hg).sy
          omega
      have hag : (P.ahead s.place).D.gone = P.D.gone := by
        unfold Po.ahead
        split
        · unfold Ds.sync
          split
          · rfl
          · exact (P.D.keep_ag _ _ _).2
        · rfl
      refine Inv.wr hA.1 (hW.ahead s.place).dev hk hl (fun hg => hA.2 (by rw [← hag]; exact hg)) _ (fun i s' hi hd' => ?_)
      by_cases e : i = k
      · rw [if_pos e] at hi
        cases hi
        cases hd'
      · rw [if_neg e] at hi
        exact hi
    · exact h
theorem Inv.out (h : Inv f0 gs n t B syn P) (hW : P.Wet n c) (hB : B ≤ gs.length) (k : Nat) : Inv f0 gs n t B syn (P.out k) := by
  have hw := h.write hW hB k
  refine hw.sheets _ _ _ (fun hg i s hi hd => ?_)
  by_cases e : i = k
  · rw [if_pos e] at hi; cases hi
  · rw [if_neg e] at hi
    exact (hw.lv hg).sh i s hi hd
theorem Inv.clock (h : Inv f0 gs n t B syn P) (l : List Sp) (z : Int) : Inv f0 gs n t B syn (P.clock l z) := h.sheets _ _ _ (fun hg => (h.lv hg).sh)
theorem Inv.letIn (h : Inv f0 gs n t B syn P) (hW : P.Wet n c) (hB : B ≤ gs.length) (k : Nat) : Inv f0 gs n t B syn (P.letIn k) := by
  have h1 : ∀ (l : List Sp) (z was : Int), Inv f0 gs n t B syn ((P.clock l z).left was) := fun l z was => by
    unfold Po.left
    split
    · exact (h.clock l z).out (hW.clock l z) hB _
    · exact h.clock l z
  have h2 : ∀ Q : Po, Inv f0 gs n t B syn Q → Inv f0 gs n t B syn (Q.fetch k) := fun Q hQ => by
    unfold Po.fetch
    split
    · exact hQ
    · refine hQ.sheets _ _ _ (fun hg i s hi hd => ?_)
      by_cases e : i = k
      · rw [if_pos e] at hi; cases hi; cases hd
      · rw [if_neg e] at hi
        exact (hQ.lv hg).sh i s hi hd
  exact h2 _ (h1 _ _ _)
theorem Inv.set (h : Inv f0 gs n t B syn P) (hW : P.Wet n c) (hB : B ≤ gs.length) {k : Nat} (hk : k < n) (b : List Nat) (z : Int) (hj : (P.letIn k).D.gone = false → ∃ j, B ≤ j ∧ j ≤ gs.length ∧ b = Fj f0 gs j k ∧ z = ((P.D.sb + ends (gs.drop B) (j - B) : Nat) : Int)) : Inv f0 gs n t B syn (P.set k b z) := by
  have hl := h.letIn hW hB k
  refine hl.sheets _ _ _ (fun hg i s hi hd => ?_)
  by_cases e : i = k
  · rw [if_pos e] at hi; cases hi
    rw [e]
    obtain ⟨j, j1, j2, j3, j4⟩ := hj hg
    refine ⟨j, j1, j2, j3, ?_⟩
    rw [((hW.letIn hk).dev.ki hg).1, letIn_sb]
    exact j4
  · rw [if_neg e] at hi
    exact (hl.lv hg).sh i s hi hd
theorem Inv.writes (hB : B ≤ gs.length) : ∀ (l : List Nat) {P : Po} {c : Nat}, Inv f0 gs n t B syn P → P.Wet n c → Inv f0 gs n t B syn (l.foldl Po.write P)
  | [], P, c, h, _ => h
  | k :: l, P, c, h, hW => Inv.writes hB l (h.write hW hB k) (hW.write k)
theorem Inv.evictAny (h : Inv f0 gs n t B syn P) (hW : P.Wet n c) (hB : B ≤ gs.length) (k : Int) : Inv f0 gs n t B syn (P.evictAny k) := by
  unfold Po.evictAny
  split
  · exact (h.out hW hB _).clock _ _
  · exact h
end
end Go.Proofs.YtpggkfdnpdhkfaaGreat

namespace Go.Proofs.YtpggkfdnpdhkfaaGreat
open Go.RowKit
set_option maxRecDepth 100000
set_option linter.unusedVariables false

theorem upd_none : ∀ (g : List Im) (f : Nat → List Nat) {k : Nat}, (∀ y ∈ g, y.page ≠ ((k : Nat) : Int)) → upd f g k = f k
  | [], f, k, _ => rfl
  | x :: g, f, k, h => by
    show upd (updI f x) g k = f k
    rw [upd_none g (updI f x) (fun y hy => h y (by simp [hy]))]
    unfold updI
    rw [if_neg (h x (by simp))]
theorem upd_mem : ∀ (g : List Im) (f : Nat → List Nat), Ap.Steep Im.page g → ∀ i ∈ g, 0 ≤ i.page → upd f g i.page.toNat = i.bs
  | [], f, _, i, hi, _ => by cases hi
  | x :: g, f, hs, i, hi, h0 => by
    show upd (updI f x) g i.page.toNat = i.bs
    rcases List.mem_cons.1 hi with rfl | hi
    · rw [upd_none g _ (fun y hy => by have := hs.1 y hy; omega)]
      unfold updI
      rw [if_pos (by omega)]
    · exact upd_mem g _ hs.2 i hi h0
theorem Fj_img {f0 : Nat → List Nat} {gs : List (List Im)} {r : Nat} (hr : r < gs.length) (hm : May gs[r]) {i : Im} (hi : i ∈ gs[r]) : i.bs = Fj f0 gs (r + 1) i.page.toNat := by
  rw [Fj_succ f0 gs hr]
  exact (upd_mem _ _ hm.steep i hi (hm.mem hi).1).symm
theorem Fj_len {f0 : Nat → List Nat} {gs : List (List Im)} {n : Nat} (h0 : ∀ k, k < n → (f0 k).length = 512) (hm : ∀ g ∈ gs, May g) : ∀ j k, k < n → (Fj f0 gs j k).length = 512 := by
  have key : ∀ (g : List Im) (f : Nat → List Nat), (∀ i ∈ g, i.bs.length = 512) → ∀ k, (f k).length = 512 → (upd f g k).length = 512 := by
    intro g
    induction g with
    | nil => intro f _ k h; exact h
    | cons x g ih =>
      intro f hl k h
      refine ih (updI f x) (fun i hi => hl i (by simp [hi])) k ?_
      unfold updI
      split
      · exact hl x (by simp)
      · exact h
  have key2 : ∀ (l : List (List Im)) (f : Nat → List Nat), (∀ g ∈ l, May g) → ∀ k, (f k).length = 512 → (upds f l k).length = 512 := by
    intro l
    induction l with
    | nil => intro f _ k h; exact h
    | cons g l ih =>
      intro f hl k h
      exact ih (upd f g) (fun x hx => hl x (by simp [hx])) k (key g f (hl g (by simp)).len k h)
  intro j k hk
  exact key2 _ _ (fun g hg => hm g (List.mem_of_mem_take hg)) k (h0 k hk)
section
variable {f0 : Nat → List Nat} {gs : List (List Im)} {n : Nat} {t : List Nat} {B syn : Nat} {P : Po} {c : Nat}
theorem Wet.putA (h : P.Wet n c) {i : Im} (hb : i.bs.length = 512) (hx : Bytes i.bs) (z : Int) : (P.putA n i z).Wet n (c + 4) := by
  unfold Po.putA
  split
  · exact h.set (by omega) hb hx z
  · exact h.more (by omega)
/-- The images of a group are put. -/
theorem Inv.puts (hB : B ≤ gs.length) {j : Nat} (j1 : B ≤ j) (j2 : j ≤ gs.length) {z : Int} : ∀ (g : List Im) {P : Po} {c : Nat}, Inv f0 gs n t B syn P → P.Wet n c → (∀ i ∈ g, i.bs.length = 512 ∧ Bytes i.bs) → (∀ i ∈ g, 0 ≤ i.page → i.bs = Fj f0 gs j i.page.toNat) → z = ((P.D.sb + ends (gs.drop B) (j - B) : Nat) : Int) → Inv f0 gs n t B syn (P.puts n g z) ∧ (P.puts n g z).Wet n (c + 4 * g.length)
  | [], P, c, h, hW, _, _, _ => ⟨h, hW⟩
  | i :: g, P, c, h, hW, hl, hf, hz => by
    have hi := hl i (by simp)
    have h1 : Inv f0 gs n t B syn (P.putA n i z) := by
      unfold Po.putA
      split
      · rename_i hp
        exact h.set hW hB (k := i.page.toNat) (by omega) i.bs z (fun _ => ⟨j, j1, j2, hf i (by simp) hp.1, hz⟩)
      · exact h
    have h2 := Wet.putA hW hi.1 hi.2 z
    have h3 := Inv.puts (z := z) hB j1 j2 g h1 h2 (fun x hx => hl x (by simp [hx])) (fun x hx => hf x (by simp [hx])) (by rw [putA_sb]; exact hz)
    refine ⟨h3.1, ?_⟩
    rw [List.length_cons, show c + 4 * (g.length + 1) = c + 4 + 4 * g.length by omega]
    exact h3.2
theorem ends_app (l : List (List Im)) (g : List Im) {i : Nat} (h : i ≤ l.length) : ends (l ++ [g]) i = ends l i := by
  unfold ends
  rw [List.take_append_of_le_length h]
/-- A record is appended, the power being there. -/
theorem Inv.append (h : Inv f0 gs n [] B syn P) (hE : P.D.Easy n c) (hg : P.D.gone = false) (hB : B ≤ gs.length) {g : List Im} (hm : May g) : Inv f0 (gs ++ [g]) n [] B syn { P with D := P.D.append (recd g) } := by
  obtain ⟨m, q, k1, k2, k3, k4, k5, k6, k7⟩ := h.ki.ex
  have L := h.lv hg
  obtain ⟨s1, s2, s3, s4, s5, s6, s7, s8, s9, s10⟩ := P.D.spend_same (recd g).length
  have hdl : (gs.drop B).length = gs.length - B := List.length_drop
  have hd : (gs ++ [g]).drop B = gs.drop B ++ [g] := List.drop_append_of_le_length hB
  have hF : ∀ j, j ≤ m → Fj f0 (gs ++ [g]) j = Fj f0 gs j := fun j hj => Fj_app f0 gs [g] (by omega)
  have hst : P.D.ks ++ P.D.ap = recs (gs.drop B) := by have := L.st; rw [List.append_nil] at this; exact this
  have hrec : recs (gs.drop B ++ [g]) = recs (gs.drop B) ++ recd g := by rw [recs_append]; simp [recs]
  refine ⟨⟨oddT_nil, fun x hx => ?_, (by show (P.D.spend (recd g).length).kb ≤ (P.D.spend (recd g).length).sb; rw [s5, s2]; exact h.ki.kbs), m, (recs (gs.drop B)).length + P.D.spent (recd g).length, k1, by rw [List.length_append]; omega, k3, ?_, ?_, ?_, fun x hx => ?_⟩, fun hn => ⟨?_, ?_, ?_, ?_⟩⟩
  · rcases List.mem_append.1 hx with e | e
    · exact h.ki.may x e
    · rw [List.mem_singleton.1 e]; exact hm
  · show (P.D.spend (recd g).length).ks ++ (P.D.ap ++ (recd g).take (P.D.spent (recd g).length)) = _
    rw [s6, ← List.append_assoc, hst, hd, hrec, List.append_nil, List.take_append, List.take_of_length_le (Nat.le_add_right _ _), Nat.add_sub_cancel_left]
  · show _ ≤ (P.D.spend (recd g).length).ks.length
    rw [s6, hd, ends_app _ _ (by omega)]
    exact k5
  · show KPok _ _ _ _ _ (P.D.spend (recd g).length).kp
    rw [s4]
    exact k6.more hF
  · have hx' : x ∈ (P.D.spend (recd g).length).wr := hx
    rw [s7] at hx'
    exact (k7 x hx').more hF
  · obtain ⟨_, g2⟩ := P.D.spend_gone _ hn
    show (P.D.spend (recd g).length).ks ++ (P.D.ap ++ (recd g).take (P.D.spent (recd g).length)) = _
    rw [s6, ← List.append_assoc, hst, hd, hrec, g2, List.append_nil, List.take_of_length_le (Nat.le_refl _)]
  · show P.sy ≤ (((P.D.spend (recd g).length).kb + (P.D.spend (recd g).length).ks.length : Nat) : Int)
    rw [s5, s6]
    exact L.sy
  · show keepW [true] 0 (P.D.spend (recd g).length).wr (P.D.spend (recd g).length).kp = (P.D.spend (recd g).length).sp
    rw [s7, s4, s1]
    exact L.sp
  · intro k s hk hdt
    obtain ⟨j, q1, q2, q3, q4⟩ := L.sh k s hk hdt
    refine ⟨j, q1, by rw [List.length_append]; omega, by rw [Fj_app f0 gs [g] q2]; exact q3, ?_⟩
    show s.place = (((P.D.spend (recd g).length).kb + _ : Nat) : Int)
    rw [s5, hd, ends_app _ _ (by omega)]
    exact q4
/-- A group is turned, the power being there. -/
theorem Inv.apply (h : Inv f0 gs n [] B syn P) (hF : P.Fine n c) (hg : P.D.gone = false) (hB : B ≤ gs.length) {g : List Im} (hm : May g) (hb : ImB g) (hs : P.D.ss.length + (recd g).length ≤ 65536) : Inv f0 (gs ++ [g]) n [] B syn (P.apply n g) := by
  have h1 := h.append hF.wet.dev hg hB hm
  have hlen : (gs ++ [g]).length = gs.length + 1 := by simp
  have hd : (gs ++ [g]).drop B = gs.drop B ++ [g] := List.drop_append_of_le_length hB
  have L := h.lv hg
  obtain ⟨b1, b2⟩ := hF.wet.dev.ki hg
  have hst : P.D.ss = recs (gs.drop B) := by rw [← b2]; have := L.st; rw [List.append_nil] at this; exact this
  refine (Inv.puts (j := gs.length + 1) (by rw [hlen]; omega) (by omega) (by rw [hlen]; exact Nat.le_refl _) g h1 ⟨hF.wet.dev.append (recd g) hs, hF.wet.sh⟩ (fun i hi => ⟨hm.len i hi, hb i hi⟩) (fun i hi _ => ?_) ?_).1
  · have hr : gs.length < (gs ++ [g]).length := by omega
    have e : (gs ++ [g])[gs.length] = g := by simp
    have := Fj_img (f0 := f0) (gs := gs ++ [g]) (r := gs.length) hr (by rw [e]; exact hm) (i := i) (by rw [e]; exact hi)
    exact this
  · show ((P.D.append (recd g)).fin) = _
    have e1 : ends ((gs ++ [g]).drop B) (gs.length + 1 - B) = (recs (gs.drop B)).length + (recd g).length := by
      rw [ends_all _ (by rw [List.length_drop, hlen]; exact Nat.le_refl _), hd, recs_append, List.length_append]
      simp [recs]
    unfold Ds.fin
    rw [(append_ss P.D (recd g)).1, List.length_append, hst]
    show (((P.D.append (recd g)).sb + _ : Nat) : Int) = _
    rw [e1]

theorem syncM_eq (P : Po) : P.syncM = { P with D := P.D.sync, sy := P.D.fin } := by
  show ({ P with D := P.D.sync, sy := P.D.sync.fin } : Po) = _
  rw [P.D.sync_fin]
theorem Inv.syncM (h : Inv f0 gs n t B syn P) (hE : P.D.Easy n c) {syn' : Nat} (hs : syn' ≤ syn ∨ (P.D.gone = false ∧ syn' ≤ gs.length)) (hB : B ≤ gs.length) : Inv f0 gs n t B syn' P.syncM := by
  rw [syncM_eq]
  exact h.sync hE hs hB
/-- What a trimming of all and its Sync leave. -/
theorem Ds.Easy.cut_cases {D : Ds} (h : D.Easy n c) : (D.gone = false ∧ ∃ l : Int, (D.trim (D.sb + D.ss.length)).sync = { D with ss := [], sb := D.sb + D.ss.length, kp := keepW [true] 0 D.wr D.kp, ks := [], kb := D.sb + D.ss.length, wr := [], ap := [], tr := [], left := l }) ∨ (∃ l : Int, (D.trim (D.sb + D.ss.length)).sync = { D with ss := [], sb := D.sb + D.ss.length, left := l, gone := true }) := by
  have hd : D.ss.drop (D.sb + D.ss.length - D.sb) = [] := List.drop_eq_nil_of_le (by omega)
  obtain ⟨l, hl, ⟨hg, e⟩ | e⟩ := D.trim_cases h.al (D.sb + D.ss.length)
  · refine .inl ⟨hg, l, ?_⟩
    rw [e]
    obtain ⟨k1, k2⟩ := h.ki hg
    have ht := h.tr
    unfold Ds.sync
    rw [if_neg (by show ¬ D.gone = true; rw [hg]; decide)]
    unfold Ds.keep Ds.keepU Ds.units
    rw [if_neg (by show ¬ (D.tr ++ [_]).length = 0; simp)]
    simp only [ht, List.nil_append, List.length_cons, List.length_nil, hd]
    have e1 : D.ap.length + (0 + 1) - (0 + 1) = D.ap.length := by omega
    rw [e1, List.take_of_length_le (Nat.le_refl _), k2]
    have e2 : (([⟨D.ap.length + 0, D.sb + D.ss.length⟩] : List Tm).getD (0 + 1 - 1) tmD).place = D.sb + D.ss.length := rfl
    rw [e2, List.drop_eq_nil_of_le (by omega)]
  · refine .inr ⟨l, ?_⟩
    rw [e, hd]
    exact Ds.sync_gone rfl
theorem page_getD {xs : List Nat} {n pos : Nat} (hl : xs.length = 512 * n) (hp : pos < 512 * n) : ((xs.drop (512 * (pos / 512))).take 512).getD (pos % 512) 0 = xs.getD pos 0 := by
  simp only [List.getD, List.getElem?_take, List.getElem?_drop]
  rw [if_pos (Nat.mod_lt _ (by omega))]
  congr 2
  omega
theorem Inv.check (h : Inv f0 gs n t B syn P) (hF : P.Fine n c) (hc : c + 4 * n ≤ 9000) (hB : B ≤ gs.length) (hcon : P.D.gone = false → ∀ k, k < n → P.con k = Fj f0 gs gs.length k) :
    ∃ B' t', B' ≤ gs.length ∧ Inv f0 gs n t' B' syn (P.check n) ∧ ((P.check n).D.gone = false → B' = gs.length ∧ t' = [] ∧ P.D.gone = false) := by
  have h1 : Inv f0 gs n t B syn (P.flush n) := Inv.writes hB _ h hF.wet
  have hFf := hF.flush hc
  have h2 : Inv f0 gs n t B syn (P.flush n).syncM := h1.syncM hFf.wet.dev (.inl (Nat.le_refl _)) hB
  have hFs := hFf.syncM
  obtain ⟨m, q, k1, k2, k3, k4, k5, k6, k7⟩ := h2.ki.ex
  have hcheck : P.check n = (P.flush n).syncM.trimM.syncM := rfl
  have hD : (P.check n).D = ((P.flush n).syncM.D.trim ((P.flush n).syncM.D.sb + (P.flush n).syncM.D.ss.length)).sync := rfl
  have hgone : P.D.gone = true → (P.flush n).syncM.D.gone = true := by
    intro hg
    have hw : ∀ (l : List Nat) (Q : Po), Q.D.gone = true → (l.foldl Po.write Q).D.gone = true := by
      intro l
      induction l with
      | nil => intro Q hq; exact hq
      | cons k l ih =>
        intro Q hq
        refine ih (Q.write k) ?_
        unfold Po.write
        cases Q.m k with
        | none => exact hq
        | some s =>
          simp only
          split
          · have ha : (Q.ahead s.place).D.gone = true := by
              unfold Po.ahead
              split
              · show Q.D.sync.gone = true
                rw [Ds.sync_gone hq]; exact hq
              · exact hq
            show ((Q.ahead s.place).D.write k s.b).gone = true
            cases hh : ((Q.ahead s.place).D.write k s.b).gone
            · have := (((Q.ahead s.place).D.write0 k s.b).spend_gone 4 hh).1
              have e : (Q.ahead s.place).D.gone = false := this
              rw [ha] at e
              cases e
            · rfl
          · exact hq
    have h5 := hw (P.dirty n) P hg
    show (P.flush n).D.sync.gone = true
    rw [Ds.sync_gone (show (P.flush n).D.gone = true from h5)]
    exact h5
  rcases hFs.wet.dev.cut_cases with ⟨hg, l, e⟩ | ⟨l, e⟩
  · -- the power is there
    have hg0 : P.D.gone = false := by
      cases hh : P.D.gone
      · rfl
      · rw [hgone hh] at hg; cases hg
    have L := h2.lv hg
    have hok := hF.ok.flush
    have hclean : ∀ k s, (P.flush n).m k = some s → s.dirty = false := by
      intro k s hk
      have hkn := (hok.1.ok.sh k s hk).1
      have hd : ∀ i, i < n → (P.flush n).isDirty i = false := by
        intro i hi
        cases hh : (P.flush n).isDirty i
        · rfl
        · have : i ∈ (P.flush n).dirty n := List.mem_filter.2 ⟨List.mem_range.2 hi, hh⟩
          rw [hok.2] at this
          cases this
      have := hd k hkn
      unfold Po.isDirty at this
      rw [hk] at this
      exact this
    have hpage : ∀ k, k < n → (P.flush n).syncM.D.page k = Fj f0 gs gs.length k := by
      intro k hk
      rw [show (P.flush n).syncM.D.page k = (P.flush n).D.page k from Ds.sync_page _ _, ← hcon hg0 k hk, ← hok.1.con k hk]
      unfold Po.con
      cases hmk : (P.flush n).m k with
      | none => rfl
      | some s => exact (hok.1.ok.clean k s hmk (hclean k s hmk)).symm
    have hspl : (P.flush n).syncM.D.sp.length = 512 * n := hFs.wet.dev.sp
    refine ⟨gs.length, [], Nat.le_refl _, ⟨⟨oddT_nil, h.ki.may, (by rw [hD, e]; exact Nat.le_refl _), gs.length, 0, Nat.le_refl _, Nat.le_refl _, by omega, ?_, ?_, ?_, ?_⟩, fun _ => ⟨?_, ?_, ?_, ?_⟩⟩, fun _ => ⟨rfl, rfl, hg0⟩⟩
    · rw [hD, e]; rfl
    · rw [Nat.sub_self]; exact Nat.zero_le _
    · rw [hD, e]
      show KPok f0 gs n _ _ (keepW [true] 0 (P.flush n).syncM.D.wr (P.flush n).syncM.D.kp)
      rw [L.sp]
      refine ⟨hspl, fun pos hp => ⟨gs.length, Nat.le_refl _, Nat.le_refl _, ?_⟩⟩
      rw [← hpage (pos / 512) (by omega)]
      exact page_getD hspl hp
    · rw [hD, e]
      intro x hx
      cases hx
    · rw [hD, e, List.drop_eq_nil_of_le (Nat.le_refl _)]; rfl
    · show ((P.flush n).syncM.trimM.D.sync.fin) ≤ _
      have hD' : (P.flush n).syncM.trimM.D.sync = (P.check n).D := rfl
      rw [hD', hD, e]
      exact Int.le_refl _
    · rw [hD, e]
      exact L.sp
    · intro k s hk hd
      rw [hclean k s hk] at hd
      cases hd
  · refine ⟨B, t, hB, ⟨⟨h.ki.odd, h.ki.may, (by rw [hD, e]; exact Nat.le_trans h2.ki.kbs (Nat.le_add_right _ _)), m, q, k1, k2, k3, ?_, ?_, ?_, ?_⟩, fun hn => ?_⟩, fun hn => ?_⟩
    · rw [hD, e]; exact k4
    · rw [hD, e]; exact k5
    · rw [hD, e]; exact k6
    · rw [hD, e]; exact k7
    · rw [hD, e] at hn; cases hn
    · rw [hD, e] at hn; cases hn
end
end Go.Proofs.YtpggkfdnpdhkfaaGreat

namespace Go.Proofs.YtpggkfdnpdhkfaaGreat
open Go.RowKit
set_option maxRecDepth 100000
set_option linter.unusedVariables false

theorem OddT.take {t : List Nat} (h : OddT t) (q : Nat) : OddT (t.take q) := fun p => by rw [List.take_take]; exact h _
theorem oddT_part {g : List Im} (hm : May g) {q : Nat} (hq : q < (recd g).length) : OddT ((recd g).take q) := fun p => by
  rw [List.take_take, dec_part hm (min p q) (by omega)]
  decide
theorem ends_cons (g : List Im) (G : List (List Im)) (i : Nat) : ends (g :: G) (i + 1) = (recd g).length + ends G i := by
  unfold ends
  rw [List.take_succ_cons]
  show (recd g ++ recs (G.take i)).length = _
  rw [List.length_append]
/-- Where a stream is cut: so many groups are whole, the rest is no group. -/
theorem cut_str {t : List Nat} (ht : OddT t) : ∀ (G : List (List Im)) (q : Nat), (∀ g ∈ G, May g) → ∃ cc t', cc ≤ G.length ∧ (recs G ++ t).take q = recs (G.take cc) ++ t' ∧ OddT t' ∧ ∀ i, i ≤ G.length → ends G i ≤ q → i ≤ cc
  | [], q, _ => ⟨0, t.take q, Nat.le_refl _, rfl, ht.take q, fun i hi _ => hi⟩
  | g :: G, q, hm => by
    have e0 : recs (g :: G) ++ t = recd g ++ (recs G ++ t) := by simp [recs]
    by_cases hq : (recd g).length ≤ q
    · obtain ⟨cc, t', c1, c2, c3, c4⟩ := cut_str ht G (q - (recd g).length) (fun x hx => hm x (by simp [hx]))
      refine ⟨cc + 1, t', by rw [List.length_cons]; omega, ?_, c3, fun i hi he => ?_⟩
      · rw [e0, List.take_append, List.take_of_length_le hq, c2, List.take_succ_cons]
        simp [recs]
      · cases i with
        | zero => omega
        | succ i =>
          rw [ends_cons] at he
          have := c4 i (by rw [List.length_cons] at hi; omega) (by omega)
          omega
    · refine ⟨0, (recd g).take q, Nat.zero_le _, ?_, oddT_part (hm g (by simp)) (by omega), fun i hi he => ?_⟩
      · rw [e0, List.take_append, show q - (recd g).length = 0 by omega, List.take_zero, List.append_nil]
        simp [recs]
      · cases i with
        | zero => omega
        | succ i =>
          rw [ends_cons] at he
          omega
theorem upd_touch : ∀ (g : List Im) (f h : Nat → List Nat) {k : Nat}, (∃ i ∈ g, i.page = ((k : Nat) : Int)) → upd f g k = upd h g k
  | [], f, h, k, e => by obtain ⟨i, hi, _⟩ := e; cases hi
  | x :: g, f, h, k, e => by
    show upd (updI f x) g k = upd (updI h x) g k
    by_cases ex : x.page = ((k : Nat) : Int)
    · refine upd_at g ?_
      unfold updI
      rw [if_pos ex, if_pos ex]
    · refine upd_touch g _ _ ?_
      obtain ⟨i, hi, hp⟩ := e
      rcases List.mem_cons.1 hi with rfl | hi
      · exact absurd hp ex
      · exact ⟨i, hi, hp⟩
theorem upds_touch : ∀ (G : List (List Im)) (f h : Nat → List Nat) {k : Nat}, (∃ g ∈ G, ∃ i ∈ g, i.page = ((k : Nat) : Int)) → upds f G k = upds h G k
  | [], f, h, k, e => by obtain ⟨g, hg, _⟩ := e; cases hg
  | g :: G, f, h, k, e => by
    show upds (upd f g) G k = upds (upd h g) G k
    by_cases eg : ∃ i ∈ g, i.page = ((k : Nat) : Int)
    · exact upds_at G (upd_touch g f h eg)
    · refine upds_touch G _ _ ?_
      obtain ⟨g', hg', hi⟩ := e
      rcases List.mem_cons.1 hg' with rfl | hg'
      · exact absurd hi eg
      · exact ⟨g', hg', hi⟩
theorem upds_none : ∀ (G : List (List Im)) (f : Nat → List Nat) {k : Nat}, (∀ g ∈ G, ∀ i ∈ g, i.page ≠ ((k : Nat) : Int)) → upds f G k = f k
  | [], f, k, _ => rfl
  | g :: G, f, k, h => by
    show upds (upd f g) G k = f k
    rw [upds_none G _ (fun x hx => h x (by simp [hx])), upd_none g f (h g (by simp))]
section
variable {f0 : Nat → List Nat} {gs : List (List Im)} {n : Nat} {t : List Nat} {B syn : Nat} {c : Nat}
/-- Pages of which each byte is of a state from B on, behind the groups from B on. -/
theorem KPok.done {kp : List Nat} (h : KPok f0 gs n B gs.length kp) (hB : B ≤ gs.length) (h0 : ∀ k, k < n → (f0 k).length = 512) (hm : ∀ g ∈ gs, May g) {D : Ds} (hD : D.sp = kp) (k : Nat) (hk : k < n) : upds D.page (gs.drop B) k = Fj f0 gs gs.length k := by
  have hN : Fj f0 gs gs.length = upds (Fj f0 gs B) (gs.drop B) := by
    unfold Fj
    rw [← upds_append, List.take_append_drop, List.take_length]
  rw [hN]
  by_cases e : ∃ g ∈ gs.drop B, ∃ i ∈ g, i.page = ((k : Nat) : Int)
  · exact upds_touch _ _ _ e
  · refine upds_at _ ?_
    have hne : ∀ g ∈ gs.drop B, ∀ i ∈ g, i.page ≠ ((k : Nat) : Int) := fun g hg i hi hp => e ⟨g, hg, i, hi, hp⟩
    have hj : ∀ j, B ≤ j → j ≤ gs.length → Fj f0 gs j k = Fj f0 gs B k := by
      intro j h1 h2
      have hs : gs.take j = gs.take B ++ (gs.drop B).take (j - B) := by
        rw [← List.take_add, Nat.add_sub_cancel' h1]
      unfold Fj
      rw [hs, upds_append]
      exact upds_none _ _ (fun g hg => hne g (List.mem_of_mem_take hg))
    have hl : (D.page k).length = 512 := by
      show ((D.sp.drop (512 * k)).take 512).length = 512
      rw [List.length_take, List.length_drop, hD, h.len]
      omega
    apply ext_getD
    · rw [hl, Fj_len h0 hm B k hk]
    · intro y hy
      rw [hl] at hy
      obtain ⟨j, j1, j2, j3⟩ := h.at_ (512 * k + y) (by omega)
      rw [show (512 * k + y) / 512 = k by omega, show (512 * k + y) % 512 = y by omega, hj j j1 j2] at j3
      rw [j3]
      have := page_getD (xs := kp) (n := n) (pos := 512 * k + y) h.len (by omega)
      rw [show (512 * k + y) / 512 = k by omega, show (512 * k + y) % 512 = y by omega] at this
      rw [← this, ← hD]
      rfl
/-- What stands behind a crash. -/
theorem KI.crash {D : Ds} (h : KI f0 gs n t B syn D) (hE : D.Easy n c) (hB : B ≤ gs.length) (bs : List Bool) {u : Nat} (hu : u ≤ D.ap.length) :
    ∃ N t', B ≤ N ∧ N ≤ gs.length ∧ syn ≤ N ∧ OddT t' ∧ (D.crash bs u 0).ss = recs ((gs.take N).drop B) ++ t' ∧ KPok f0 (gs.take N) n B N (D.crash bs u 0).kp := by
  obtain ⟨m, q, k1, k2, k3, k4, k5, k6, k7⟩ := h.ex
  have hmd : ∀ g ∈ gs.drop B, May g := fun g hg => h.may g (List.mem_of_mem_drop hg)
  have hdl : (gs.drop B).length = gs.length - B := List.length_drop
  obtain ⟨cc, t', c1, c2, c3, c4⟩ := cut_str h.odd (gs.drop B) (min q (D.ks.length + u)) hmd
  have hks : D.ks.length ≤ q := by
    have := congrArg List.length k4
    rw [List.length_append, List.length_take] at this
    omega
  have hmc := c4 (m - B) (by omega) (by omega)
  have hss : (D.crash bs u 0).ss = D.ks ++ D.ap.take u := by rw [Ds.crash_is]
  have hkp : (D.crash bs u 0).kp = keepW bs 0 D.wr D.kp := by rw [Ds.crash_is]
  refine ⟨B + cc, t', by omega, by omega, by omega, c3, ?_, ?_⟩
  · rw [hss, List.drop_take, Nat.add_sub_cancel_left, ← c2]
    have e1 : D.ks ++ D.ap.take u = (D.ks ++ D.ap).take (D.ks.length + u) := by
      rw [List.take_append, List.take_of_length_le (Nat.le_add_right _ _), Nat.add_sub_cancel_left]
    rw [e1, k4, List.take_take, Nat.min_comm]
  · rw [hkp]
    exact ((k6.keep bs _ _ k7 hE.wr).mono (Nat.le_refl _) (by omega)).more (fun j hj => Fj_take f0 gs hj)
/-- A device that may be opened: its stream, its pages. -/
structure Rdy (f0 : Nat → List Nat) (gs : List (List Im)) (n : Nat) (t : List Nat) (B syn : Nat) (D : Ds) : Prop where
  odd : OddT t
  may : ∀ g ∈ gs, May g
  hB : B ≤ gs.length
  syn : syn ≤ gs.length
  ss : D.ss = recs (gs.drop B) ++ t
  kp : KPok f0 gs n B gs.length D.kp
  sp : D.sp = D.kp
  ks : D.ks = D.ss
  kb : D.kb = D.sb
  ap : D.ap = []
  wr : D.wr = []
  gone : D.gone = false
theorem Rdy.arm {D : Ds} (h : Rdy f0 gs n t B syn D) (k : Int) : Rdy f0 gs n t B syn (D.arm k) := by
  unfold Ds.arm
  rw [if_neg (by rw [h.gone]; decide)]
  exact ⟨h.odd, h.may, h.hB, h.syn, h.ss, h.kp, h.sp, h.ks, h.kb, h.ap, h.wr, h.gone⟩
theorem KI.rdy {D : Ds} (h : KI f0 gs n t B syn D) (hE : D.Easy n c) (hB : B ≤ gs.length) (bs : List Bool) {u : Nat} (hu : u ≤ D.ap.length) : ∃ N t', N ≤ gs.length ∧ syn ≤ N ∧ Rdy f0 (gs.take N) n t' B syn (D.crash bs u 0) := by
  obtain ⟨N, t', n1, n2, n3, n4, n5, n6⟩ := h.crash hE hB bs hu
  have hl : (gs.take N).length = N := by rw [List.length_take]; omega
  refine ⟨N, t', n2, n3, n4, fun g hg => h.may g (List.mem_of_mem_take hg), by omega, by omega, n5, by rw [hl]; exact n6, ?_, ?_, ?_, ?_, ?_, ?_⟩ <;> rw [Ds.crash_is]
theorem Rdy.inv {D : Ds} (h : Rdy f0 gs n t B syn D) (f : Nat) : Inv f0 gs n t B syn (Po.new D f) := by
  refine ⟨⟨h.odd, h.may, (by show D.kb ≤ D.sb; rw [h.kb]; exact Nat.le_refl _), gs.length, (recs (gs.drop B) ++ t).length, h.hB, Nat.le_refl _, h.syn, ?_, ?_, h.kp, ?_⟩, fun _ => ⟨?_, ?_, ?_, fun k s hk => by cases hk⟩⟩
  · show D.ks ++ D.ap = _
    rw [h.ks, h.ap, List.append_nil, h.ss, List.take_of_length_le (Nat.le_refl _)]
  · show _ ≤ D.ks.length
    rw [h.ks, h.ss, List.length_append]
    exact Nat.le_trans (ends_le _ _) (Nat.le_add_right _ _)
  · show ∀ x ∈ D.wr, _
    rw [h.wr]
    intro x hx
    cases hx
  · show D.ks ++ D.ap = _
    rw [h.ks, h.ap, List.append_nil, h.ss]
  · show ((D.sb : Nat) : Int) ≤ ((D.kb + D.ks.length : Nat) : Int)
    rw [h.kb]
    omega
  · show keepW [true] 0 D.wr D.kp = D.sp
    rw [h.wr, h.sp]
    rfl
theorem Wet.puts {z : Int} : ∀ (g : List Im) {P : Po} {c : Nat}, P.Wet n c → (∀ i ∈ g, i.bs.length = 512 ∧ Bytes i.bs) → (P.puts n g z).Wet n (c + 4 * g.length)
  | [], P, c, h, _ => h
  | i :: g, P, c, h, hl => by
    have := Wet.puts g (z := z) (Wet.putA h (hl i (by simp)).1 (hl i (by simp)).2 z) (fun x hx => hl x (by simp [hx]))
    rw [List.length_cons, show c + 4 * (g.length + 1) = c + 4 + 4 * g.length by omega]
    exact this
/-- All groups are put, one by one. -/
theorem Inv.rep (hB : B ≤ gs.length) (ht : OddT t) (hm : ∀ g ∈ gs, May g) (hb : ∀ g ∈ gs, ImB g) : ∀ (d r : Nat), r + d = gs.length → B ≤ r → ∀ {P : Po} {c f : Nat} {z : Int}, Inv f0 gs n t B syn P → P.Wet n c → z = ((P.D.sb + ends (gs.drop B) (r - B) : Nat) : Int) → d < f → Inv f0 gs n t B syn (Po.rep n f P z (recs (gs.drop r) ++ t))
  | 0, r, hr, _, P, c, f, z, h, hW, hz, hf => by
    obtain ⟨f', rfl⟩ : ∃ f', f = f' + 1 := ⟨f - 1, by omega⟩
    have e : recs (gs.drop r) ++ t = t := by rw [List.drop_eq_nil_of_le (by omega)]; rfl
    rw [e]
    unfold Po.rep
    have := ht t.length
    rw [List.take_of_length_le (Nat.le_refl _)] at this
    rw [if_neg this]
    exact h
  | d + 1, r, hr, hBr, P, c, f, z, h, hW, hz, hf => by
    obtain ⟨f', rfl⟩ : ∃ f', f = f' + 1 := ⟨f - 1, by omega⟩
    have hlt : r < gs.length := by omega
    have hg := hm gs[r] (List.getElem_mem hlt)
    have e : recs (gs.drop r) ++ t = recd gs[r] ++ (recs (gs.drop (r + 1)) ++ t) := by
      rw [List.drop_eq_getElem_cons hlt]
      show (recd gs[r] ++ recs (gs.drop (r + 1))) ++ t = _
      rw [List.append_assoc]
    have hd := dec_recd hg (recs (gs.drop (r + 1)) ++ t)
    rw [e]
    unfold Po.rep
    rw [hd, if_pos rfl]
    simp only [List.drop_left]
    have hlen : r - B < (gs.drop B).length := by rw [List.length_drop]; omega
    have hz' : z + (((recd gs[r]).length : Nat) : Int) = ((P.D.sb + ends (gs.drop B) (r + 1 - B) : Nat) : Int) := by
      have e1 : r + 1 - B = (r - B) + 1 := by omega
      have e2 : (gs.drop B).getD (r - B) [] = gs[r] := by
        simp only [List.getD, List.getElem?_drop]
        rw [show B + (r - B) = r by omega, List.getElem?_eq_getElem hlt]
        rfl
      rw [e1, ends_succ hlen, e2, hz]
      omega
    have hp := Inv.puts (z := z + (((recd gs[r]).length : Nat) : Int)) (j := r + 1) hB (by omega) (by omega) gs[r] h hW (fun i hi => ⟨hg.len i hi, hb gs[r] (List.getElem_mem hlt) i hi⟩) (fun i hi _ => Fj_img hlt hg hi) hz'
    exact Inv.rep hB ht hm hb d (r + 1) (by omega) (by omega) hp.1 hp.2 (by rw [puts_sb]; exact hz') (by omega)
/-- What is opened. -/
theorem Rdy.opened {D : Ds} (h : Rdy f0 gs n t B syn D) (hE : D.Easy n c) (hby : Bytes D.ss) (hs : D.ss.length ≤ 65536) (hc : c + 512 + 4 * n ≤ 9000) {f : Nat} (h1 : 1 ≤ f) (h2 : f ≤ 64) (hsb : D.sb + 65536 ≤ 900000000000) (h0 : ∀ k, k < n → (f0 k).length = 512) (hb : ∀ g ∈ gs, ImB g) :
    (∀ k, k < n → (Po.opened D n f).con k = Fj f0 gs gs.length k) ∧ ∃ B' t', B' ≤ gs.length ∧ Inv f0 gs n t' B' syn (Po.opened D n f) ∧ ((Po.opened D n f).D.gone = false → B' = gs.length ∧ t' = []) := by
  obtain ⟨q1, q2⟩ := Po.opened_fine (f := f) hE hby hs hc h1 h2 hsb
  have hmd : ∀ g ∈ gs.drop B, May g := fun g hg => h.may g (List.mem_of_mem_drop hg)
  have ht : (dec t).e ≠ 0 := by have := h.odd t.length; rw [List.take_of_length_le (Nat.le_refl _)] at this; exact this
  have hcon : ∀ k, k < n → (Po.rep n (D.ss.length + 1) (Po.new D f) ((D.sb : Nat) : Int) D.ss).con k = Fj f0 gs gs.length k := by
    intro k hk
    have h3 := (rep_con ht (gs.drop B) (f := D.ss.length + 1) (P := Po.new D f) (z := ((D.sb : Nat) : Int)) (Po.Ok.new hE.sp hE.n2 h1 h2) hmd (by
      have := recs_len (gs.drop B)
      rw [h.ss, List.length_append]
      omega)).2 k hk
    rw [← h.ss] at h3
    rw [h3]
    exact h.kp.done h.hB h0 h.may h.sp k hk
  have hlen : gs.length - B ≤ D.ss.length := by
    have := recs_len (gs.drop B)
    rw [List.length_drop] at this
    rw [h.ss, List.length_append]
    omega
  have hinv : Inv f0 gs n t B syn (Po.rep n (D.ss.length + 1) (Po.new D f) ((D.sb : Nat) : Int) D.ss) := by
    have := Inv.rep (f0 := f0) (n := n) (syn := syn) h.hB h.odd h.may hb (gs.length - B) B (by have := h.hB; omega) (Nat.le_refl _) (P := Po.new D f) (c := c) (f := D.ss.length + 1) (z := ((D.sb : Nat) : Int)) (h.inv f) ⟨hE, fun k s hk => by cases hk⟩ (by
      rw [Nat.sub_self]
      show ((D.sb : Nat) : Int) = ((D.sb + 0 : Nat) : Int)
      rfl) (by omega)
    rw [← h.ss] at this
    exact this
  refine ⟨fun k hk => ?_, ?_⟩
  · show (Po.check _ n).con k = _
    rw [q2.con k hk]
    exact hcon k hk
  · obtain ⟨B', t', b1, b2, b3⟩ := hinv.check q1 (by omega) h.hB (fun _ => hcon)
    exact ⟨B', t', b1, b2, fun hg => ⟨(b3 hg).1, (b3 hg).2.1⟩⟩
end
end Go.Proofs.YtpggkfdnpdhkfaaGreat
