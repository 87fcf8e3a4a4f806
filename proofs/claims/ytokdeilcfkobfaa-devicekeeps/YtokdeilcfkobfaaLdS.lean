/-
  The law of sectors: what the device is behind each write, and its drawn regions.
-/
import Derived.Test.YtokdeilcfkobfaaLdR
namespace Go.Proofs.Ytokdeilcfkobfaa
open Go.RowKit

theorem keepW_append (bs : List Bool) : ∀ (l m : List Sw) (i : Nat) (kp : List Nat), keepW bs i (l ++ m) kp = keepW bs (i + l.length) m (keepW bs i l kp)
  | [], m, i, kp => rfl
  | x :: r, m, i, kp => by
    show keepW bs (i + 1) (r ++ m) _ = _
    rw [keepW_append bs r m (i + 1)]
    simp only [keepW, List.length_cons]
    rw [show i + (r.length + 1) = i + 1 + r.length by omega]
theorem rep_part (n c a b : Nat) (h : a + b ≤ n) : ((List.replicate n c).drop a).take b = List.replicate b c := by
  rw [List.drop_replicate, List.take_replicate]
  congr 1
  omega
theorem secs_rep (c n : Nat) (hn : n ≤ 4) : secs 0 (List.replicate 512 c) n = (List.range n).map fun s => ⟨128 * s, List.replicate 128 c⟩ := by
  unfold secs
  apply List.map_congr_left
  intro s hs
  have := List.mem_range.1 hs
  rw [rep_part 512 c (128 * s) 128 (by omega), Nat.zero_add]
theorem hit_true (i : Nat) : hit [true] i = true := by simp [hit, Nat.mod_one]
theorem splice_get (xs ys : List Nat) (o i : Nat) (h : o + ys.length ≤ xs.length) : (splice xs o ys).getD i 0 = if o ≤ i ∧ i < o + ys.length then ys.getD (i - o) 0 else xs.getD i 0 := by
  have hlo : (xs.take o).length = o := by rw [List.length_take]; omega
  unfold splice
  simp only [List.getD]
  by_cases h1 : i < o
  · rw [if_neg (by omega), List.append_assoc, List.getElem?_append_left (by omega), List.getElem?_take, if_pos h1]
  · by_cases h2 : i < o + ys.length
    · rw [if_pos ⟨by omega, h2⟩, List.getElem?_append_left (by rw [List.length_append]; omega), List.getElem?_append_right (by omega), hlo]
    · rw [if_neg (fun e => h2 e.2), List.getElem?_append_right (by rw [List.length_append]; omega), List.getElem?_drop]
      congr 2
      rw [List.length_append]
      omega
theorem rep_get (n c i : Nat) (h : i < n) : (List.replicate n c).getD i 0 = c := by simp [List.getD, h]
theorem list_rep (xs : List Nat) (n c : Nat) (hl : xs.length = n) (h : ∀ i, i < n → xs.getD i 0 = c) : xs = List.replicate n c := by
  apply List.ext_getElem
  · rw [hl, List.length_replicate]
  · intro i h1 h2
    have := h i (by omega)
    simpa [List.getD, h1] using this
/-- Four sectors of one byte, kept, are a page of it. -/
theorem keep_page (kp : List Nat) (h : kp.length = 512) (i c : Nat) : keepW [true] i (secs 0 (List.replicate 512 c) 4) kp = List.replicate 512 c := by
  rw [secs_rep c 4 (by omega), show (List.range 4).map (fun s => (⟨128 * s, List.replicate 128 c⟩ : Sw)) = [⟨0, List.replicate 128 c⟩, ⟨128, List.replicate 128 c⟩, ⟨256, List.replicate 128 c⟩, ⟨384, List.replicate 128 c⟩] from rfl]
  simp only [keepW, hit_true, if_true]
  obtain ⟨r, hr⟩ : ∃ r, r = List.replicate 128 c := ⟨_, rfl⟩
  have hrl : r.length = 128 := by rw [hr, List.length_replicate]
  have hrg : ∀ j, j < 128 → r.getD j 0 = c := fun j hj => by rw [hr]; exact rep_get 128 c j hj
  rw [← hr]
  have l1 : (splice kp 0 r).length = 512 := by rw [splice_length _ _ _ (by omega), h]
  have l2 : (splice (splice kp 0 r) 128 r).length = 512 := by rw [splice_length _ _ _ (by omega), l1]
  have l3 : (splice (splice (splice kp 0 r) 128 r) 256 r).length = 512 := by rw [splice_length _ _ _ (by omega), l2]
  refine list_rep _ _ _ (by rw [splice_length _ _ _ (by omega), l3]) fun j hj => ?_
  rw [splice_get _ _ _ _ (by omega), splice_get _ _ _ _ (by omega), splice_get _ _ _ _ (by omega), splice_get _ _ _ _ (by omega), hrl]
  by_cases h1 : j < 128
  · rw [if_neg (by omega), if_neg (by omega), if_neg (by omega), if_pos (by omega)]
    exact hrg _ (by omega)
  · by_cases h2 : j < 256
    · rw [if_neg (by omega), if_neg (by omega), if_pos (by omega)]
      exact hrg _ (by omega)
    · by_cases h3 : j < 384
      · rw [if_neg (by omega), if_pos (by omega)]
        exact hrg _ (by omega)
      · rw [if_pos (by omega)]
        exact hrg _ (by omega)

/-- A page each of whose sectors is of one byte, of lo to hi. -/
structure Pg (lo hi : Nat) (xs : List Nat) : Prop where
  len : xs.length = 512
  at_ : ∀ i, i < 512 → xs.getD i 0 = xs.getD (i / 128 * 128) 0 ∧ lo ≤ xs.getD i 0 ∧ xs.getD i 0 ≤ hi
/-- A sector's write of one byte, of lo to hi. -/
def Sw.One (lo hi : Nat) (x : Sw) : Prop := ∃ s v, s < 4 ∧ x = ⟨128 * s, List.replicate 128 v⟩ ∧ lo ≤ v ∧ v ≤ hi
theorem Pg.splice {lo hi : Nat} {xs : List Nat} (h : Pg lo hi xs) {x : Sw} (hx : x.One lo hi) : Pg lo hi (splice xs x.at_ x.b) := by
  obtain ⟨s, v, hs, rfl, h1, h2⟩ := hx
  obtain ⟨r, hr⟩ : ∃ r, r = List.replicate 128 v := ⟨_, rfl⟩
  have hrl : r.length = 128 := by rw [hr, List.length_replicate]
  have hrg : ∀ j, j < 128 → r.getD j 0 = v := fun j hj => by rw [hr]; exact rep_get 128 v j hj
  have hl := h.len
  show Pg lo hi (Go.Proofs.Ytokdeilcfkobfaa.splice xs (128 * s) (List.replicate 128 v))
  rw [← hr]
  refine ⟨by rw [splice_length _ _ _ (by omega), hl], fun i hi' => ?_⟩
  rw [splice_get _ _ _ _ (by omega), splice_get _ _ _ _ (by omega), hrl]
  by_cases hc : 128 * s ≤ i ∧ i < 128 * s + 128
  · rw [if_pos hc, if_pos (by omega), hrg _ (by omega), hrg _ (by omega)]
    exact ⟨rfl, h1, h2⟩
  · rw [if_neg hc, if_neg (by omega)]
    exact h.at_ i hi'
theorem keepW_pg (lo hi : Nat) (bs : List Bool) : ∀ (l : List Sw) (i : Nat) (kp : List Nat), (∀ x ∈ l, x.One lo hi) → Pg lo hi kp → Pg lo hi (keepW bs i l kp)
  | [], _, _, _, h => h
  | x :: r, i, kp, hl, h => by
    refine keepW_pg lo hi bs r (i + 1) _ (fun y hy => hl y (by simp [hy])) ?_
    split
    · exact h.splice (hl x (by simp))
    · exact h
theorem pg_rep (lo hi c : Nat) (h1 : lo ≤ c) (h2 : c ≤ hi) : Pg lo hi (List.replicate 512 c) := by
  refine ⟨List.length_replicate, fun i hi' => ?_⟩
  rw [rep_get 512 c i hi', rep_get 512 c _ (by omega)]
  exact ⟨rfl, h1, h2⟩

/-- What was synced last, behind j writes. -/
def low (k j : Nat) : Nat := if k ≤ j then k else 0
/-- The device behind j writes, synced and armed behind the k-th. -/
structure KInv (k j : Nat) (D : Ds) : Prop where
  sp : D.sp.length = 512 * 1
  kp : D.kp = List.replicate 512 (low k j)
  wr : ∀ x ∈ D.wr, x.One (low k j) j
  wl : D.wr.length ≤ 4 * j
  tr : D.tr = []
  ap : D.ap = []
  ks : D.ks = []
  free : j < k → D.armed = false ∧ D.gone = false
  arm : D.armed = true → 0 ≤ D.left ∧ D.left ≤ 9223372036854775807
theorem Sw.One.ok {lo hi : Nat} {x : Sw} (h : x.One lo hi) (hh : hi < 256) : x.Ok (512 * 1) := by
  obtain ⟨s, v, hs, rfl, _, h2⟩ := h
  exact ⟨List.length_replicate, bytes_rep _ _ (by omega), by show 128 * s + 128 ≤ _; omega⟩
theorem KInv.sane {k j : Nat} {D : Ds} (h : KInv k j D) (hj : j ≤ 12) : D.Sane 1 :=
  ⟨h.sp, by rw [h.kp, List.length_replicate], by omega, by omega, fun x hx => (h.wr x hx).ok (by omega), by have := h.wl; omega, by rw [h.ks, h.ap]; simp, by rw [h.tr]; simp⟩
theorem KInv.new (k : Nat) : KInv k 0 (Ds.new 1) := by
  have e : low k 0 = 0 := by unfold low; split <;> omega
  exact ⟨List.length_replicate, by rw [e]; rfl, (fun x hx => by cases hx), (by show ([] : List Sw).length ≤ _; simp), rfl, rfl, rfl, fun _ => ⟨rfl, rfl⟩, fun e => by cases e⟩
theorem Ds.spend_eqs (D : Ds) (n : Nat) : (D.spend n).sp = D.sp ∧ (D.spend n).kp = D.kp ∧ (D.spend n).ks = D.ks ∧ (D.spend n).ap = D.ap ∧ (D.spend n).tr = D.tr ∧ (D.spend n).armed = D.armed ∧ (D.spend n).kb = D.kb :=
  ⟨D.spend_b n .sp, D.spend_b n .kp, D.spend_b n .ks, D.spend_b n .ap, D.spend_tr n, by
    unfold Ds.spend
    split
    · rfl
    · split
      · rfl
      · split <;> rfl, by
    unfold Ds.spend
    split
    · rfl
    · split
      · rfl
      · split <;> rfl⟩
theorem Ds.spend_left (D : Ds) (n : Nat) (h : D.armed = true → 0 ≤ D.left ∧ D.left ≤ 9223372036854775807) : (D.spend n).armed = true → 0 ≤ (D.spend n).left ∧ (D.spend n).left ≤ 9223372036854775807 := by
  intro ha
  rw [(D.spend_eqs n).2.2.2.2.2.1] at ha
  have := h ha
  unfold Ds.spend
  split
  · exact this
  · split
    · exact this
    · split
      · exact ⟨Int.le_refl _, by show (0 : Int) ≤ _; omega⟩
      · refine ⟨?_, ?_⟩
        · show 0 ≤ D.left - (n : Int); omega
        · show D.left - (n : Int) ≤ _; omega

/-- A write more. -/
theorem KInv.write {k j : Nat} {D : Ds} (h : KInv k j D) (hk : k ≠ j + 1) : KInv k (j + 1) (D.write 0 (List.replicate 512 (j + 1))) := by
  have el : low k (j + 1) = low k j := by unfold low; split <;> split <;> omega
  have hll : low k j ≤ j := by unfold low; split <;> omega
  obtain ⟨q1, q2, q3, q4, q5, q6, _⟩ := (D.write0 0 (List.replicate 512 (j + 1))).spend_eqs 4
  have hsp : (D.write0 0 (List.replicate 512 (j + 1))).sp.length = 512 * 1 := by
    show (splice D.sp (512 * 0) (List.replicate 512 (j + 1))).length = _
    rw [splice_length _ _ _ (by rw [h.sp, List.length_replicate]; omega), h.sp]
  have hle := (D.write0 0 (List.replicate 512 (j + 1))).spent_le 4
  unfold Ds.write
  rw [show 512 * 0 = 0 from rfl, secs_rep _ _ hle]
  refine ⟨by show ((D.write0 0 _).spend 4).sp.length = _; rw [q1]; exact hsp, by show ((D.write0 0 _).spend 4).kp = _; rw [q2, el]; exact h.kp, ?_, ?_, by show ((D.write0 0 _).spend 4).tr = _; rw [q5]; exact h.tr, by show ((D.write0 0 _).spend 4).ap = _; rw [q4]; exact h.ap, by show ((D.write0 0 _).spend 4).ks = _; rw [q3]; exact h.ks, ?_, (D.write0 0 _).spend_left 4 h.arm⟩
  · intro x hx
    rw [el]
    rcases List.mem_append.1 hx with h1 | h1
    · obtain ⟨s, v, a1, a2, a3, a4⟩ := h.wr x h1
      exact ⟨s, v, a1, a2, a3, by omega⟩
    · obtain ⟨s, hs, rfl⟩ := List.mem_map.1 h1
      have := List.mem_range.1 hs
      exact ⟨s, j + 1, by omega, rfl, by omega, Nat.le_refl _⟩
  · have := h.wl
    simp only [List.length_append, List.length_map, List.length_range]
    omega
  · intro hjk
    obtain ⟨f1, f2⟩ := h.free (by omega)
    have f1' : (D.write0 0 (List.replicate 512 (j + 1))).armed = false := f1
    have f2' : (D.write0 0 (List.replicate 512 (j + 1))).gone = false := f2
    have e : (D.write0 0 (List.replicate 512 (j + 1))).spend 4 = D.write0 0 (List.replicate 512 (j + 1)) := by unfold Ds.spend; rw [if_neg (by rw [f2']; decide), if_pos f1']
    show ((D.write0 0 _).spend 4).armed = false ∧ ((D.write0 0 _).spend 4).gone = false
    rw [e]
    exact ⟨f1, f2⟩

/-- The k-th write, and what is behind it. -/
theorem KInv.writeK {j : Nat} {D : Ds} (h : KInv (j + 1) j D) : D.write 0 (List.replicate 512 (j + 1)) = { D.write0 0 (List.replicate 512 (j + 1)) with wr := D.wr ++ secs 0 (List.replicate 512 (j + 1)) 4 } := by
  obtain ⟨f1, f2⟩ := h.free (by omega)
  have f1' : (D.write0 0 (List.replicate 512 (j + 1))).armed = false := f1
  have f2' : (D.write0 0 (List.replicate 512 (j + 1))).gone = false := f2
  have e : (D.write0 0 (List.replicate 512 (j + 1))).spend 4 = D.write0 0 (List.replicate 512 (j + 1)) := by unfold Ds.spend; rw [if_neg (by rw [f2']; decide), if_pos f1']
  have e2 : (D.write0 0 (List.replicate 512 (j + 1))).spent 4 = 4 := by unfold Ds.spent; rw [if_neg (by rw [f2']; decide), if_pos f1']
  unfold Ds.write
  rw [e, e2]
theorem KInv.midSane {j : Nat} {D : Ds} (h : KInv (j + 1) j D) (hj : j + 1 ≤ 12) : (D.write 0 (List.replicate 512 (j + 1))).Sane 1 ∧ (D.write 0 (List.replicate 512 (j + 1))).gone = false ∧ (D.write 0 (List.replicate 512 (j + 1))).tr = [] ∧ (D.write 0 (List.replicate 512 (j + 1))).ap = [] := by
  rw [h.writeK]
  obtain ⟨f1, f2⟩ := h.free (by omega)
  refine ⟨⟨?_, by show D.kp.length = _; rw [h.kp, List.length_replicate], by omega, by omega, ?_, ?_, by show D.ks.length + D.ap.length ≤ _; rw [h.ks, h.ap]; simp, by show D.tr.length ≤ _; rw [h.tr]; simp⟩, f2, h.tr, h.ap⟩
  · show (splice D.sp (512 * 0) (List.replicate 512 (j + 1))).length = _
    rw [splice_length _ _ _ (by rw [h.sp, List.length_replicate]; omega), h.sp]
  · intro x hx
    rcases List.mem_append.1 hx with h1 | h1
    · exact (h.wr x h1).ok (by omega)
    · exact secs_ok 0 _ 4 (512 * 1) List.length_replicate (bytes_rep _ _ (by omega)) (by omega) (by omega) x h1
  · have := h.wl
    show (D.wr ++ secs 0 (List.replicate 512 (j + 1)) 4).length ≤ _
    simp only [secs, List.length_append, List.length_map, List.length_range]
    omega
theorem KInv.syncArm {j : Nat} {D : Ds} (h : KInv (j + 1) j D) (hj12 : j + 1 ≤ 12) (arm : Int) (ha : arm ≤ 9223372036854775807) : KInv (j + 1) (j + 1) ((D.write 0 (List.replicate 512 (j + 1))).sync.arm arm) := by
  obtain ⟨f1, f2⟩ := h.free (by omega)
  rw [h.writeK]
  have hkl : D.kp.length = 512 := by rw [h.kp, List.length_replicate]
  have hsp : (splice D.sp (512 * 0) (List.replicate 512 (j + 1))).length = 512 * 1 := by rw [splice_length _ _ _ (by rw [h.sp, List.length_replicate]; omega), h.sp]
  have hkw : keepW [true] 0 (D.wr ++ secs 0 (List.replicate 512 (j + 1)) 4) D.kp = List.replicate 512 (j + 1) := by
    rw [keepW_append]
    refine keep_page _ ?_ _ _
    refine keepW_length [true] 512 _ _ _ (fun x hx => ?_) hkl
    obtain ⟨s, v, hs, rfl, _, hv⟩ := h.wr x hx
    exact ⟨List.length_replicate, bytes_rep _ _ (by omega), by show 128 * s + 128 ≤ _; omega⟩
  have e : Ds.sync { D.write0 0 (List.replicate 512 (j + 1)) with wr := D.wr ++ secs 0 (List.replicate 512 (j + 1)) 4 } = { D.write0 0 (List.replicate 512 (j + 1)) with kp := List.replicate 512 (j + 1), ks := D.ks ++ D.ap.take (D.ap.length + D.tr.length), wr := [], ap := [], tr := [] } := by
    unfold Ds.sync
    rw [if_neg (by show ¬ D.gone = true; rw [f2]; decide)]
    unfold Ds.keep Ds.keepU
    rw [show (Ds.tr { D.write0 0 (List.replicate 512 (j + 1)) with wr := D.wr ++ secs 0 (List.replicate 512 (j + 1)) 4 }).length = 0 by show D.tr.length = 0; rw [h.tr]; rfl, if_pos rfl]
    simp only [Ds.mk.injEq, true_and, and_true]
    exact ⟨hkw, rfl⟩
  rw [e]
  unfold Ds.arm
  rw [if_neg (by show ¬ D.gone = true; rw [f2]; decide)]
  have el : low (j + 1) (j + 1) = j + 1 := if_pos (Nat.le_refl _)
  refine ⟨hsp, by rw [el], (fun x hx => by cases hx), (by show ([] : List Sw).length ≤ _; simp), rfl, rfl, by show D.ks ++ D.ap.take _ = []; rw [h.ks, h.ap]; simp, fun hj => absurd hj (Nat.lt_irrefl _), fun e => ?_⟩
  have e' : decide (0 ≤ arm) = true := e
  exact ⟨of_decide_eq_true e', ha⟩
theorem KInv.read {k m : Nat} {D : Ds} (h : KInv k m D) (hk : k ≤ m) (bs : List Bool) : Pg k m (D.crash bs 0 0).sp := by
  have el : low k m = k := if_pos hk
  have hw := h.wr
  have hkp := h.kp
  rw [el] at hw hkp
  show Pg k m (D.keep bs 0 0).kp
  rw [(D.keep_eqs bs 0 0).2.1, hkp]
  exact keepW_pg k m bs _ _ _ hw (pg_rep k m k (Nat.le_refl _) hk)

end Go.Proofs.Ytokdeilcfkobfaa
