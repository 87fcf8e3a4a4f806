/-
  Layer 6: a stable sort of a few images, in place.
-/
import Derived.Test.YtjgeiooblcpiaaaApB
namespace Go.Proofs.Ytjgeiooblcpiaaa
open Go.RowKit

/-- The function that is handed over. -/
def cmpV : Value := .func (.func 30) #[] #[]

/-- One on its way down: j are ahead of it. -/
def onWay (S : List Ix) (m : Ix) (rest : List Ix) (j : Nat) : List Ix := S.take j ++ m :: (S.drop j ++ rest)
theorem onWay_length (S : List Ix) (m : Ix) (rest : List Ix) (j : Nat) (hj : j ≤ S.length) : (onWay S m rest j).length = S.length + 1 + rest.length := by
  unfold onWay
  simp only [List.length_append, List.length_take, List.length_cons, List.length_drop]
  omega
theorem onWay_at (S : List Ix) (m : Ix) (rest : List Ix) (j : Nat) (hj : j ≤ S.length) : (onWay S m rest j).getD j Ix.zero = m := by
  unfold onWay
  have : (S.take j).length = j := by rw [List.length_take]; omega
  rw [List.getD, List.getElem?_append_right (by omega), this, Nat.sub_self]
  rfl
theorem onWay_two (S : List Ix) (m : Ix) (rest : List Ix) (j : Nat) (h0 : 0 < j) (hj : j ≤ S.length) : onWay S m rest j = S.take (j - 1) ++ S.getD (j - 1) Ix.zero :: m :: (S.drop j ++ rest) ∧ onWay S m rest (j - 1) = S.take (j - 1) ++ m :: S.getD (j - 1) Ix.zero :: (S.drop j ++ rest) := by
  have hlt : j - 1 < S.length := by omega
  have e : S.getD (j - 1) Ix.zero = S[j - 1] := by simp [List.getD, hlt]
  rw [e]
  unfold onWay
  constructor
  · have h1 : S.take j = S.take (j - 1) ++ [S[j - 1]] := by
      have := List.take_succ_eq_append_getElem hlt
      rwa [Nat.sub_add_cancel h0] at this
    rw [h1, List.append_assoc]
    rfl
  · have h1 : S.drop (j - 1) = S[j - 1] :: S.drop j := by
      have := List.drop_eq_getElem_cons hlt
      rwa [Nat.sub_add_cancel h0] at this
    rw [h1]
    rfl
theorem onWay_prev (S : List Ix) (m : Ix) (rest : List Ix) (j : Nat) (h0 : 0 < j) (hj : j ≤ S.length) : (onWay S m rest j).getD (j - 1) Ix.zero = S.getD (j - 1) Ix.zero := by
  rw [(onWay_two S m rest j h0 hj).1]
  have : (S.take (j - 1)).length = j - 1 := by rw [List.length_take]; omega
  rw [List.getD, List.getElem?_append_right (by omega), this, Nat.sub_self]
  rfl
theorem onWay_swap (S : List Ix) (m : Ix) (rest : List Ix) (j : Nat) (h0 : 0 < j) (hj : j ≤ S.length) : ((onWay S m rest j).set j (S.getD (j - 1) Ix.zero)).set (j - 1) m = onWay S m rest (j - 1) := by
  obtain ⟨e1, e2⟩ := onWay_two S m rest j h0 hj
  rw [e1, e2]
  have hl : (S.take (j - 1)).length = j - 1 := by rw [List.length_take]; omega
  rw [List.set_append_right _ _ (by omega), hl, show j - (j - 1) = 1 by omega, List.set_append_right _ _ (by omega), hl, Nat.sub_self]
  rfl

theorem cmpI_neg (x y : Int) : cmpI x y < 0 ↔ x < y := by
  unfold cmpI
  split
  · omega
  · split <;> omega

/-- What the sort holds to. -/
def SortInv (w wr : World) (v : Sl) (l : List Ix) : Prop := OwnI wr v l ∧ Frm (fun k => v.blk = some k) w wr

theorem SortInv.step {w wr : World} {v : Sl} {l : List Ix} (h : SortInv w wr v l) {w' : World} (hb : Below wr.heap.size wr w') : SortInv w w' v l :=
  ⟨h.1.frame (fun k hk => hb.block k (h.1.lt hk)), h.2.trans (Frm.ofBelow (F := fun k => v.blk = some k) hb) (fun _ _ hk => hk)⟩
theorem SortInv.store {w wr : World} {v : Sl} {l : List Ix} (h : SortInv w wr v l) {g off : Nat} (ha : v.a = some ⟨g, off, none⟩) (i : Nat) (x : Ix) : SortInv w (setIm wr g (off + i * 2) x) v (l.set i x) :=
  ⟨h.1.store ha i x, h.2.trans (setIm_frm wr g _ x) (fun k _ e => by show v.blk = some k; rw [Sl.blk, ha, e]; rfl)⟩

set_option maxHeartbeats 8000000 in
set_option maxRecDepth 100000 in
theorem isort_any (w : World) (a : Option Addr) (len cap : Nat) (l : List Ix) (h : OwnI w ⟨a, len, cap⟩ l) (hn : len ≤ 19) :
    Calls Try.prog 39 #[.slice a len cap, .int .i64 0, .int .i64 ((len : Nat) : Int), cmpV] w fun e w' => e = .returned (.tuple #[]) ∧ SortInv w w' ⟨a, len, cap⟩ (Ap.sort Ix.page l) := by
  have hl : l.length = len := h.len
  have HL := hide hl
  have H0 : Hid (SortInv w w ⟨a, len, cap⟩ (Ap.sort Ix.page (l.take 1) ++ l.drop 1)) := by
    refine ⟨?_, Frm.refl _ _⟩
    have e : Ap.sort Ix.page (l.take 1) = l.take 1 := by
      cases l with
      | nil => rfl
      | cons x r => rfl
    rw [e, List.take_append_drop]
    exact h
  clear h hl
  unfold cmpV
  go_enter Try.func39, Try.ntmps39
  go_wp2_with fail
  go_loopw [8] (fun iv wr => ∃ i : Nat, 1 ≤ i ∧ i ≤ len + 1 ∧ iv = .int .i64 (i : Nat) ∧ Hid (SortInv w wr ⟨a, len, cap⟩ (Ap.sort Ix.page (l.take i) ++ l.drop i))) (fun iv _ => 30 - (intOf iv).toNat)
  case atStart => exact ⟨1, by omega, by omega, rfl, H0⟩
  case round =>
    obtain ⟨i, hi1, hi2, rfl, hinv⟩ := hrel
    rcases Nat.lt_or_ge i len with hlt | hge
    · have i1 : ((i : Nat) : Int) < ((len : Nat) : Int) := by omega
      have hil : i < l.length := by rw [HL.out]; exact hlt
      obtain ⟨m, hm⟩ : ∃ m, m = l[i] := ⟨_, rfl⟩
      obtain ⟨S, hS⟩ : ∃ S, S = Ap.sort Ix.page (l.take i) := ⟨_, rfl⟩
      obtain ⟨rest, hrest⟩ : ∃ rest, rest = l.drop (i + 1) := ⟨_, rfl⟩
      have hSl : S.length = i := by rw [hS, Ap.sort_length, List.length_take]; omega
      have hSr : Ap.Rising Ix.page S := by rw [hS]; exact Ap.sort_is_rising _ _
      have hdr : l.drop i = m :: rest := by rw [hm, hrest]; exact List.drop_eq_getElem_cons hil
      have HST : Hid (SortInv w wr ⟨a, len, cap⟩ (onWay S m rest i)) := by
        have h1 := hinv.out
        rw [← hS, hdr] at h1
        unfold onWay
        rw [← hSl, List.take_length, List.drop_length]
        exact h1
      have HNX : Hid (Ap.ins Ix.page S m ++ rest = Ap.sort Ix.page (l.take (i + 1)) ++ l.drop (i + 1)) := by
        show _ = _
        rw [List.take_succ_eq_append_getElem hil, Ap.sort_snoc, ← hS, ← hm, hrest]
      have HSL := hide hSl
      have HSR := hide hSr
      have hlen : ∀ j, j ≤ i → (onWay S m rest j).length = len := by
        intro j hj
        rw [onWay_length S m rest j (by omega), hSl, hrest, List.length_drop, HL.out]
        omega
      have HLEN := hide hlen
      clear hm hS hrest hSl hSr hdr hinv hlen hil
      go_wp2_with fail
      go_loopw [9] (fun jv wz => ∃ j : Nat, j ≤ i ∧ jv = .int .i64 (j : Nat) ∧ Hid (SortInv w wz ⟨a, len, cap⟩ (onWay S m rest j)) ∧ Hid (∀ y ∈ S.drop j, m.page < y.page)) (fun jv _ => (intOf jv).toNat)
      case atStart => exact ⟨i, by omega, rfl, HST, hide (fun y hy => by rw [← HSL.out, List.drop_length] at hy; cases hy)⟩
      case round =>
        obtain ⟨j, hj, rfl, hst, hab⟩ := hrel
        have hjl : j < len := by omega
        have hown := hst.out.1
        rcases hown.2 with ⟨h0, _⟩ | ⟨b, o, cur, ha, _⟩
        · have : len = 0 := congrArg Sl.len h0
          omega
        replace ha : a = some ⟨b, o, none⟩ := ha
        subst ha
        have hd := below_drew wr
        have hstd := hst.out.step hd
        have hcx := hstd.1.cells rfl (i := j) hjl
        rw [onWay_at S m rest j (by rw [HSL.out]; exact hj)] at hcx
        obtain ⟨y, hy⟩ : ∃ y, y = S.getD (j - 1) Ix.zero := ⟨_, rfl⟩
        have hcy : 0 < j → wr.drew.cell? ⟨b, o + (j - 1) * 2, none⟩ = some (.int .i64 y.page) ∧ wr.drew.cell? ⟨b, o + (j - 1) * 2 + 1, none⟩ = some y.s.val := by
          intro hp
          have h1 := hstd.1.cells rfl (i := j - 1) (by show j - 1 < len; omega)
          rw [onWay_prev S m rest j hp (by rw [HSL.out]; exact hj), ← hy] at h1
          exact h1
        have hSS : SortS b o j m y wr.drew := fun hp => ⟨hcx, hcy hp⟩
        have HSS := hide hSS
        by_cases hp : 0 < j
        · have i2 : (0 : Int) < ((j : Nat) : Int) := by omega
          by_cases hc : cmpI m.page y.page < 0
          · have hmy := (cmpI_neg _ _).1 hc
            have HRG := hide (fun Q A => @isort4B wr b o len cap j m y hSS hjl (by omega) hp i2 hc Q A)
            have HMY := hide hmy
            have HY := hide hy
            clear hown hd hstd hcx hcy hSS hc hmy hy
            go_wp2_with fail
            refine Pl.region_is (ops := Pl.find 4 ((Try.f39.body).getD .skip)) (by kernel_rfl) ?_
            refine HRG.out _ _ (by rfl) rfl (by rfl) (by rfl) (by rfl) (by rfl) ?_
            intro uu w1 hb1
            simp only [Act.put, List.setIfInBounds_toArray, List.set_cons_zero, List.set_cons_succ]
            have h1d := rBelow hb1 (below_drew w1)
            have hst1 := hst.out.step h1d
            have hS1 : SortS b o j m y w1.drew := by
              have hcx := hst1.1.cells rfl (i := j) hjl
              rw [onWay_at S m rest j (by rw [HSL.out]; exact hj)] at hcx
              intro hp
              have h1 := hst1.1.cells rfl (i := j - 1) (by show j - 1 < len; omega)
              rw [onWay_prev S m rest j hp (by rw [HSL.out]; exact hj), ← HY.out] at h1
              exact ⟨hcx, h1⟩
            obtain ⟨⟨c0, c1⟩, d0, d1⟩ := hS1 hp
            have hs1 := store_im b (o + j * 2) y w1.drew c0 c1 (hst1.1.frozen rfl _) (hst1.1.frozen rfl _)
            have hst2 := hst1.store rfl j y
            have hq := hst2.1.cells rfl (i := j - 1) (by show j - 1 < len; omega)
            have hs2 := store_im b (o + (j - 1) * 2) m _ hq.1 hq.2 (hst2.1.frozen rfl _) (hst2.1.frozen rfl _)
            have hst3 := hst2.store rfl (j - 1) m
            rw [HY.out, onWay_swap S m rest j hp (by rw [HSL.out]; exact hj), ← HY.out] at hst3
            have HRG6 := hide (fun Q A => @isort6 w1 b o len cap j m y hS1 hp hjl (by omega) hs1 hs2 Q A)
            have HST3 := hide hst3
            have HAB3 : Hid (∀ z ∈ S.drop (j - 1), m.page < z.page) := by
              have hlt2 : j - 1 < S.length := by rw [HSL.out]; omega
              have e1 : S.drop (j - 1) = y :: S.drop j := by
                have h9 := List.drop_eq_getElem_cons hlt2
                rw [Nat.sub_add_cancel hp] at h9
                rw [h9, HY.out]
                simp [List.getD, hlt2]
              intro z hz
              rw [e1] at hz
              rcases List.mem_cons.1 hz with rfl | hz
              · exact HMY.out
              · exact hab.out z hz
            clear HRG h1d hst1 hS1 c0 c1 d0 d1 hs1 hst2 hq hs2 hst3 hb1 HSS
            go_wp2_with fail
            refine Pl.region_is (ops := Pl.find 6 ((Try.f39.body).getD .skip)) (by kernel_rfl) ?_
            refine HRG6.out _ _ (by rfl) rfl (by rfl) (by rfl) ?_
            rintro u2 w2 rfl
            simp only [Act.put, List.setIfInBounds_toArray, List.set_cons_zero, List.set_cons_succ]
            clear HRG6
            generalize setIm (setIm w1.drew b (o + j * 2) y) b (o + (j - 1) * 2) m = w2 at HST3 ⊢
            go_wp2_with fail
            go_roundw
            case rel => exact ⟨j - 1, by omega, by go_num, HST3, HAB3⟩
            case measure => simp only [intOf]; omega
          · have hmy : ¬ m.page < y.page := fun e => hc ((cmpI_neg _ _).2 e)
            have HRG := hide (fun Q A => @isort4C wr b o len cap j m y hSS hjl (by omega) hp i2 hc Q A)
            have HFIN : Hid (onWay S m rest j = Ap.ins Ix.page S m ++ rest) := by
              have hlt2 : j - 1 < S.length := by rw [HSL.out]; omega
              have hyS : y = S[j - 1] := by rw [hy]; simp [List.getD, hlt2]
              show onWay S m rest j = _
              rw [Ap.ins_at Ix.page HSR.out (by rw [HSL.out]; exact hj) hab.out (fun z hz => by
                rw [show j = (j - 1) + 1 by omega] at hz
                exact Ap.rising_take Ix.page HSR.out hlt2 (by rw [← hyS]; omega) hz)]
              unfold onWay
              rw [List.append_assoc]
              rfl
            clear hown hd hstd hcx hcy hSS hc hmy hy
            go_wp2_with fail
            refine Pl.region_is (ops := Pl.find 4 ((Try.f39.body).getD .skip)) (by kernel_rfl) ?_
            refine HRG.out _ _ (by rfl) rfl (by rfl) (by rfl) (by rfl) (by rfl) ?_
            intro uu w1 hb1
            simp only [Act.put, List.setIfInBounds_toArray, List.set_cons_zero, List.set_cons_succ]
            have HST1 : Hid (SortInv w w1 ⟨some ⟨b, o, none⟩, len, cap⟩ (Ap.sort Ix.page (l.take (i + 1)) ++ l.drop (i + 1))) := by
              have := hst.out.step hb1
              rw [HFIN.out, HNX.out] at this
              exact this
            clear HRG hb1 HSS
            go_wp2_with fail
            go_roundw
            case rel => exact ⟨i + 1, by omega, by omega, by go_num, HST1⟩
            case measure => simp only [intOf]; omega
        · have i2 : ¬ (0 : Int) < ((j : Nat) : Int) := by omega
          have HRG := hide (fun Q A => @isort4A wr b o len cap j m y hSS i2 Q A)
          have hj0 : j = 0 := by omega
          have HFIN : Hid (onWay S m rest j = Ap.ins Ix.page S m ++ rest) := by
            show onWay S m rest j = _
            rw [Ap.ins_at Ix.page HSR.out (by rw [HSL.out]; exact hj) hab.out (fun z hz => by rw [hj0] at hz; cases hz)]
            unfold onWay
            rw [List.append_assoc]
            rfl
          clear hown hd hstd hcx hcy hSS hy hj0
          go_wp2_with fail
          refine Pl.region_is (ops := Pl.find 4 ((Try.f39.body).getD .skip)) (by kernel_rfl) ?_
          refine HRG.out _ _ (by rfl) rfl (by rfl) (by rfl) (by rfl) (by rfl) ?_
          intro uu w1 hb1
          simp only [Act.put, List.setIfInBounds_toArray, List.set_cons_zero, List.set_cons_succ]
          have HST1 : Hid (SortInv w w1 ⟨some ⟨b, o, none⟩, len, cap⟩ (Ap.sort Ix.page (l.take (i + 1)) ++ l.drop (i + 1))) := by
            have := hst.out.step hb1
            rw [HFIN.out, HNX.out] at this
            exact this
          clear HRG hb1 HSS
          go_wp2_with fail
          go_roundw
          case rel => exact ⟨i + 1, by omega, by omega, by go_num, HST1⟩
          case measure => simp only [intOf]; omega
    · have i1 : ¬ ((i : Nat) : Int) < ((len : Nat) : Int) := by omega
      have HE : Hid (SortInv w wr ⟨a, len, cap⟩ (Ap.sort Ix.page l)) := by
        have h1 := hinv.out
        rw [List.take_of_length_le (by rw [HL.out]; exact hge), List.drop_eq_nil_of_le (by rw [HL.out]; exact hge), List.append_nil] at h1
        exact h1
      clear hinv
      go_wp2_with fail
      go_end0
      exact ⟨rfl, HE.out⟩
end Go.Proofs.Ytjgeiooblcpiaaa
