/-
  Layer 7: how a frame is found.
-/
import Derived.Test.YtfdfpdioelfjdaaCkH
namespace Go.Proofs.Ytfdfpdioelfjdaa
open Go.RowKit

/-- What is found. -/
def fnd (l : List Sp) (h : Nat) : Rd := if 0 ≤ ixN l then ⟨l, h, ixN l⟩ else rnd (2 * l.length) l h

theorem rnd_pin {k : Nat} {l : List Sp} {h : Nat} (hp : (fr l h).pin = true) : rnd (k + 1) l h = rnd k l ((h + 1) % l.length) := by
  rw [rnd, if_pos hp]
theorem rnd_use {k : Nat} {l : List Sp} {h : Nat} (hp : (fr l h).pin = false) (hu : (fr l h).used = true) : rnd (k + 1) l h = rnd k (l.set h ⟨(fr l h).page, false, (fr l h).pin⟩) ((h + 1) % l.length) := by
  rw [rnd, if_neg (by rw [hp]; decide), if_pos hu]
theorem rnd_hit {k : Nat} {l : List Sp} {h : Nat} (hp : (fr l h).pin = false) (hu : (fr l h).used = false) : rnd (k + 1) l h = ⟨l, (h + 1) % l.length, ((h : Nat) : Int)⟩ := by
  rw [rnd, if_neg (by rw [hp]; decide), if_neg (by rw [hu]; decide)]

/-- A clock in a box, its frames in a row of the call's own; only these two have turned. -/
structure Bx (w wr : World) (g b o len cap : Nat) (l : List Sp) (h : Nat) : Prop where
  ck : CkBlk wr g (.slice (some ⟨b, o, none⟩) len cap) ((h : Nat) : Int)
  own : OwnS wr ⟨some ⟨b, o, none⟩, len, cap⟩ l
  frm : Frm (fun k => k = g ∨ k = b) w wr
theorem Bx.below {w wr w' : World} {g b o len cap : Nat} {l : List Sp} {h : Nat} (x : Bx w wr g b o len cap l h) (hb : Below wr.heap.size wr w') : Bx w w' g b o len cap l h :=
  ⟨x.ck.below hb, x.own.below hb, x.frm.trans (Frm.ofBelow (F := fun k => k = g ∨ k = b) hb) (fun _ _ e => e)⟩
theorem Bx.hand {w wr : World} {g b o len cap : Nat} {l : List Sp} {h : Nat} (x : Bx w wr g b o len cap l h) (hne : g ≠ b) (h' : Nat) : ∃ W, (Instr.storeAt 3 (.pointer (some ⟨g, 1, none⟩)) (.int .i64 ((h' : Nat) : Int))).run Try.prog wr = .ok () W ∧ Bx w W g b o len cap l h' := by
  obtain ⟨W, hst, k, f⟩ := st_hand wr g _ _ x.ck ((h' : Nat) : Int)
  exact ⟨W, hst, k, x.own.off f hne.symm, x.frm.trans f (fun _ _ e => .inl e)⟩
theorem Bx.use {w wr : World} {g b o len cap : Nat} {l : List Sp} {h : Nat} (x : Bx w wr g b o len cap l h) (hne : g ≠ b) (i : Nat) (hi : i < len) (u : Bool) : ∃ W, (Instr.storeAt 4 (.pointer (some ⟨b, o + i * 3 + 1, none⟩)) (.bool u)).run Try.prog wr = .ok () W ∧ Bx w W g b o len cap (l.set i ⟨(fr l i).page, u, (fr l i).pin⟩) h := by
  obtain ⟨W, hst, k, f⟩ := st_use wr b o len cap l x.own i hi u
  exact ⟨W, hst, x.ck.off f hne, k, x.frm.trans f (fun _ _ e => .inr e)⟩

set_option maxHeartbeats 8000000 in
set_option maxRecDepth 100000 in
theorem find_any (w : World) (g b o len cap : Nat) (l : List Sp) (h : Nat) (x : Bx w w g b o len cap l h) (hne : g ≠ b) (h1 : 1 ≤ len) (h64 : len ≤ 64) (hh : h < len) :
    Calls Try.prog 22 #[.pointer (some ⟨g, 0, none⟩)] w fun e w' => e = .returned (.int .i64 (fnd l h).at_) ∧ Bx w w' g b o len cap (fnd l h).l (fnd l h).h ∧ (fnd l h).l.length = len ∧ (fnd l h).h < len ∧ (fnd l h).at_ < len := by
  have hlen : l.length = len := x.own.len
  have hgs := x.own.gs (D := fun _ => True) (fun _ _ => trivial) (by show len ≤ _; omega)
  have HI : Hid (∀ w1, Below w.heap.size w w1 → Calls Try.prog 31 #[Sl.val ⟨some ⟨b, o, none⟩, len, cap⟩, Sp.none.val] w1 fun e w2 => e = .returned (.int .i64 (ixN l)) ∧ Below w1.heap.size w1 w2) :=
    fun w1 hb => index_any w1 _ l (hgs.below hb (Nat.le_refl _))
  have HX := hide x
  have HLEN := hide hlen
  clear hgs x
  by_cases hn : 0 ≤ ixN l
  · have e : fnd l h = ⟨l, h, ixN l⟩ := if_pos hn
    rw [e]
    have HLT : Hid (ixN l < len) := by
      show _ < _
      rcases ixF_cases (fun s => Sp.none.beq s) l 0 with ⟨h1, _⟩ | ⟨i, hi, h1, _⟩
      · unfold ixN; omega
      · unfold ixN; omega
    clear e hlen
    go_enter Try.func22, Try.ntmps22
    go_wp2_with fail
    refine Pl.region_is (ops := Pl.find 1 ((Try.f22.body).getD .skip)) (by kernel_rfl) ?_
    refine find1 _ g ⟨some ⟨b, o, none⟩, len, cap⟩ ((h : Nat) : Int) l HX.out.ck HI.out (by rfl) rfl (by rfl) ?_
    intro u w1 hb1
    simp only [Act.put, List.setIfInBounds_toArray, List.set_cons_zero, List.set_cons_succ]
    have HX1 := hide (HX.out.below hb1)
    clear hb1 HX HI
    go_wp2_with fail
    go_ret
    exact ⟨rfl, HX1.out, HLEN.out, hh, HLT.out⟩
  · have e : fnd l h = rnd (2 * len) l h := by unfold fnd; rw [if_neg hn, hlen]
    rw [e]
    have HR0 : Hid (rnd (2 * len) l h = rnd (2 * len - 0) l h) := rfl
    clear e hlen
    go_enter Try.func22, Try.ntmps22
    go_wp2_with fail
    refine Pl.region_is (ops := Pl.find 1 ((Try.f22.body).getD .skip)) (by kernel_rfl) ?_
    refine find1 _ g ⟨some ⟨b, o, none⟩, len, cap⟩ ((h : Nat) : Int) l HX.out.ck HI.out (by rfl) rfl (by rfl) ?_
    intro u w1 hb1
    simp only [Act.put, List.setIfInBounds_toArray, List.set_cons_zero, List.set_cons_succ]
    have HX1 := hide (HX.out.below hb1)
    have c0 := HX1.out.ck.c0
    have j1 : IntKind.i64.wrap (2 * ((len : Nat) : Int)) = ((2 * len : Nat) : Int) := by rw [IntKind.wrap_i64]; omega
    clear hb1 HX HI
    go_wp2_with fail
    go_loopw [21] (fun iv wr => ∃ k : Nat, k ≤ 2 * len ∧ iv = .int .i64 (k : Nat) ∧ ∃ l' h', Hid (rnd (2 * len) l h = rnd (2 * len - k) l' h') ∧ Hid (l'.length = len) ∧ h' < len ∧ Hid (Bx w wr g b o len cap l' h')) (fun iv _ => 2 * len - (intOf iv).toNat)
    case atStart => exact ⟨0, Nat.zero_le _, rfl, l, h, HR0, HLEN, hh, HX1⟩
    case round =>
      obtain ⟨k, hk, rfl, l', h', hr, hl', hh', hx⟩ := hrel
      have c0 := hx.out.ck.c0
      have c1 := hx.out.ck.c1
      rcases Nat.lt_or_ge k (2 * len) with hlt | hge
      · have i1 : ((k : Nat) : Int) < 2 * ((len : Nat) : Int) := by omega
        have i2 : ((h' : Nat) : Int) < ((len : Nat) : Int) := by omega
        obtain ⟨W1, hst1, hx1⟩ := hx.out.hand hne ((h' + 1) % len)
        have hm : ((((h' + 1) % len : Nat)) : Int) = (((h' : Nat) : Int) + 1) % ((len : Nat) : Int) := by simp
        rw [hm] at hst1
        have HST1 := hide hst1
        have HX1 := hide hx1
        have d0 := hx1.ck.c0
        obtain ⟨e0, e1, e2⟩ := hx1.own.cells rfl hh'
        have hmod : (h' + 1) % len < len := Nat.mod_lt _ (by omega)
        have hsub : 2 * len - k = (2 * len - (k + 1)) + 1 := by omega
        have HSUB := hide hsub
        clear hst1 hx1 hm hsub
        cases hp : (fr l' h').pin with
        | true =>
          rw [hp] at e2
          have HR : Hid (rnd (2 * len) l h = rnd (2 * len - (k + 1)) l' ((h' + 1) % len)) := by
            have e := hr.out
            rw [HSUB.out, rnd_pin hp, hl'.out] at e
            exact e
          clear hr hp
          go_wp2_with (refine wpList_store _ rfl rfl 3 (.tmp 37) (.tmp 35) rfl (.pointer (some ⟨g, 1, none⟩)) (.int .i64 ((((h' : Nat) : Int) + 1) % ((len : Nat) : Int))) rfl rfl W1 HST1.out ?_)
          go_roundw
          case rel => exact ⟨k + 1, by omega, by go_num, l', (h' + 1) % len, HR, hl', hmod, HX1⟩
          case measure => simp only [intOf]; omega
        | false =>
          rw [hp] at e2
          cases hu : (fr l' h').used with
          | true =>
            rw [hu] at e1
            have HR : Hid (rnd (2 * len) l h = rnd (2 * len - (k + 1)) (l'.set h' ⟨(fr l' h').page, false, (fr l' h').pin⟩) ((h' + 1) % len)) := by
              have e := hr.out
              rw [HSUB.out, rnd_use hp hu, hl'.out] at e
              exact e
            obtain ⟨W2, hst2, hx2⟩ := HX1.out.use hne h' hh' false
            have HST2 := hide hst2
            have HX2 := hide hx2
            have HL2 : Hid ((l'.set h' ⟨(fr l' h').page, false, (fr l' h').pin⟩).length = len) := by
              show _ = _
              rw [List.length_set]
              exact hl'.out
            clear hr hp hu hst2 hx2
            generalize l'.set h' ⟨(fr l' h').page, false, (fr l' h').pin⟩ = l2 at *
            go_wp2_with (first | refine wpList_store _ rfl rfl 3 (.tmp 37) (.tmp 35) rfl (.pointer (some ⟨g, 1, none⟩)) (.int .i64 ((((h' : Nat) : Int) + 1) % ((len : Nat) : Int))) rfl rfl W1 HST1.out ?_ | refine wpList_store _ rfl rfl 4 (.tmp 57) (.const (.bool false)) rfl (.pointer (some ⟨b, o + h' * 3 + 1, none⟩)) (.bool false) rfl rfl W2 HST2.out ?_)
            go_roundw
            case rel => exact ⟨k + 1, by omega, by go_num, l2, (h' + 1) % len, HR, HL2, hmod, HX2⟩
            case measure => simp only [intOf]; omega
          | false =>
            rw [hu] at e1
            have HR : Hid (rnd (2 * len) l h = ⟨l', (h' + 1) % len, ((h' : Nat) : Int)⟩) := by
              have e := hr.out
              rw [HSUB.out, rnd_hit hp hu, hl'.out] at e
              exact e
            clear hr hp hu
            go_wp2_with (refine wpList_store _ rfl rfl 3 (.tmp 37) (.tmp 35) rfl (.pointer (some ⟨g, 1, none⟩)) (.int .i64 ((((h' : Nat) : Int) + 1) % ((len : Nat) : Int))) rfl rfl W1 HST1.out ?_)
            go_ret
            refine ⟨by rw [HR.out]; rfl, ?_⟩
            rw [HR.out]
            exact ⟨HX1.out, hl'.out, hmod, i2⟩
      · have i1 : ¬ ((k : Nat) : Int) < 2 * ((len : Nat) : Int) := by omega
        have HR : Hid (rnd (2 * len) l h = ⟨l', h', -1⟩) := by
          have e := hr.out
          rw [show 2 * len - k = 0 by omega] at e
          exact e
        clear hr
        go_wp2_with fail
        go_ret
        refine ⟨by rw [HR.out]; rfl, ?_⟩
        rw [HR.out]
        exact ⟨hx.out, hl'.out, hh', by show (-1 : Int) < _; omega⟩
end Go.Proofs.Ytfdfpdioelfjdaa
