/-
  Layer 7: the small functions: isPage, empty, slices.Clone, a closure, slices.IndexFunc.
-/
import Derived.Test.YtfdfpdioelfjdaaCkB
namespace Go.Proofs.Ytfdfpdioelfjdaa
open Go.RowKit

def isPg (p : Int) : Bool := decide (0 ≤ p) && decide (p < 64)

set_option maxHeartbeats 1000000 in
theorem isPage_any (p : Int) (w : World) : Calls Try.prog 19 #[.int .i64 p] w fun e w' => e = .returned (.bool (isPg p)) ∧ w' = w := by
  by_cases h1 : 0 ≤ p
  · by_cases h2 : p < 64
    · have e : isPg p = true := by simp [isPg, h1, h2]
      rw [e]
      go_enter Try.func19, Try.ntmps19
      go_wp2_with fail
      go_ret
      exact ⟨rfl, rfl⟩
    · have e : isPg p = false := by simp [isPg, h2]
      rw [e]
      go_enter Try.func19, Try.ntmps19
      go_wp2_with fail
      go_ret
      exact ⟨rfl, rfl⟩
  · have e : isPg p = false := by simp [isPg, h1]
    rw [e]
    go_enter Try.func19, Try.ntmps19
    go_wp2_with fail
    go_ret
    exact ⟨rfl, rfl⟩

theorem sp_results {fn : Func} {x : Nat} (hr : fn.results = #[.cell x 38]) {W : World} {g : Nat} {s : Sp} (h : SpBlk W g s) (tmps : Array Value) (ht : tmps.getD x undef = .pointer (some ⟨g, 0, none⟩)) : (results fn tmps).run Try.prog W = .ok s.val W := by
  have c0 := h.c0
  have c1 := h.c1
  have c2 := h.c2
  have ht2 : tmps[x]?.getD undef = .pointer (some ⟨g, 0, none⟩) := by simpa using ht
  simp [results, hr, ht2, go_sem, c0, c1, c2, Sp.val]
theorem ck_results {fn : Func} {x : Nat} (hr : fn.results = #[.cell x 24]) {W : World} {g : Nat} {v : Sl} {h : Int} (k : CkBlk W g v.val h) (tmps : Array Value) (ht : tmps.getD x undef = .pointer (some ⟨g, 0, none⟩)) : (results fn tmps).run Try.prog W = .ok (ckV v h) W := by
  have c0 := k.c0
  have c1 := k.c1
  unfold ckV Sl.val at *
  have ht2 : tmps[x]?.getD undef = .pointer (some ⟨g, 0, none⟩) := by simpa using ht
  simp [results, hr, ht2, go_sem, c0, c1]
theorem ck_results1 {fn : Func} {x y : Nat} (hr : fn.results = #[.cell x 24, .tmp y]) {W : World} {g : Nat} {v : Sl} {h : Int} (k : CkBlk W g v.val h) (tmps : Array Value) (ht : tmps.getD x undef = .pointer (some ⟨g, 0, none⟩)) {u : Value} (hy : tmps.getD y undef = u) : (results fn tmps).run Try.prog W = .ok (.tuple #[ckV v h, u]) W := by
  have c0 := k.c0
  have c1 := k.c1
  unfold ckV Sl.val at *
  have ht2 : tmps[x]?.getD undef = .pointer (some ⟨g, 0, none⟩) := by simpa using ht
  have hy2 : tmps[y]?.getD undef = u := by simpa using hy
  simp [results, hr, ht2, hy2, go_sem, c0, c1]
theorem ck_results3 {fn : Func} {x y z t : Nat} (hr : fn.results = #[.cell x 24, .tmp y, .tmp z, .tmp t]) {W : World} {g : Nat} {v : Sl} {h : Int} (k : CkBlk W g v.val h) (tmps : Array Value) (ht : tmps.getD x undef = .pointer (some ⟨g, 0, none⟩)) {u1 u2 u3 : Value} (hy : tmps.getD y undef = u1) (hz : tmps.getD z undef = u2) (h3 : tmps.getD t undef = u3) : (results fn tmps).run Try.prog W = .ok (.tuple #[ckV v h, u1, u2, u3]) W := by
  have c0 := k.c0
  have c1 := k.c1
  unfold ckV Sl.val at *
  have ht2 : tmps[x]?.getD undef = .pointer (some ⟨g, 0, none⟩) := by simpa using ht
  have hy2 : tmps[y]?.getD undef = u1 := by simpa using hy
  have hz2 : tmps[z]?.getD undef = u2 := by simpa using hz
  have h32 : tmps[t]?.getD undef = u3 := by simpa using h3
  simp [results, hr, ht2, hy2, hz2, h32, go_sem, c0, c1]

set_option maxHeartbeats 1000000 in
theorem empty_any (w : World) : Calls Try.prog 23 #[] w fun e w' => e = .returned Sp.none.val ∧ Below w.heap.size w w' := by
  have HB := hide (spBlk_new w Sp.none)
  have HF := hide (below_alloc w (.cells #[.int .i64 (-1), .bool false, .bool false] 38))
  go_enter Try.func23, Try.ntmps23
  go_wp2_with fail
  refine bodyPost_ret (sp_results rfl HB.out _ rfl) rfl ?_
  exact ⟨rfl, HF.out⟩

set_option maxHeartbeats 1000000 in
theorem clone_any {D : Nat → Prop} (w : World) (v : Sl) (l : List Sp) (h : Gs D w v l) : Calls Try.prog 28 #[v.val] w fun e w' => Below w.heap.size w w' ∧ ∃ s : Sl, e = .returned s.val ∧ OwnS w' s l ∧ s.len = v.len ∧ ∀ k, s.blk = some k → w.heap.size ≤ k := by
  obtain ⟨a, len, cap⟩ := v
  cases a with
  | none =>
    have hc : cap = 0 := h.nil rfl
    have h0 : len = 0 := by have : len ≤ cap := h.le; omega
    subst hc; subst h0
    have hx : l = [] := List.eq_nil_of_length_eq_zero h.len
    subst hx
    clear h
    have HN := hide (Own.nil 38 3 w)
    have HB := hide (Below.refl w.heap.size w)
    have he : ∀ w : World, (binOp .eql 22 (.slice none 0 0) (.slice none 0 0)).run Try.prog w = .ok (.bool true) w := fun _ => rfl
    unfold Sl.val
    simp only
    go_enter Try.func28, Try.ntmps28
    go_wp2_with fail
    go_ret
    exact ⟨HB.out, Sl.nil, rfl, HN.out, rfl, fun k hk => by cases hk⟩
  | some ad =>
    have HG := hide h
    have he : ∀ w : World, (binOp .eql 22 (.slice (some ad) len cap) (.slice none 0 0)).run Try.prog w = .ok (.bool false) w := fun _ => rfl
    clear h
    unfold Sl.val
    simp only
    go_enter Try.func28, Try.ntmps28
    go_wp2_with (at_builtin; refine wpList_append_new _ rfl (.tmp 5) (.tmp 6) rfl ⟨some ad, len, cap⟩ _ rfl rfl HG.out ?_)
    intro v1 w1 ho1 hl1 hb1 hk1
    have HO1 := hide ho1
    have HL1 := hide hl1
    have HB1 := hide hb1
    have HK1 := hide hk1
    clear ho1 hl1 hb1 hk1 HG
    go_wp2_with fail
    go_ret
    exact ⟨HB1.out, v1, rfl, HO1.out, HL1.out, HK1.out⟩

/-- What is captured. -/
def pgV (b : Nat) : Value := .func (.func 30) #[] #[.pointer (some ⟨b, 0, none⟩)]

set_option maxHeartbeats 1000000 in
theorem closure_any (x : Sp) (b : Nat) (p : Int) (w : World) (hb : w.cell? ⟨b, 0, none⟩ = some (.int .i64 p)) : Calls Try.prog 30 #[.agg #[.int .i64 x.page, .bool x.used, .bool x.pin], .pointer (some ⟨b, 0, none⟩)] w fun e w' => e = .returned (.bool (onP p x)) ∧ Below w.heap.size w w' := by
  have hA := below_alloc w (.cells #[.int .i64 x.page, .bool x.used, .bool x.pin] 38)
  have hc := (hA.cell (p := ⟨b, 0, none⟩) (World.block_lt_of_cell? w _ hb)).trans hb
  have HA := hide hA
  clear hb hA
  unfold onP
  go_enter Try.func30, Try.ntmps30
  go_wp2_with fail
  go_ret
  exact ⟨rfl, HA.out⟩

set_option maxHeartbeats 4000000 in
theorem indexFunc_any {D : Nat → Prop} (w : World) (v : Sl) (l : List Sp) (h : Gs D w v l) (b : Nat) (p : Int) (hb : w.cell? ⟨b, 0, none⟩ = some (.int .i64 p)) :
    Calls Try.prog 29 #[v.val, pgV b] w fun e w' => e = .returned (.int .i64 (ixP l p)) ∧ Below w.heap.size w w' := by
  obtain ⟨a, len, cap⟩ := v
  have HG := hide h
  have hl : l.length = len := h.len
  have HL := hide hl
  have hbig : len ≤ 1000000 := h.big
  have HC := hide hb
  have H0 := hide (Below.refl w.heap.size w)
  have HI : Hid (ixP l p = ixF (onP p) (l.drop 0) 0) := rfl
  clear h hl hb
  unfold Sl.val pgV
  simp only
  go_enter Try.func29, Try.ntmps29
  go_wp2_with fail
  go_loopw [8] (fun iv wr => ∃ i : Nat, i ≤ len ∧ iv = .int .i64 (i : Nat) ∧ Hid (ixP l p = ixF (onP p) (l.drop i) i) ∧ Hid (Below w.heap.size w wr)) (fun iv _ => len - (intOf iv).toNat)
  case atStart => exact ⟨0, Nat.zero_le _, rfl, HI, H0⟩
  case round =>
    obtain ⟨i, hi, rfl, hix, hbr⟩ := hrel
    rcases Nat.lt_or_ge i len with hlt | hge
    · have i1 : ((i : Nat) : Int) < ((len : Nat) : Int) := by omega
      obtain ⟨bb, oo, ha, c0, c1, c2⟩ := (HG.out.below hbr.out (Nat.le_refl _)).cell i hlt
      replace ha : a = some ⟨bb, oo, none⟩ := ha
      subst ha
      obtain ⟨x, hx⟩ : ∃ x, x = fr l i := ⟨_, rfl⟩
      rw [← hx] at c0 c1 c2
      have HCL := hide (closure_any x b p wr ((hbr.out.cell (World.block_lt_of_cell? w _ HC.out)).trans HC.out))
      have HX := hide hx
      clear hx
      cases hon : onP p x with
      | true =>
        rw [hon] at HCL
        have HE : Hid (ixP l p = ((i : Nat) : Int)) := hix.out.trans (ixF_hit (by rw [HL.out]; exact hlt) (by rw [← HX.out]; exact hon))
        clear hix
        go_wp2_with fail
        refine HCL.out.mono ?_
        rintro e w1 ⟨rfl, hb1⟩
        have HB1 := hide (rBelow hbr.out hb1)
        clear hb1
        go_wp2_with fail
        go_ret
        exact ⟨by rw [HE.out]; rfl, HB1.out⟩
      | false =>
        rw [hon] at HCL
        have HE : Hid (ixP l p = ixF (onP p) (l.drop (i + 1)) (i + 1)) := hix.out.trans (ixF_miss (by rw [HL.out]; exact hlt) (by rw [← HX.out]; exact hon))
        clear hix
        go_wp2_with fail
        refine HCL.out.mono ?_
        rintro e w1 ⟨rfl, hb1⟩
        have HB1 := hide (rBelow hbr.out hb1)
        clear hb1
        go_wp2_with fail
        go_roundw
        case rel => exact ⟨i + 1, by omega, by go_num, HE, HB1⟩
        case measure => simp only [intOf]; omega
    · have HE : Hid (ixP l p = -1) := hix.out.trans (ixF_end (by rw [HL.out]; exact hge))
      have i1 : ¬ ((i : Nat) : Int) < ((len : Nat) : Int) := by omega
      clear hix
      go_wp2_with fail
      go_ret
      exact ⟨by rw [HE.out]; rfl, hbr.out⟩

/-- Where a page that may be is. -/
def frm (l : List Sp) (p : Int) : Int := if isPg p = true then ixP l p else -1

set_option maxHeartbeats 4000000 in
theorem frameOf_any {D : Nat → Prop} (w : World) (v : Sl) (h : Int) (l : List Sp) (hg : Gs D w v l) (p : Int) :
    Calls Try.prog 21 #[ckV v h, .int .i64 p] w fun e w' => e = .returned (.int .i64 (frm l p)) ∧ Below w.heap.size w w' := by
  obtain ⟨a, len, cap⟩ := v
  have hmf : ∀ (fn : Fn) (first cap : Array Value) (w : World), (Instr.makeFunc fn first cap).run Try.prog w = .ok (.func fn first cap) w := fun _ _ _ _ => rfl
  have hA1 := below_alloc w (.cells #[.slice a len cap, .int .i64 h] 24)
  have hA2 := below_alloc (w.alloc (.cells #[.slice a len cap, .int .i64 h] 24)) (.cells #[.int .i64 p] 3)
  have hA := rBelow hA1 hA2
  have hcell : ((w.alloc (.cells #[.slice a len cap, .int .i64 h] 24)).alloc (.cells #[.int .i64 p] 3)).cell? ⟨w.heap.size + 1, 0, none⟩ = some (.int .i64 p) := by
    have hb := heap_alloc_new (w.alloc (.cells #[.slice a len cap, .int .i64 h] 24)) (.cells #[.int .i64 p] 3)
    rw [alloc_size] at hb
    rw [cell_of_row _ _ _ _ _ _ hb]
    rfl
  have HI := hide (indexFunc_any _ ⟨a, len, cap⟩ l (hg.below hA (Nat.le_refl _)) (w.heap.size + 1) p hcell)
  have HP := hide (isPage_any p)
  have HA := hide hA
  clear hg hA1 hA2 hA hcell
  unfold ckV pgV Sl.val at *
  simp only at *
  cases hp : isPg p with
  | true =>
    rw [hp] at HP
    have e : frm l p = ixP l p := by unfold frm; rw [if_pos hp]
    rw [e]
    clear e
    go_enter Try.func21, Try.ntmps21
    go_wp2_with fail
    refine (HP.out _).mono ?_
    rintro e w1 ⟨rfl, rfl⟩
    go_wp2_with fail
    refine HI.out.mono ?_
    rintro e w1 ⟨rfl, hb1⟩
    have HB1 := hide (rBelow HA.out hb1)
    clear hb1
    go_wp2_with fail
    go_ret
    exact ⟨rfl, HB1.out⟩
  | false =>
    rw [hp] at HP
    have e : frm l p = -1 := by unfold frm; rw [if_neg (by rw [hp]; decide)]
    rw [e]
    clear e
    go_enter Try.func21, Try.ntmps21
    go_wp2_with fail
    refine (HP.out _).mono ?_
    rintro e w1 ⟨rfl, rfl⟩
    go_wp2_with fail
    go_ret
    exact ⟨rfl, HA.out⟩
end Go.Proofs.Ytfdfpdioelfjdaa
