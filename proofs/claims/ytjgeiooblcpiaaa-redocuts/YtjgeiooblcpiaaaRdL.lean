/-
  Layer 6: all groups of a row, by the program and by the document.
-/
import Derived.Test.YtjgeiooblcpiaaaRdJ
namespace Go.Proofs.Ytjgeiooblcpiaaa
open Go.RowKit

/-- Rows of groups that are being built. -/
structure GS (H : Nat → Prop) (base : Nat) (w : World) (v : Sl) (L : List Gp) : Prop where
  own : OwnG w v L
  blk : ∀ k, v.blk = some k → base ≤ k
  gr : ∀ x ∈ L, Gr (fun k => H k ∧ v.blk ≠ some k) w x.v x.l
theorem GS.none (H : Nat → Prop) (base : Nat) (w : World) : GS H base w Sl.nil [] := ⟨Own.nil _ _ _, fun k hk => (by cases hk), fun _ h => (by cases h)⟩
theorem GS.new (H : Nat → Prop) (base : Nat) (w : World) (hb : base ≤ w.heap.size) : GS H base (w.alloc (.cells #[] 25)) ⟨some ⟨w.heap.size, 0, Option.none⟩, 0, 0⟩ [] := ⟨OwnG.new w, fun k hk => (by cases hk; exact hb), fun _ h => (by cases h)⟩
theorem GS.keep {H : Nat → Prop} {base : Nat} {w w' : World} {v : Sl} {L : List Gp} (h : GS H base w v L) (hb : Below w.heap.size w w') : GS H base w' v L :=
  ⟨h.own.frame (fun k hk => hb.block k (h.own.lt hk)), h.blk, fun x hx => (h.gr x hx).below hb (Nat.le_refl _)⟩
theorem GS.add {H : Nat → Prop} {base : Nat} {w w' : World} {v v' : Sl} {L : List Gp} {x : Gp} (h : GS H base w v L) (hx : Gr (fun k => H k ∧ v.blk ≠ some k) w x.v x.l) (ho : OwnG w' v' (L ++ [x])) (hf : Frm (fun k => v.blk = some k) w w') (hb : v'.blk = v.blk ∨ ∃ k, v'.blk = some k ∧ w.heap.size ≤ k) (hbase : base ≤ w.heap.size) : GS H base w' v' (L ++ [x]) ∧ Below base w w' := by
  refine ⟨⟨ho, fun k hk => ?_, fun y hy => ?_⟩, hf.below hbase h.blk⟩
  · rcases hb with e | ⟨j, e, hj⟩
    · exact h.blk k (by rw [← e]; exact hk)
    · rw [e] at hk
      cases hk
      omega
  · have hy' : Gr (fun k => H k ∧ v.blk ≠ some k) w y.v y.l := by
      rcases List.mem_append.1 hy with hy | hy
      · exact h.gr y hy
      · rw [List.mem_singleton.1 hy]
        exact hx
    have h2 : Gr (fun k => (H k ∧ v.blk ≠ some k) ∧ v'.blk ≠ some k) w y.v y.l := hy'.mono (fun k hk hl => ⟨hk, fun e => by
      rcases hb with e' | ⟨j, e', hj⟩
      · exact hk.2 (by rw [← e']; exact e)
      · rw [e'] at e
        cases e
        omega⟩)
    exact (h2.keep (Kept.frm hf (fun k hk => hk.1.2))).mono (fun k hk _ => ⟨hk.1.1, hk.2⟩)
theorem GS.at {H : Nat → Prop} {base : Nat} {w : World} {v : Sl} {L : List Gp} (h : GS H base w v L) {i : Nat} (hi : i < v.len) : Gr (fun k => H k ∧ v.blk ≠ some k) w (L.getD i Gp.zero).v (L.getD i Gp.zero).l := h.gr _ (getD_mem _ (by rw [h.own.len]; exact hi))

/-- What the groups are. -/
def gims (L : List Gp) : List (List Im) := L.map fun x => ims x.l
theorem gims_append (L M : List Gp) : gims (L ++ M) = gims L ++ gims M := by simp [gims]
theorem gims_length (L : List Gp) : (gims L).length = L.length := by simp [gims]
theorem gims_getD (L : List Gp) (i : Nat) : (gims L).getD i [] = ims (L.getD i Gp.zero).l := by
  unfold gims
  simp only [List.getD, List.getElem?_map]
  cases L[i]? <;> rfl
noncomputable def rowsTo (xs : List Nat) (i : Nat) : List (List Im) := (List.range i).map (rowG xs)
theorem rowsTo_succ (xs : List Nat) (i : Nat) : rowsTo xs (i + 1) = rowsTo xs i ++ [rowG xs i] := by simp [rowsTo, List.range_succ]

/-- What Row leaves. -/
def RowPost (H : Nat → Prop) (w : World) (xs : List Nat) (e : Ending) (w' : World) : Prop := ∃ (v : Sl) (L : List Gp) (i : Nat), e = .returned (.tuple #[v.val, .int .i64 ((rowAt xs i : Nat) : Int)]) ∧ GS H w.heap.size w' v L ∧ v.len = i ∧ gims L = rowsTo xs i ∧ (∀ j, j < i → rowOk xs j) ∧ ¬ rowOk xs i ∧ Below w.heap.size w w'

theorem Came.from_ {w : World} {a : Option Addr} {len cap : Nat} {xs : List Nat} (h : Came w a len cap xs) (k : Nat) (hk : k ≤ len) : Came w (fromA a cap k) (len - k) (cap - k) (xs.drop k) := by
  have := Came.mid (s := ⟨a, len, cap⟩) h k len hk (Nat.le_refl _)
  rw [List.take_of_length_le (by rw [List.length_drop, h.bs.1]; exact Nat.le_refl _)] at this
  exact this
theorem fromA_block {a : Option Addr} {cap k : Nat} {ad : Addr} (h : fromA a cap k = some ad) : ∃ ad', a = some ad' ∧ ad'.block = ad.block := by
  unfold fromA at h
  split at h
  · exact ⟨ad, h, rfl⟩
  · cases ha : a with
    | none => rw [ha] at h; cases h
    | some x =>
      rw [ha] at h
      refine ⟨x, rfl, ?_⟩
      simp only [Option.map_some, Option.some.injEq] at h
      rw [← h]
      obtain ⟨b, o, sp⟩ := x
      simp only [Addr.add]
      split <;> rfl

set_option maxHeartbeats 8000000 in
set_option maxRecDepth 100000 in
theorem row_any (w : World) (a : Option Addr) (len cap : Nat) (xs : List Nat) (h : Came w a len cap xs) (hm : len ≤ 100000) :
    Calls Try.prog 17 #[.slice a len cap] w fun e w' => RowPost (fun k => w.heap.size ≤ k) w xs e w' := by
  have HX := hide h.bs.1
  have H := hide h
  have HG0 := hide (GS.none (fun k => w.heap.size ≤ k) w.heap.size w)
  have HR := hide (Below.refl w.heap.size w)
  clear h
  go_enter Try.func17, Try.ntmps17
  go_wp2_with fail
  go_loopw [4, 5] (fun gv tv wr => ∃ (i t : Nat) (v : Sl) (L : List Gp), t ≤ len ∧ Hid (t = rowAt xs i) ∧ tv = .int .i64 (t : Nat) ∧ gv = v.val ∧ Hid (v.len = i) ∧ Hid (GS (fun k => w.heap.size ≤ k) w.heap.size wr v L) ∧ Hid (gims L = rowsTo xs i) ∧ Hid (∀ j, j < i → rowOk xs j) ∧ Hid (Below w.heap.size w wr)) (fun _ tv _ => len - (intOf tv).toNat)
  case atStart => exact ⟨0, 0, Sl.nil, [], by omega, hide rfl, rfl, rfl, hide rfl, HG0, hide rfl, hide (fun j hj => absurd hj (Nat.not_lt_zero j)), HR⟩
  case round =>
    obtain ⟨i, t, v, L, ht, hti, rfl, rfl, hvl, hg, hgi, hok, hW⟩ := hrel
    have hcm : Came wr a len cap xs := ⟨H.out.bs.keep hW.out (Nat.le_refl _), H.out.nil, H.out.le, H.out.big⟩
    have HF := hide (first_any wr _ _ _ _ (hcm.from_ t ht) (by omega))
    have hrun : ∀ w : World, (Instr.sliceAt 24 (.slice a len cap) (some (.int .i64 ((t : Nat) : Int))) none none).run Try.prog w = .ok (.slice (fromA a cap t) (len - t) (cap - t)) w := slice_from a len cap t ht
    have HRUN := hide hrun
    clear hrun hcm
    obtain ⟨va, vl, vc⟩ := v
    replace hvl : Hid (vl = i) := hvl
    unfold Sl.val
    simp only
    go_wp2_with (refine wpList_slice _ rfl 24 (.tmp 10) (some (.tmp 11)) none rfl (.slice (fromA a cap t) (len - t) (cap - t)) (HRUN.out _) ?_)
    refine HF.out.mono ?_
    rintro e w1 ⟨v1, rfl, ⟨l1, hg1, hi1⟩, hb1⟩
    have HB1 := hide (rBelow hW.out hb1)
    have HG := hide (hg.out.keep hb1)
    have HV : Hid (∀ k, (Sl.mk va vl vc).blk = some k → k < wr.heap.size) := fun k hk => hg.out.own.lt hk
    have HG1 := hide hg1
    have HI1 : Hid (ims l1 = rowG xs i) := by
      show _ = _
      rw [hi1, hti.out]
      rfl
    have HSZ : Hid (w.heap.size ≤ wr.heap.size) := hW.out.size
    rcases dec_e (b := xs.drop t) with he | ⟨he, _, _⟩
    · have hdk := dec_ok he
      rw [List.length_drop, HX.out] at hdk
      obtain ⟨q, hq⟩ : ∃ q, q = (dec (xs.drop t)).n := ⟨_, rfl⟩
      have HOKI : Hid (rowOk xs i) := by
        show (dec (xs.drop (rowAt xs i))).e = 0
        rw [← hti.out]
        exact he
      have HNX : Hid (t + q = rowAt xs (i + 1)) := by
        show t + q = rowAt xs i + (dec (xs.drop (rowAt xs i))).n
        rw [hq, ← hti.out]
      rw [he, ← hq]
      rw [← hq] at hdk
      have hq2 : 2 ≤ q := hdk.1
      have hq3 : q ≤ len - t := hdk.2.1
      clear hdk hq he hi1 hg1 hb1
      obtain ⟨xa, xl, xc⟩ := v1
      unfold Sl.val
      simp only
      have HGA : Hid (GS (fun k => w.heap.size ≤ k) w.heap.size w1 ⟨va, vl, vc⟩ L) := HG.out
      have HLEN : Hid ((Sl.mk va vl vc).len + 1 ≤ 1000000) := by
        have h1 := rowAt_le (b := xs) i hok.out
        rw [HX.out] at h1
        have h2 := hvl.out
        show vl + 1 ≤ 1000000
        omega
      go_wp2_with (at_builtin; refine wpList_append_gr w1 ⟨⟨xa, xl, xc⟩, l1⟩ rfl (.tmp 21) (.tmp 23) rfl ⟨va, vl, vc⟩ L rfl rfl HGA.out.own HLEN.out ?_)
      intro v2 w2 ho2 hl2 hf2 hb2
      have hxg : Gr (fun k => w.heap.size ≤ k ∧ (Sl.mk va vl vc).blk ≠ some k) w1 ⟨xa, xl, xc⟩ l1 := HG1.out.mono (fun k hk _ => ⟨Nat.le_trans HSZ.out hk, fun e => by have := HV.out k e; omega⟩)
      obtain ⟨hg2, hbb2⟩ := HGA.out.add (x := ⟨⟨xa, xl, xc⟩, l1⟩) hxg ho2 hf2 hb2 HB1.out.size
      have HG2 := hide hg2
      have HB2 := hide (HB1.out.trans hbb2)
      have HL2 : Hid (v2.len = i + 1) := by
        show _ = _
        rw [hl2]
        show vl + 1 = _
        rw [hvl.out]
      have HM2 : Hid (gims (L ++ [⟨⟨xa, xl, xc⟩, l1⟩]) = rowsTo xs (i + 1)) := by
        show _ = _
        rw [gims_append, hgi.out, rowsTo_succ]
        show _ ++ [ims l1] = _
        rw [HI1.out]
      clear hg2 hbb2 hxg ho2 hf2 hb2 hl2
      go_wp2_with fail
      go_roundw
      case rel => exact ⟨i + 1, t + q, v2, _, by omega, HNX, by go_num, rfl, HL2, HG2, HM2, hide (fun j hj => by
        rcases Nat.lt_or_ge j i with h | h
        · exact hok.out j h
        · obtain rfl : j = i := by omega
          exact HOKI.out), HB2⟩
      case measure => simp only [intOf]; omega
    · obtain ⟨er, her⟩ : ∃ er, er = (dec (xs.drop t)).e := ⟨_, rfl⟩
      have HNO : Hid (¬ rowOk xs i) := by
        show ¬ (dec (xs.drop (rowAt xs i))).e = 0
        rw [← hti.out]
        exact he
      rw [← her] at he ⊢
      have i7 : (((er : Nat) : Int) != 0) = true := by rw [bne_iff_ne]; omega
      clear her hi1 hg1 hb1
      obtain ⟨xa, xl, xc⟩ := v1
      unfold Sl.val
      simp only
      go_wp2_with fail
      go_ret2
      refine ⟨⟨va, vl, vc⟩, L, i, ?_, HG.out, hvl.out, hgi.out, hok.out, HNO.out, HB1.out⟩
      rw [← hti.out]
      rfl
end Go.Proofs.Ytjgeiooblcpiaaa
