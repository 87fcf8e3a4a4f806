/-
  Layer 6: what groupOf and First tell.
-/
import Derived.Test.YtjgeiooblcpiaaaRdF
namespace Go.Proofs.Ytjgeiooblcpiaaa
open Go.RowKit

section
variable {ops : Array Oper} {rest : List Oper} {o : Oper} {a : Act} {Q : Exit → Act → World → Prop}
theorem wpList_slice (w : World) (hgd : o.guard = none) (t : TypeId) (x : Operand) (lo hi : Option Operand) (ho : o.op = .slice t x lo hi none) (v : Value) (hrun : (Instr.sliceAt t (a.eval x) (lo.map a.eval) (hi.map a.eval) none).run Try.prog w = .ok v w) (hK : wpList Try.prog ops Q rest (a.put o.dst v) w) : wpList Try.prog ops Q (o :: rest) a w := by
  refine wpList_val w hgd v w ?_ hK
  have e : execOp a.eval o = (do pure (.value (← Instr.sliceAt t (a.eval x) (lo.map a.eval) (hi.map a.eval) none))) := by
    unfold execOp
    rw [ho]
    rfl
  rw [e]
  simp [hrun]
end

theorem grp_no {x : List Nat} {n : Nat} (h : ¬ (1 ≤ x.length ∧ x.length = 1 + 513 * x.getD 0 0 ∧ May (imgs x (x.getD 0 0)))) : grp x n = Told.no 4 := by
  unfold grp
  rw [if_neg h]
theorem grp_yes {x : List Nat} {n : Nat} (h : 1 ≤ x.length ∧ x.length = 1 + 513 * x.getD 0 0 ∧ May (imgs x (x.getD 0 0))) : grp x n = ⟨imgs x (x.getD 0 0), n, 0⟩ := by
  unfold grp
  rw [if_pos h]

/-- A group told, in new memory. -/
def NewG (w w' : World) (v : Sl) (g : List Im) : Prop := ∃ l, Gr (fun k => w.heap.size ≤ k) w' v l ∧ ims l = g
theorem NewG.none (w w' : World) : NewG w w' Sl.nil [] := ⟨[], Gr.none, rfl⟩

set_option maxHeartbeats 4000000 in
set_option maxRecDepth 100000 in
theorem groupOf_any (w : World) (a : Option Addr) (len cap : Nat) (x : List Nat) (h : Came w a len cap x) (hm : len ≤ 100000) :
    Calls Try.prog 24 #[.slice a len cap] w fun e w' => ∃ v : Sl, e = .returned (.tuple #[v.val, .int .i64 ((grp x 0).e : Nat)]) ∧ NewG w w' v (grp x 0).g ∧ Below w.heap.size w w' := by
  have hxl := h.bs.1
  have HR := hide (Below.refl w.heap.size w)
  by_cases h1 : len < 1
  · have e : grp x 0 = Told.no 4 := grp_no (fun hh => by have := hh.1; omega)
    rw [e]
    have i1 : ((len : Nat) : Int) < 1 := by omega
    clear h e hxl
    go_enter Try.func24, Try.ntmps24
    go_wp2_with fail
    go_ret2
    exact ⟨Sl.nil, rfl, NewG.none _ _, HR.out⟩
  have i1 : ¬ ((len : Nat) : Int) < 1 := by omega
  obtain ⟨b, o, ha, hc0⟩ := h.bs.2.2 0 (by omega)
  subst ha
  rw [Nat.add_zero] at hc0
  obtain ⟨n, hn⟩ : ∃ n, n = x.getD 0 0 := ⟨_, rfl⟩
  rw [← hn] at hc0
  have hn256 : n < 256 := by rw [hn]; exact getD_lt h.bs.2.1 0
  have hbw : b < w.heap.size := World.block_lt_of_cell? w _ hc0
  by_cases h2 : len = 1 + 513 * n
  · have H := hide h
    have HXL := hide hxl
    have HN := hide hn
    have HX := hide h.bs.2.1
    have hle := h.le
    have i2 : (((len : Nat) : Int) != 1 + ((n : Nat) : Int) * 513) = false := by
      rw [bne_eq_false_iff_eq]
      omega
    have HL2 := hide h2
    have i3 : (0 : Int) < ((len : Nat) : Int) := by omega
    have HG0 := hide (GI.none (fun k => w.heap.size ≤ k) w.heap.size w)
    clear h hxl hn h2
    go_enter Try.func24, Try.ntmps24
    go_wp2_with fail
    clear hc0
    go_loopw [4, 5] (fun gv i wr => ∃ (j : Nat) (p : Nat) (v : Sl) (l : List Ix), j ≤ n ∧ p = 1 + 513 * j ∧ i = .int .i64 (p : Nat) ∧ gv = v.val ∧ v.len = j ∧ Hid (GI (fun k => w.heap.size ≤ k) w.heap.size wr v l) ∧ Hid (ims l = imgs x j) ∧ Hid (Below w.heap.size w wr)) (fun _ i _ => len - (intOf i).toNat)
    case atStart => exact ⟨0, 1, Sl.nil, [], by omega, rfl, rfl, rfl, rfl, HG0, hide rfl, HR⟩
    case round =>
      obtain ⟨j, p, v, l, hj, hp, rfl, rfl, hvl, hg, hi, hW⟩ := hrel
      have HP := hide hp
      have h2 := HL2.out
      rcases Nat.lt_or_ge j n with hlt | hge
      · have i4 : ((p : Nat) : Int) < ((len : Nat) : Int) := by omega
        have hd := below_drew wr
        have hcm : Came wr.drew (some ⟨b, o, none⟩) len cap x := by
          have h9 := H.out
          exact ⟨h9.bs.keep (rBelow hW.out (hd)) (Nat.le_refl _), h9.nil, h9.le, h9.big⟩
        have hmid := Came.mid (s := ⟨some ⟨b, o, none⟩, len, cap⟩) hcm (p + 1) (p + 513) (by omega) (by show p + 513 ≤ len; omega)
        rw [show p + 513 - (p + 1) = 512 by omega] at hmid
        have HRG := hide (fun Q A => @grp7 wr (fun k => w.heap.size ≤ k) w.heap.size b o len cap p x v l (hg.out.keep hd) (Nat.le_trans hW.out.size hd.size) hcm.bs hbw HX.out (by omega) hle (by omega) (by omega) hmid (fun k hk => Nat.le_trans hW.out.size (Nat.le_trans hd.size hk)) Q A)
        have HNX : Hid (∀ s : Sl, ims (l ++ [(⟨((x.getD p 0 : Nat) : Int), s, (x.drop (p + 1)).take 512⟩ : Ix)]) = imgs x (j + 1)) := by
          intro s
          rw [ims_append, hi.out, imgs_succ, hp]
          show _ ++ [(⟨_, _⟩ : Im)] = _
          unfold imgAt
          rw [show 1 + 513 * j + 1 = 2 + 513 * j by omega]
        have hp513 : p + 513 ≤ len := by omega
        clear hp hcm hmid hd h2
        go_wp2_with fail
        refine Pl.region_is (ops := Pl.find 7 ((Try.f24.body).getD .skip)) (by kernel_rfl) ?_
        refine HRG.out _ _ (by rfl) rfl (by rfl) (by rfl) (by rfl) ?_
        intro uu w9 v9 s9 hg9 hl9 hb9
        have HG9 := hide hg9
        have HB9 := hide ((rBelow hW.out (below_drew wr)).trans hb9)
        have hl9' : v9.len = j + 1 := by omega
        have HN9 := hide (HNX.out s9)
        simp only [Act.put, List.setIfInBounds_toArray, List.set_cons_zero, List.set_cons_succ]
        clear HRG HNX hg9 hb9 hl9
        go_wp2_with fail
        go_roundw
        case rel => exact ⟨j + 1, p + 513, v9, _, by omega, by have := HP.out; omega, by go_num, rfl, hl9', HG9, HN9, HB9⟩
        case measure => simp only [intOf]; omega
      · have hjn : j = n := by omega
        have i4 : ¬ ((p : Nat) : Int) < ((len : Nat) : Int) := by omega
        have hgr := hg.out.gr (by omega)
        have hchk := check_any wr v l hgr
        rw [hi.out] at hchk
        have HGR : Hid (NewG w wr v (imgs x n)) := ⟨l, hgr.mono (fun k hk _ => hk.elim id id), by rw [hi.out, hjn]⟩
        rw [hjn] at hchk
        have HLN : Hid (1 ≤ x.length ∧ x.length = 1 + 513 * x.getD 0 0) := by rw [HXL.out, ← HN.out]; exact ⟨by omega, h2⟩
        clear hgr hp h2
        by_cases hy : May (imgs x n)
        · rw [chk_ok hy] at hchk
          have HC := hide hchk
          have HE : Hid (grp x 0 = ⟨imgs x n, 0, 0⟩) := by
            show _ = _
            rw [grp_yes ⟨HLN.out.1, HLN.out.2, by rw [← HN.out]; exact hy⟩, ← HN.out]
          clear hchk
          go_wp2_with fail
          refine HC.out.mono ?_
          rintro e w1 ⟨rfl, hb1⟩
          have HGR2 : Hid (NewG w w1 v (imgs x n)) := by
            obtain ⟨l', h3, h4⟩ := HGR.out
            exact ⟨l', h3.below hb1 (Nat.le_refl _), h4⟩
          have HB2 := hide (hW.out.trans (hb1.mono hW.out.size))
          clear hb1 HC
          go_wp2_with fail
          go_ret2
          refine ⟨v, ?_, ?_, HB2.out⟩
          · rw [HE.out]; rfl
          · rw [HE.out]; exact HGR2.out
        · rw [chk_no hy] at hchk
          have HC := hide hchk
          have HE : Hid (grp x 0 = Told.no 4) := grp_no (fun hh => hy (by rw [HN.out]; exact hh.2.2))
          clear hchk
          go_wp2_with fail
          refine HC.out.mono ?_
          rintro e w1 ⟨rfl, hb1⟩
          have HB2 := hide (hW.out.trans (hb1.mono hW.out.size))
          clear hb1 HC
          go_wp2_with fail
          go_ret2
          refine ⟨Sl.nil, ?_, ?_, HB2.out⟩
          · rw [HE.out]; rfl
          · rw [HE.out]; exact NewG.none _ _
  · have e : grp x 0 = Told.no 4 := grp_no (fun hh => by have := hh.2.1; rw [← hn] at this; omega)
    rw [e]
    have i2 : (((len : Nat) : Int) != 1 + ((n : Nat) : Int) * 513) = true := by
      rw [bne_iff_ne]
      omega
    have i3 : (0 : Int) < ((len : Nat) : Int) := by omega
    clear h e hxl hn h2
    go_enter Try.func24, Try.ntmps24
    go_wp2_with fail
    go_ret2
    exact ⟨Sl.nil, rfl, NewG.none _ _, HR.out⟩
end Go.Proofs.Ytjgeiooblcpiaaa
