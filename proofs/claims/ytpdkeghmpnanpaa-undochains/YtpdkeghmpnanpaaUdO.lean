/-
  The document's Chain.
-/
import Derived.Test.YtpdkeghmpnanpaaUdK
namespace Go.Proofs.Ytpdkeghmpnanpaa
open Go.RowKit

set_option maxHeartbeats 4000000 in
set_option maxRecDepth 100000 in
theorem rChain_any (a : Option Addr) (n cap : Nat) (l : List Ux) (w : World) (h : Us w a n l) (hbig : n ≤ 1000) (c0 : Int) :
    Calls Try.prog 24 #[.slice a n cap, .int .i64 c0] w fun e w' => ∃ s : Sl, e = .returned s.val ∧ ChainT (uns l) c0 w' s ∧ Below w.heap.size w w' := by
  have HUL : Hid ((uns l).length = n) := by show _ = _; rw [uns_len, h.len]
  have HE := hide h
  have H0 := hide (Ud.new0 w w (Below.refl _ _))
  clear h
  go_enter Try.func24, Try.ntmps24
  go_wp2_with fail
  go_loopw [1, 5, 6] (fun cv v iv wr => ∃ (c : Int) (s : Sl), cv = .int .i64 c ∧ v = .slice s.a s.len s.cap ∧ iv = .int .i64 ((s.len : Nat) : Int) ∧ s.len ≤ n ∧ Hid (∃ l', Ud w wr s l' ∧ PreR (uns l) c0 (uns l') c)) (fun _ v _ _ => n - slLen v)
  case atStart => exact ⟨c0, ⟨some ⟨w.heap.size, 0, none⟩, 0, 0⟩, rfl, rfl, rfl, Nat.zero_le _, [], H0.out, PreR.start _ _⟩
  case round =>
    obtain ⟨c, ⟨sa, sl, sc⟩, rfl, rfl, rfl, hsn, hlk⟩ := hrel
    obtain ⟨l', hud, hpre⟩ := hlk.out
    simp only at hsn ⊢
    have HUD := hide hud
    have HPR := hide hpre
    have HAT := hide (rAt_any a n cap l _ (HE.out.keep hud.below (Nat.le_refl _)) (by omega) c)
    have hll : l'.length = sl := hud.len
    have hi1 : ((sl : Nat) : Int) ≤ ((n : Nat) : Int) := by omega
    clear hlk hpre hud
    go_wp2_with fail
    refine HAT.out.mono ?_
    rintro e w2 ⟨y, rfl, hyu, hym, hb2⟩
    have HYU := hide hyu
    have hfy := HE.out.mz hym
    have HFY := hide hfy.1
    have HFT := hide hfy.2
    have HUD2 := hide (HUD.out.keep hb2)
    have HLT : Hid (∀ k, Sl.blk ⟨sa, sl, sc⟩ = some k → k < w2.heap.size) := fun k hk => HUD2.out.own.lt hk
    obtain ⟨W3, hst3, hblk3, hb3⟩ := box_un w2 y
    have HST := hide hst3
    have HUD3 := hide (HUD2.out.keep hb3)
    have HBK3 := hide hblk3
    clear hyu hym hfy hb2 hst3 hblk3 hb3 HAT HUD HUD2
    go_wp2_with (refine wpList_store _ rfl rfl 30 (.tmp 7) (.tmp 17) rfl (.pointer (some ⟨w2.heap.size, 0, none⟩)) y.val rfl rfl W3 HST.out ?_)
    refine Pl.region_is (ops := Pl.find 6 ((Try.f24.body).getD .skip)) (by kernel_rfl) ?_
    cases hem : y.u.emp with
    | true =>
      have HSTP := hide (HPR.out.stop (.inl (by rw [← HYU.out]; exact hem)))
      refine rch6E W3 W3 w2.heap.size y HBK3.out (HFY.out.keep HUD3.out.below (Nat.le_refl _)) hem (Below.refl _ _) (by rfl) (by rfl) (by rfl) ?_
      intro u w4 hb4
      simp only [Act.put, List.setIfInBounds_toArray, List.set_cons_zero, List.set_cons_succ]
      have HUD4 := hide (HUD3.out.keep hb4)
      clear hb4
      go_wp2_with fail
      go_ret
      exact ⟨⟨_, sl, sc⟩, rfl, ⟨_, HUD4.out.row, HSTP.out⟩, HUD4.out.below⟩
    | false =>
      have HEM := hide hem
      rcases Nat.eq_zero_or_pos sl with h0 | h0
      · have HFO : Hid (follow (uns l').getLast? y.u = true) := by show _ = _; rw [uns_none l' (by omega)]; rfl
        subst h0
        refine rch6Z W3 W3 w2.heap.size y HBK3.out (HFY.out.keep HUD3.out.below (Nat.le_refl _)) hem (Below.refl _ _) (by rfl) (by rfl) (by rfl) (by rfl) ?_
        clear hem
        intro u w5 hb5
        simp only [Act.put, List.setIfInBounds_toArray, List.set_cons_zero, List.set_cons_succ]
        have HUD5 := hide (HUD3.out.keep hb5)
        have HBK5 := hide (HBK3.out.keep hb5)
        have HL5 := hide (load_un _ y.u (.slice y.a y.n y.c) ⟨_, _, _, rfl⟩ w5 HBK5.out)
        unfold Un.val at HL5
        clear hb5
        have hud5 := HUD5.out
        have hnew : PreR (uns l) c0 (uns (l' ++ [y])) y.u.prev := by
          have := HPR.out.step (by rw [← HYU.out]; exact HEM.out) (by rw [← HYU.out]; exact HFO.out)
          rw [← HYU.out] at this
          rw [uns_app]
          exact this
        have hnl := hnew.len
        rw [uns_len, List.length_append, List.length_singleton, hll, HUL.out] at hnl
        obtain ⟨⟨ta, tl, tc⟩, W6, hrun6, hud6⟩ := hud5.one y (Col.old HFY.out hud5.below) HFT.out (by omega)
        have htl : tl = 0 + 1 := by
          have := hud6.len
          rw [List.length_append, List.length_singleton, hll] at this
          exact this.symm
        subst htl
        have HR6 : Hid (∀ ty, (Builtin.append_ #[22, 22] ty #[.slice (sa) 0 sc, .slice (some ⟨w5.heap.size, 0, none⟩) 1 1]).run Try.prog (w5.alloc (.cells #[.int .i64 y.u.tx, .int .i64 y.u.no, .int .i64 y.u.prev, .int .i64 y.u.kind, .int .i64 y.u.page, .int .i64 y.u.slot, .float .f64 y.u.row.key, .bool y.u.row.dead, .slice y.a y.n y.c, .int .i64 y.u.row.wr, .int .i64 y.u.row.cell, .int .i64 y.u.row.no] 30)) = .ok (.slice ta (0 + 1) tc) W6) := hrun6
        have HN : Hid (∃ l', Ud w W6 ⟨ta, 0 + 1, tc⟩ l' ∧ PreR (uns l) c0 (uns l') y.u.prev) := ⟨_, hud6, hnew⟩
        have x2 : W6.cell? ⟨w2.heap.size, 2, none⟩ = some (.int .i64 y.u.prev) := ((HBK5.out.keep (below_alloc w5 _)).frm (one_frm hud5 y (by omega) (hrun6 0)) (fun e => absurd (HLT.out _ e) (Nat.lt_irrefl _))).c2
        clear hud5 hnew hrun6 hud6 HUD3 HUD5 HBK3 HBK5 HST
        go_wp2_with (first | refine wpList_load _ rfl 30 (.tmp 7) rfl (.pointer (some ⟨w2.heap.size, 0, none⟩)) _ rfl HL5.out ?_ | (at_builtin; refine wpList_app _ rfl 22 (.tmp 45) (.tmp 47) rfl _ _ rfl rfl (.slice ta (0 + 1) tc) W6 HR6.out ?_))
        go_roundw
        case rel => exact ⟨y.u.prev, ⟨ta, 0 + 1, tc⟩, rfl, rfl, by go_num, hnl, HN⟩
        case measure => simp only [slLen]; omega
      · obtain ⟨b2, o2, ha2, hat2⟩ := HUD3.out.us.at' (sl - 1) (by show _ < sl; omega)
        replace ha2 : sa = some ⟨b2, o2, none⟩ := ha2
        subst ha2
        obtain ⟨b3, o3, ha3, hat3⟩ := HUD3.out.us.at' 0 (by show _ < sl; omega)
        simp only [Option.some.injEq, Addr.mk.injEq, and_true] at ha3
        obtain ⟨rfl, rfl⟩ := ha3
        rw [Nat.zero_mul, Nat.add_zero] at hat3
        have hgl : (uns l').getLast? = some (l'.getD (sl - 1) Ux.zero).u := by rw [uns_last l' (by omega), hll]
        have hmx := HUD3.out.us.mem (j := sl - 1) (by show _ < sl; omega)
        have hmz := HUD3.out.us.mem (j := 0) (by show _ < sl; omega)
        have hxz : (l'.getD 0 Ux.zero).u.tx = (l'.getD (sl - 1) Ux.zero).u.tx := HPR.out.tx _ (List.mem_map.2 ⟨_, hmz, rfl⟩) _ (List.mem_map.2 ⟨_, hmx, rfl⟩)
        generalize l'.getD (sl - 1) Ux.zero = x at *
        generalize l'.getD 0 Ux.zero = z at *
        clear hmx hmz
        by_cases htx : y.u.tx ≠ z.u.tx
        · have HSTP := hide (HPR.out.stop (.inr (by rw [← HYU.out, hgl]; simp only [follow]; rw [← hxz, beq_eq_false_iff_ne.2 htx]; rfl)))
          refine rch6T W3 W3 w2.heap.size y HBK3.out (HFY.out.keep HUD3.out.below (Nat.le_refl _)) b2 o2 sc sl h0 (by omega) z x hat3 hat2 htx hem (Below.refl _ _) (by rfl) (by rfl) (by rfl) (by rfl) (by rfl) ?_
          intro u w4 hb4
          simp only [Act.put, List.setIfInBounds_toArray, List.set_cons_zero, List.set_cons_succ]
          have HUD4 := hide (HUD3.out.keep hb4)
          clear hb4
          go_wp2_with fail
          go_ret
          exact ⟨⟨_, sl, sc⟩, rfl, ⟨_, HUD4.out.row, HSTP.out⟩, HUD4.out.below⟩
        · by_cases hno : x.u.no ≤ y.u.no
          · have HSTP := hide (HPR.out.stop (.inr (by rw [← HYU.out, hgl]; simp only [follow]; rw [decide_eq_false (by omega)]; simp)))
            refine rch6N W3 W3 w2.heap.size y HBK3.out (HFY.out.keep HUD3.out.below (Nat.le_refl _)) b2 o2 sc sl h0 (by omega) z x hat3 hat2 htx hno hem (Below.refl _ _) (by rfl) (by rfl) (by rfl) (by rfl) (by rfl) ?_
            intro u w4 hb4
            simp only [Act.put, List.setIfInBounds_toArray, List.set_cons_zero, List.set_cons_succ]
            have HUD4 := hide (HUD3.out.keep hb4)
            clear hb4
            go_wp2_with fail
            go_ret
            exact ⟨⟨_, sl, sc⟩, rfl, ⟨_, HUD4.out.row, HSTP.out⟩, HUD4.out.below⟩
          · have HFO : Hid (follow (uns l').getLast? y.u = true) := by
              show _ = _
              rw [hgl]
              simp only [follow]
              rw [decide_eq_true (by omega), ← hxz]
              simpa using htx
            refine rch6F W3 W3 w2.heap.size y HBK3.out (HFY.out.keep HUD3.out.below (Nat.le_refl _)) b2 o2 sc sl h0 (by omega) z x hat3 hat2 htx hno hem (Below.refl _ _) (by rfl) (by rfl) (by rfl) (by rfl) (by rfl) ?_
            clear hem htx hno hat2 hat3 hxz hgl
            intro u w5 hb5
            simp only [Act.put, List.setIfInBounds_toArray, List.set_cons_zero, List.set_cons_succ]
            have HUD5 := hide (HUD3.out.keep hb5)
            have HBK5 := hide (HBK3.out.keep hb5)
            have HL5 := hide (load_un _ y.u (.slice y.a y.n y.c) ⟨_, _, _, rfl⟩ w5 HBK5.out)
            unfold Un.val at HL5
            clear hb5
            have hud5 := HUD5.out
            have hnew : PreR (uns l) c0 (uns (l' ++ [y])) y.u.prev := by
              have := HPR.out.step (by rw [← HYU.out]; exact HEM.out) (by rw [← HYU.out]; exact HFO.out)
              rw [← HYU.out] at this
              rw [uns_app]
              exact this
            have hnl := hnew.len
            rw [uns_len, List.length_append, List.length_singleton, hll, HUL.out] at hnl
            obtain ⟨⟨ta, tl, tc⟩, W6, hrun6, hud6⟩ := hud5.one y (Col.old HFY.out hud5.below) HFT.out (by omega)
            have htl : tl = sl + 1 := by
              have := hud6.len
              rw [List.length_append, List.length_singleton, hll] at this
              exact this.symm
            subst htl
            have HR6 : Hid (∀ ty, (Builtin.append_ #[22, 22] ty #[.slice (some ⟨b2, o2, none⟩) sl sc, .slice (some ⟨w5.heap.size, 0, none⟩) 1 1]).run Try.prog (w5.alloc (.cells #[.int .i64 y.u.tx, .int .i64 y.u.no, .int .i64 y.u.prev, .int .i64 y.u.kind, .int .i64 y.u.page, .int .i64 y.u.slot, .float .f64 y.u.row.key, .bool y.u.row.dead, .slice y.a y.n y.c, .int .i64 y.u.row.wr, .int .i64 y.u.row.cell, .int .i64 y.u.row.no] 30)) = .ok (.slice ta (sl + 1) tc) W6) := hrun6
            have HN : Hid (∃ l', Ud w W6 ⟨ta, sl + 1, tc⟩ l' ∧ PreR (uns l) c0 (uns l') y.u.prev) := ⟨_, hud6, hnew⟩
            have x2 : W6.cell? ⟨w2.heap.size, 2, none⟩ = some (.int .i64 y.u.prev) := ((HBK5.out.keep (below_alloc w5 _)).frm (one_frm hud5 y (by omega) (hrun6 0)) (fun e => absurd (HLT.out _ e) (Nat.lt_irrefl _))).c2
            clear hud5 hnew hrun6 hud6 HUD3 HUD5 HBK3 HBK5 HST
            go_wp2_with (first | refine wpList_load _ rfl 30 (.tmp 7) rfl (.pointer (some ⟨w2.heap.size, 0, none⟩)) _ rfl HL5.out ?_ | (at_builtin; refine wpList_app _ rfl 22 (.tmp 45) (.tmp 47) rfl _ _ rfl rfl (.slice ta (sl + 1) tc) W6 HR6.out ?_))
            go_roundw
            case rel => exact ⟨y.u.prev, ⟨ta, sl + 1, tc⟩, rfl, rfl, by go_num, hnl, HN⟩
            case measure => simp only [slLen]; omega

end Go.Proofs.Ytpdkeghmpnanpaa
