/-
  The landed undo's Chain.
-/
import Derived.Test.YtpdkeghmpnanpaaUdI
namespace Go.Proofs.Ytpdkeghmpnanpaa
open Go.RowKit

def slLen : Value → Nat
  | .slice _ n _ => n
  | _ => 0
theorem Ud.nil (w w' : World) (hb : Below w.heap.size w w') : Ud w w' Sl.nil [] := ⟨Own.nil _ _ _, (fun k hk => by cases hk), hb, (fun x hx => by cases hx), fun x hx => by cases hx⟩
/-- The chain from a cell on, as it was built behind a slice. -/
def ChainT (L : List Un) (c : Int) (w : World) (s : Sl) : Prop := ∃ r, RowU w s r ∧ ChainR L none c r
theorem uns_last (l : List Ux) (h : 0 < l.length) : (uns l).getLast? = some (l.getD (l.length - 1) Ux.zero).u := by
  rw [List.getLast?_eq_getElem?, uns_len]
  have h1 : l.length - 1 < l.length := by omega
  unfold uns
  simp [List.getD, h1]
theorem uns_none (l : List Ux) (h : l.length = 0) : (uns l).getLast? = none := by
  have : l = [] := List.eq_nil_of_length_eq_zero h
  rw [this]; rfl
theorem uns_app (l : List Ux) (x : Ux) : uns (l ++ [x]) = uns l ++ [x.u] := by simp [uns]

theorem one_frm {w0 w : World} {s : Sl} {l : List Ux} (h : Ud w0 w s l) (x : Ux) (hl : l.length + 1 ≤ 1000000) {v : Value} {W : World}
    (hrun : (Builtin.append_ #[22, 22] 0 #[s.val, .slice (some ⟨w.heap.size, 0, none⟩) 1 1]).run Try.prog (w.alloc (.cells #[.int .i64 x.u.tx, .int .i64 x.u.no, .int .i64 x.u.prev, .int .i64 x.u.kind, .int .i64 x.u.page, .int .i64 x.u.slot, .float .f64 x.u.row.key, .bool x.u.row.dead, .slice x.a x.n x.c, .int .i64 x.u.row.wr, .int .i64 x.u.row.cell, .int .i64 x.u.row.no] 30)) = .ok v W) :
    Frm (fun k => s.blk = some k) (w.alloc (.cells #[.int .i64 x.u.tx, .int .i64 x.u.no, .int .i64 x.u.prev, .int .i64 x.u.kind, .int .i64 x.u.page, .int .i64 x.u.slot, .float .f64 x.u.row.key, .bool x.u.row.dead, .slice x.a x.n x.c, .int .i64 x.u.row.wr, .int .i64 x.u.row.cell, .int .i64 x.u.row.no] 30)) W := by
  obtain ⟨s', W', hrun', _, _, hfr, _⟩ := own_append Try.underlying22 infoUn rfl (by decide) _ s (cellsU l) (h.keep (below_alloc w _)).own (cellsU_one l) _ 1 (cellsU [x]) (src_un w x) (by rw [← h.len]; exact hl) 0
  rw [hrun] at hrun'
  injection hrun' with _ e2
  rw [e2]
  exact hfr

set_option maxHeartbeats 4000000 in
set_option maxRecDepth 100000 in
theorem chainL_no (a : Option Addr) (n cap : Nat) (l : List Ux) (w : World) (h : Us w a n l) (hbig : n ≤ 1000000) (c : Int) (hm : MayU (uns l) = false) :
    Calls Try.prog 21 #[.slice a n cap, .int .i64 c] w fun e w' => e = .returned (.slice none 0 0) ∧ Below w.heap.size w w' := by
  have HCK := hide (checkL_any a n cap l w h hbig)
  rw [hm] at HCK
  clear h hm
  go_enter Try.func21, Try.ntmps21
  go_wp2_with fail
  refine HCK.out.mono ?_
  rintro e w1 ⟨rfl, hb1⟩
  have HW1 := hide hb1
  clear hb1
  simp only [chk]
  go_wp2_with fail
  go_ret
  exact ⟨rfl, HW1.out⟩

set_option maxHeartbeats 4000000 in
set_option maxRecDepth 100000 in
theorem chainL_ok (a : Option Addr) (n cap : Nat) (l : List Ux) (w : World) (h : Us w a n l) (hbig : n ≤ 1000000) (c0 : Int) (hm : MayU (uns l) = true) :
    Calls Try.prog 21 #[.slice a n cap, .int .i64 c0] w fun e w' => ∃ s : Sl, e = .returned s.val ∧ ChainT (uns l) c0 w' s ∧ Below w.heap.size w w' := by
  have HCK := hide (checkL_any a n cap l w h hbig)
  rw [hm] at HCK
  have hP := (mayU_iff _).1 hm
  have hul : (uns l).length = n := by rw [uns_len, h.len]
  have HCO := hide hP.cols
  have HUL := hide hul
  have HE := hide h
  have HN1 : n ≤ 378 := by have := hP.hi; omega
  clear h hm hP hul
  go_enter Try.func21, Try.ntmps21
  go_wp2_with fail
  refine HCK.out.mono ?_
  rintro e w1 ⟨rfl, hb1⟩
  have HW1 := hide hb1
  clear hb1 HCK
  simp only [chk]
  go_wp2_with fail
  go_loopw [1, 5] (fun cv v wr => ∃ (c : Int) (s : Sl), cv = .int .i64 c ∧ v = .slice s.a s.len s.cap ∧ s.len ≤ n ∧ Hid (∃ l', Ud w wr s l' ∧ PreR (uns l) c0 (uns l') c)) (fun _ v _ => n - slLen v)
  case atStart => exact ⟨c0, Sl.nil, rfl, rfl, Nat.zero_le _, [], Ud.nil w w1 HW1.out, PreR.start _ _⟩
  case round =>
    obtain ⟨c, ⟨sa, sl, sc⟩, rfl, rfl, hsn, hlk⟩ := hrel
    obtain ⟨l', hud, hpre⟩ := hlk.out
    simp only at hsn ⊢
    have HUD := hide hud
    have HPR := hide hpre
    have HIU := hide (isUsed_any _ a n cap l (HE.out.keep hud.below (Nat.le_refl _)) hbig c)
    have hll : l'.length = sl := hud.len
    clear hlk hpre
    cases hem : (atU (uns l) c).emp with
    | true =>
      rw [hem] at HIU
      have HST := hide (HPR.out.stop (.inl hem))
      clear hem hud
      go_wp2_with fail
      refine HIU.out.mono ?_
      rintro e w2 ⟨rfl, hb2⟩
      have HUD2 := hide (HUD.out.keep hb2)
      clear hb2
      go_wp2_with fail
      go_ret
      exact ⟨⟨sa, sl, sc⟩, rfl, ⟨_, HUD2.out.row, HST.out⟩, HUD2.out.below⟩
    | false =>
      rw [hem] at HIU
      have hc := atU_used hem
      rw [HUL.out] at hc
      obtain ⟨k, rfl⟩ : ∃ k : Nat, c = (k : Int) + 1 := ⟨(c - 1).toNat, by omega⟩
      have hk : k < n := by omega
      have hat : atU (uns l) ((k : Int) + 1) = (l.getD k Ux.zero).u := by rw [atU_at _ (by rw [HUL.out]; exact hk), uns_get]
      have HEM := hide hem
      have HMEM := hide (HE.out.mem hk)
      have HAT := hide (HE.out.at' k hk)
      have HAU := hide hat
      have hi1 : ((k : Nat) : Int) < ((n : Nat) : Int) := by omega
      clear hat hc hem hud
      generalize l.getD k Ux.zero = y at *
      have HCY : Hid (y.n ≤ 1000) := by
        have h1 := HCO.out y.u (List.mem_map.2 ⟨y, HMEM.out, rfl⟩)
        have h2 := (HE.out.cols _ HMEM.out).len
        show _ ≤ _
        omega
      obtain ⟨b1, off, rfl, hat0⟩ := HAT.out
      have HAT0 := hide hat0
      clear hat0 HAT
      go_wp2_with fail
      refine HIU.out.mono ?_
      rintro e w2 ⟨rfl, hb2⟩
      have HUD2 := hide (HUD.out.keep hb2)
      have HLT : Hid (∀ k, Sl.blk ⟨sa, sl, sc⟩ = some k → k < w2.heap.size) := fun k hk => HUD2.out.own.lt hk
      have HLD := hide (load_unAt b1 (off + k * 12) y w2 (HAT0.out.keep HUD2.out.below (Nat.le_refl _)))
      obtain ⟨W3, hst3, hblk3, hb3⟩ := box_un w2 y
      have HST := hide hst3
      have HUD3 := hide (HUD2.out.keep hb3)
      have HBK3 := hide hblk3
      clear hb2 hst3 hblk3 hb3 HIU HUD HUD2
      go_wp2_with (first | refine wpList_load _ rfl 30 (.tmp 16) rfl (.pointer (some ⟨b1, off + k * 12, none⟩)) y.val rfl HLD.out ?_ | refine wpList_store _ rfl rfl 30 (.tmp 6) (.tmp 17) rfl (.pointer (some ⟨w2.heap.size, 0, none⟩)) y.val rfl rfl W3 HST.out ?_)
      refine Pl.region_is (ops := Pl.find 6 ((Try.f21.body).getD .skip)) (by kernel_rfl) ?_
      rcases Nat.eq_zero_or_pos sl with h0 | h0
      · subst h0
        have HFO : Hid (follow (uns l').getLast? y.u = true) := by show _ = _; rw [uns_none l' hll]; rfl
        refine chain6E W3 W3 sa sc (Below.refl _ _) (by rfl) (by rfl) (by rfl) ?_
        intro u w4 hb4
        simp only [Act.put, List.setIfInBounds_toArray, List.set_cons_zero, List.set_cons_succ]
        have HUD4 := hide (HUD3.out.keep hb4)
        have HBK4 := hide (HBK3.out.keep hb4)
        have HL4 := hide (load_un _ y.u (.slice y.a y.n y.c) ⟨_, _, _, rfl⟩ w4 HBK4.out)
        have HOW := hide (ownU_any y w4 ((HE.out.cols _ HMEM.out).keep HUD4.out.below (Nat.le_refl _)) HCY.out)
        have hval : y.u.val (.slice y.a y.n y.c) = y.val := rfl
        rw [hval] at HL4
        clear hb4 hval
        go_wp2_with (refine wpList_load _ rfl 30 (.tmp 6) rfl (.pointer (some ⟨w2.heap.size, 0, none⟩)) y.val rfl HL4.out ?_)
        refine HOW.out.mono ?_
        rintro e w5 ⟨a5, c5, rfl, ho5, hf5, hb5⟩
        have hud5 := HUD4.out.keep hb5
        have HBK5 := hide (HBK4.out.keep hb5)
        have hnew : PreR (uns l) c0 (uns (l' ++ [⟨y.u, a5, y.n, c5⟩])) y.u.prev := by
          have := HPR.out.step HEM.out (by rw [HAU.out]; exact HFO.out)
          rw [HAU.out] at this
          rw [uns_app]
          exact this
        have hnl := hnew.len
        rw [uns_len, List.length_append, List.length_singleton, hll, HUL.out] at hnl
        obtain ⟨⟨ta, tl, tc⟩, W6, hrun6, hud6⟩ := hud5.one ⟨y.u, a5, y.n, c5⟩ (Col.owns ho5 hf5) (HE.out.fits y HMEM.out) (by omega)
        have htl : tl = 0 + 1 := by
          have := hud6.len
          rw [List.length_append, List.length_singleton, hll] at this
          exact this.symm
        subst htl
        have HR6 : Hid (∀ ty, (Builtin.append_ #[22, 22] ty #[.slice (sa) 0 sc, .slice (some ⟨w5.heap.size, 0, none⟩) 1 1]).run Try.prog (w5.alloc (.cells #[.int .i64 y.u.tx, .int .i64 y.u.no, .int .i64 y.u.prev, .int .i64 y.u.kind, .int .i64 y.u.page, .int .i64 y.u.slot, .float .f64 y.u.row.key, .bool y.u.row.dead, .slice a5 y.n c5, .int .i64 y.u.row.wr, .int .i64 y.u.row.cell, .int .i64 y.u.row.no] 30)) = .ok (.slice ta (0 + 1) tc) W6) := hrun6
        have HN : Hid (∃ l', Ud w W6 ⟨ta, 0 + 1, tc⟩ l' ∧ PreR (uns l) c0 (uns l') y.u.prev) := ⟨_, hud6, hnew⟩
        have x2 : W6.cell? ⟨w2.heap.size, 2, none⟩ = some (.int .i64 y.u.prev) := ((HBK5.out.keep (below_alloc w5 _)).frm (one_frm hud5 ⟨y.u, a5, y.n, c5⟩ (by omega) (hrun6 0)) (fun e => absurd (HLT.out _ e) (Nat.lt_irrefl _))).c2
        clear ho5 hf5 hb5 hud5 hnew hrun6 hud6 HOW HL4 HUD3 HUD4 HBK3 HBK4 HBK5 HLD HST
        unfold Un.val
        go_wp2_with (at_builtin; refine wpList_app _ rfl 22 (.tmp 32) (.tmp 35) rfl _ _ rfl rfl (.slice ta (0 + 1) tc) W6 HR6.out ?_)
        go_roundw
        case rel => exact ⟨y.u.prev, ⟨ta, 0 + 1, tc⟩, rfl, rfl, hnl, HN⟩
        case measure => simp only [slLen]; omega
      · obtain ⟨b2, o2, ha2, hat2⟩ := HUD3.out.us.at' (sl - 1) (by show _ < sl; omega)
        replace ha2 : sa = some ⟨b2, o2, none⟩ := ha2
        subst ha2
        have hgl : (uns l').getLast? = some (l'.getD (sl - 1) Ux.zero).u := by rw [uns_last l' (by omega), hll]
        generalize l'.getD (sl - 1) Ux.zero = x at *
        cases hfo : follow (some x.u) y.u with
        | false =>
          have HST := hide (HPR.out.stop (.inr (by rw [HAU.out, hgl]; exact hfo)))
          refine chain6F W3 W3 b2 o2 sc sl w2.heap.size h0 (by omega) x y hat2 HBK3.out hfo (Below.refl _ _) (by rfl) (by rfl) (by rfl) (by rfl) ?_
          intro u w4 hb4
          simp only [Act.put, List.setIfInBounds_toArray, List.set_cons_zero, List.set_cons_succ]
          have HUD4 := hide (HUD3.out.keep hb4)
          clear hb4 hfo hat2 hgl
          go_wp2_with fail
          go_ret
          exact ⟨⟨some ⟨b2, o2, none⟩, sl, sc⟩, rfl, ⟨_, HUD4.out.row, HST.out⟩, HUD4.out.below⟩
        | true =>
          have HFO : Hid (follow (uns l').getLast? y.u = true) := by show _ = _; rw [hgl]; exact hfo
          refine chain6T W3 W3 b2 o2 sc sl w2.heap.size h0 (by omega) x y hat2 HBK3.out hfo (Below.refl _ _) (by rfl) (by rfl) (by rfl) (by rfl) ?_
          intro u w4 hb4
          simp only [Act.put, List.setIfInBounds_toArray, List.set_cons_zero, List.set_cons_succ]
          clear hfo hat2 hgl
          have HUD4 := hide (HUD3.out.keep hb4)
          have HBK4 := hide (HBK3.out.keep hb4)
          have HL4 := hide (load_un _ y.u (.slice y.a y.n y.c) ⟨_, _, _, rfl⟩ w4 HBK4.out)
          have HOW := hide (ownU_any y w4 ((HE.out.cols _ HMEM.out).keep HUD4.out.below (Nat.le_refl _)) HCY.out)
          have hval : y.u.val (.slice y.a y.n y.c) = y.val := rfl
          rw [hval] at HL4
          clear hb4 hval
          go_wp2_with (refine wpList_load _ rfl 30 (.tmp 6) rfl (.pointer (some ⟨w2.heap.size, 0, none⟩)) y.val rfl HL4.out ?_)
          refine HOW.out.mono ?_
          rintro e w5 ⟨a5, c5, rfl, ho5, hf5, hb5⟩
          have hud5 := HUD4.out.keep hb5
          have HBK5 := hide (HBK4.out.keep hb5)
          have hnew : PreR (uns l) c0 (uns (l' ++ [⟨y.u, a5, y.n, c5⟩])) y.u.prev := by
            have := HPR.out.step HEM.out (by rw [HAU.out]; exact HFO.out)
            rw [HAU.out] at this
            rw [uns_app]
            exact this
          have hnl := hnew.len
          rw [uns_len, List.length_append, List.length_singleton, hll, HUL.out] at hnl
          obtain ⟨⟨ta, tl, tc⟩, W6, hrun6, hud6⟩ := hud5.one ⟨y.u, a5, y.n, c5⟩ (Col.owns ho5 hf5) (HE.out.fits y HMEM.out) (by omega)
          have htl : tl = sl + 1 := by
            have := hud6.len
            rw [List.length_append, List.length_singleton, hll] at this
            exact this.symm
          subst htl
          have HR6 : Hid (∀ ty, (Builtin.append_ #[22, 22] ty #[.slice (some ⟨b2, o2, none⟩) sl sc, .slice (some ⟨w5.heap.size, 0, none⟩) 1 1]).run Try.prog (w5.alloc (.cells #[.int .i64 y.u.tx, .int .i64 y.u.no, .int .i64 y.u.prev, .int .i64 y.u.kind, .int .i64 y.u.page, .int .i64 y.u.slot, .float .f64 y.u.row.key, .bool y.u.row.dead, .slice a5 y.n c5, .int .i64 y.u.row.wr, .int .i64 y.u.row.cell, .int .i64 y.u.row.no] 30)) = .ok (.slice ta (sl + 1) tc) W6) := hrun6
          have HN : Hid (∃ l', Ud w W6 ⟨ta, sl + 1, tc⟩ l' ∧ PreR (uns l) c0 (uns l') y.u.prev) := ⟨_, hud6, hnew⟩
          have x2 : W6.cell? ⟨w2.heap.size, 2, none⟩ = some (.int .i64 y.u.prev) := ((HBK5.out.keep (below_alloc w5 _)).frm (one_frm hud5 ⟨y.u, a5, y.n, c5⟩ (by omega) (hrun6 0)) (fun e => absurd (HLT.out _ e) (Nat.lt_irrefl _))).c2
          clear ho5 hf5 hb5 hud5 hnew hrun6 hud6 HOW HL4 HUD3 HUD4 HBK3 HBK4 HBK5 HLD HST
          unfold Un.val
          go_wp2_with (at_builtin; refine wpList_app _ rfl 22 (.tmp 32) (.tmp 35) rfl _ _ rfl rfl (.slice ta (sl + 1) tc) W6 HR6.out ?_)
          go_roundw
          case rel => exact ⟨y.u.prev, ⟨ta, sl + 1, tc⟩, rfl, rfl, hnl, HN⟩
          case measure => simp only [slLen]; omega

end Go.Proofs.Ytpdkeghmpnanpaa
