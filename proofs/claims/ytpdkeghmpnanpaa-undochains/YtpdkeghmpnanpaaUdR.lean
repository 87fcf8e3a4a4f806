/-
  The law of what is got, and of chains; how a roll that came in is told.
-/
import Derived.Test.YtpdkeghmpnanpaaUdQ
import Derived.Test.YtpdkeghmpnanpaaUdN
import Derived.Test.YtpdkeghmpnanpaaUdO
namespace Go.Proofs.Ytpdkeghmpnanpaa
open Go.RowKit

theorem chain_len {l : List Un} {p : Option Un} {c : Int} {r : List Un} (h : ChainR l p c r) : ∀ (c0 : Int) (pre : List Un), PreR l c0 pre c → p = pre.getLast? → pre.length + r.length ≤ l.length := by
  induction h with
  | stop p c h =>
    intro c0 pre hp _
    have := hp.len
    simpa using this
  | step p c r h hf hr ih =>
    intro c0 pre hp he
    subst he
    have h1 := hp.step h hf
    have h2 := ih c0 _ h1 (by rw [List.getLast?_concat])
    rw [List.length_append, List.length_singleton] at h2
    rw [List.length_cons]
    omega
theorem chain_few {l : List Un} {c : Int} {r : List Un} (h : ChainR l none c r) : r.length ≤ l.length := by
  have := chain_len h c [] (PreR.start l c) rfl
  simpa using this

section
open Go.ChangeShapes Go.WideShapes Go.ChangeAt
variable {H : Type} {enc : TypeId × Value → H} {w : World} {base : Nat} {spare : Nat → Bool} {held : Bool}
theorem cell_intR {n : Nat} {v : Value} {y : DataW H × List MemPlace} (h : DataW.trod enc Try.prog w base spare held n 3 [v] = some y) : ∃ b, v = .int .i64 b := by
  have ht : Try.prog.underlying 3 = some (.int .i64) := by kernel_rfl
  cases n with
  | zero => simp [DataW.trod] at h
  | succ n =>
    cases v <;> simp [DataW.trod, ht] at h
    rename_i k b
    obtain ⟨⟨rfl, _⟩, _⟩ := h
    exact ⟨b, rfl⟩
set_option maxRecDepth 100000 in
theorem open_roll {r : Reach} {b0 : Nat} {v : Value} {d : DataW H} {p : List MemPlace} (hv : Value.okWide Try.prog w r b0 26 v) (h : DataW.Trod enc Try.prog w base spare held 26 v d p) : ∃ c m : Int, v = .agg #[.int .i64 c, .int .i64 m] := by
  obtain ⟨v0, v1, y0, y1, n, rfl, _, _, h0, h1⟩ := Go.Joins.open_agg2 Try.underlying26 (by kernel_rfl) (by kernel_rfl) hv h
  obtain ⟨c, rfl⟩ := cell_intR h0
  obtain ⟨m, rfl⟩ := cell_intR h1
  exact ⟨c, m, rfl⟩
end

set_option maxHeartbeats 4000000 in
set_option maxRecDepth 100000 in
theorem gets_walk (a : Option Addr) (n cap : Nat) (l : List Ux) (w : World) (h : Us w a n l) (hbig : n ≤ 9223372036854775807) (c m k : Int) :
    Calls Try.prog 4 #[.slice a n cap, .agg #[.int .i64 c, .int .i64 m], .int .i64 k] w fun e w' => e = .returned (.bool true) ∧ Below w.heap.size w w' := by
  have HA := hide (below_alloc w (.cells #[.int .i64 c, .int .i64 m] 26))
  have hrb := heap_alloc_new w (.cells #[.int .i64 c, .int .i64 m] 26)
  have HLI := hide (fun w' (hb : Below w.heap.size w w') => light_any a n cap l w' (h.keep hb (Nat.le_refl _)) hbig)
  have HAW := hide awake_any
  have HUL : Hid ((uns l).length = n) := by show _ = _; rw [uns_len, h.len]
  have HE := hide h
  have HRB := hide hrb
  clear h hrb
  go_enter Try.func4, Try.ntmps4
  go_wp2_with fail
  refine (HLI.out _ HA.out).mono ?_
  rintro e w1 ⟨b, rfl, hb30, hw1⟩
  have HW1 : Hid (Below w.heap.size w w1) := by rw [hw1]; exact HA.out
  have hrb1 : w1.heap[w.heap.size]? = some (Obj.cells #[.int .i64 c, .int .i64 m] 26 (0, 0)) := by rw [hw1]; exact HRB.out
  have r0 : w1.cell? ⟨w.heap.size, 0, none⟩ = some (.int .i64 c) := by rw [cell_of_row _ _ _ _ _ _ hrb1]; rfl
  have r1 : w1.cell? ⟨w.heap.size, 1, none⟩ = some (.int .i64 m) := by rw [cell_of_row _ _ _ _ _ _ hrb1]; rfl
  have HRB1 := hide hrb1
  clear hw1 HA HLI HRB hrb1
  cases b with
  | false =>
    clear hb30
    go_wp2_with fail
    refine (HAW.out _).mono ?_
    rintro e w2 ⟨rfl, hb2⟩
    have HW2 := hide (rBelow HW1.out hb2)
    clear hb2
    go_wp2_with fail
    go_ret
    exact ⟨rfl, HW2.out⟩
  | true =>
    have h30 : n ≤ 30 := hb30 rfl
    clear hb30
    have HGE := hide (getL_any a n cap l w1 (HE.out.keep HW1.out (Nat.le_refl _)) (by omega) c m)
    cases hm : MayU (uns l) with
    | false =>
      have HM := hide hm
      rw [hm, if_neg (by decide)] at HGE
      simp only at HGE
      clear hm
      go_wp2_with fail
      refine HGE.out.mono ?_
      rintro e w2 ⟨x, rfl, hxu, hfx, hb2⟩
      obtain ⟨W3, hst3, hblk3, hb3⟩ := box_un w2 x
      have HST := hide hst3
      have HW3 := hide (rBelow HW1.out (rBelow hb2 hb3))
      have HBK3 := hide hblk3
      have HFX3 := hide (hfx.keep hb3 (Nat.le_refl _))
      have HXU := hide hxu
      have HCH := hide (chainL_no a n cap l W3 (HE.out.keep HW3.out (Nat.le_refl _)) (by omega) k HM.out)
      clear hxu hfx hb2 hst3 hblk3 hb3 r0 r1 HGE
      go_wp2_with (refine wpList_store _ rfl rfl 30 (.tmp 7) (.tmp 20) rfl (.pointer (some ⟨w2.heap.size, 0, none⟩)) x.val rfl rfl W3 HST.out ?_)
      refine HCH.out.mono ?_
      rintro e w4 ⟨rfl, hb4⟩
      have HW4 := hide (rBelow HW3.out hb4)
      have HBK4 := hide (HBK3.out.keep hb4)
      have HFX4 := hide (HFX3.out.keep hb4 (Nat.le_refl _))
      have HMA := hide (rMay_any a n cap l w4 (HE.out.keep HW4.out (Nat.le_refl _)) (by omega))
      rw [HM.out] at HMA
      clear hb4 HCH HBK3 HFX3 HST
      go_wp2_with fail
      refine HMA.out.mono ?_
      rintro e w5 ⟨rfl, hb5⟩
      have HW5 := hide (rBelow HW4.out hb5)
      have HBK5 := hide (HBK4.out.keep hb5)
      have HL5 := hide (load_un _ x.u (.slice x.a x.n x.c) ⟨_, _, _, rfl⟩ w5 HBK5.out)
      have HSA := hide (sameU_yes (x := x) (y := Ux.zero) HXU.out w5 (HFX4.out.keep hb5 (Nat.le_refl _)) (fs_nil _))
      have hval : x.u.val (.slice x.a x.n x.c) = x.val := rfl
      rw [hval] at HL5
      clear hb5 hval HMA HBK4 HFX4
      go_wp2_with (refine wpList_loadG _ (by rfl) 30 (.tmp 7) rfl (.pointer (some ⟨w2.heap.size, 0, none⟩)) x.val rfl HL5.out ?_)
      refine HSA.out.mono ?_
      rintro e w6 ⟨rfl, hb6⟩
      have HW6 := hide (rBelow HW5.out hb6)
      clear hb6 HSA HL5
      go_wp2_with fail
      refine (HAW.out _).mono ?_
      rintro e w7 ⟨rfl, hb7⟩
      have HW7 := hide (rBelow HW6.out hb7)
      clear hb7
      go_wp2_with fail
      go_ret
      exact ⟨rfl, HW7.out⟩
    | true =>
      have HM := hide hm
      rw [hm, if_pos rfl] at HGE
      have HRG : Hid (∀ w', Below w.heap.size w w' → _) := fun w' hb => rGet_any a n cap l w' (HE.out.keep hb (Nat.le_refl _)) (by omega) c m
      clear hm
      generalize getU (uns l) c m = GS at *
      obtain ⟨gu, gb⟩ := GS
      simp only at HGE HRG
      go_wp2_with fail
      refine HGE.out.mono ?_
      rintro e w2 ⟨x, rfl, hxu, hfx, hb2⟩
      obtain ⟨W3, hst3, hblk3, hb3⟩ := box_un w2 x
      have HST := hide hst3
      have HW3 := hide (rBelow HW1.out (rBelow hb2 hb3))
      have HBK3 := hide hblk3
      have HFX3 := hide (hfx.keep hb3 (Nat.le_refl _))
      have HXU := hide hxu
      have HRB3 := hide (((rBelow hb2 hb3).block w.heap.size (Array.getElem?_eq_some_iff.1 HRB1.out).1).trans HRB1.out)
      have HCH := hide (chainL_ok a n cap l W3 (HE.out.keep HW3.out (Nat.le_refl _)) (by omega) k HM.out)
      clear hxu hfx hb2 hst3 hblk3 hb3 r0 r1 HGE HRB1
      go_wp2_with (refine wpList_store _ rfl rfl 30 (.tmp 7) (.tmp 20) rfl (.pointer (some ⟨w2.heap.size, 0, none⟩)) x.val rfl rfl W3 HST.out ?_)
      refine HCH.out.mono ?_
      rintro e w4 ⟨⟨sa, sl, sc⟩, rfl, hch4, hb4⟩
      obtain ⟨r4, hrow4, hcr4⟩ := hch4
      have HW4 := hide (rBelow HW3.out hb4)
      have HBK4 := hide (HBK3.out.keep hb4)
      have HFX4 := hide (HFX3.out.keep hb4 (Nat.le_refl _))
      have HRB4 := hide ((hb4.block w.heap.size (Array.getElem?_eq_some_iff.1 HRB3.out).1).trans HRB3.out)
      have HROW4 := hide hrow4
      have HCR := hide hcr4
      have hsl : ((sl : Nat) : Int) ≤ ((n : Nat) : Int) := by
        have h1 := chain_few hcr4
        have h2 := hrow4.len
        rw [HUL.out] at h1
        simp only at h2
        omega
      have hslb : r4.length ≤ 1000000 := by
        have h1 := chain_few hcr4
        rw [HUL.out] at h1
        omega
      have HSLB := hide hslb
      have HMA := hide (rMay_any a n cap l w4 (HE.out.keep HW4.out (Nat.le_refl _)) (by omega))
      rw [HM.out] at HMA
      clear hb4 HCH HBK3 HFX3 HST HRB3 hrow4 hcr4 hslb
      simp only [Sl.val]
      go_wp2_with fail
      refine HMA.out.mono ?_
      rintro e w5 ⟨rfl, hb5⟩
      have HW5 := hide (rBelow HW4.out hb5)
      have HBK5 := hide (HBK4.out.keep hb5)
      have HFX5 := hide (HFX4.out.keep hb5 (Nat.le_refl _))
      have HROW5 := hide (HROW4.out.keep hb5)
      have hrb5 := (hb5.block w.heap.size (Array.getElem?_eq_some_iff.1 HRB4.out).1).trans HRB4.out
      have r0 : w5.cell? ⟨w.heap.size, 0, none⟩ = some (.int .i64 c) := by rw [cell_of_row _ _ _ _ _ _ hrb5]; rfl
      have r1 : w5.cell? ⟨w.heap.size, 1, none⟩ = some (.int .i64 m) := by rw [cell_of_row _ _ _ _ _ _ hrb5]; rfl
      clear hb5 HMA HBK4 HFX4 HRB4 HROW4 hrb5
      go_wp2_with fail
      refine (HRG.out _ HW5.out).mono ?_
      rintro e w6 ⟨z, rfl, hzu, hfz, hb6⟩
      obtain ⟨W7, hst7, hblk7, hb7⟩ := box_un w6 z
      have HST := hide hst7
      have HW7 := hide (rBelow HW5.out (rBelow hb6 hb7))
      have HBK7 := hide (HBK5.out.keep (rBelow hb6 hb7))
      have HFX7 := HFX5.out.keep (rBelow hb6 hb7) (Nat.le_refl _)
      have HFZ7 := hfz.keep hb7 (Nat.le_refl _)
      have HROW7 := hide (HROW5.out.keep (rBelow hb6 hb7))
      have HL7 := hide (load_un _ x.u (.slice x.a x.n x.c) ⟨_, _, _, rfl⟩ W7 HBK7.out)
      have HLZ := hide (load_un _ z.u (.slice z.a z.n z.c) ⟨_, _, _, rfl⟩ W7 hblk7)
      have HSA := hide (sameU_yes (x := x) (y := z) (HXU.out.trans hzu.symm) W7 HFX7 HFZ7)
      have hval : x.u.val (.slice x.a x.n x.c) = x.val := rfl
      have hvalz : z.u.val (.slice z.a z.n z.c) = z.val := rfl
      rw [hval] at HL7
      rw [hvalz] at HLZ
      clear hb6 hzu hfz hst7 hblk7 hb7 hval hvalz HRG HBK5 HFX5 HROW5 HFX7 HFZ7 r0 r1
      go_wp2_with (first | refine wpList_store _ rfl rfl 30 (.tmp 10) (.tmp 47) rfl (.pointer (some ⟨w6.heap.size, 0, none⟩)) z.val rfl rfl W7 HST.out ?_ | refine wpList_loadG _ (by rfl) 30 (.tmp 7) rfl (.pointer (some ⟨w2.heap.size, 0, none⟩)) x.val rfl HL7.out ?_ | refine wpList_loadG _ (by rfl) 30 (.tmp 10) rfl (.pointer (some ⟨w6.heap.size, 0, none⟩)) z.val rfl HLZ.out ?_)
      refine HSA.out.mono ?_
      rintro e w8 ⟨rfl, hb8⟩
      have HW8 := hide (rBelow HW7.out hb8)
      have HROW8 := hide (HROW7.out.keep hb8)
      have HRC := hide (rChain_any a n cap l w8 (HE.out.keep HW8.out (Nat.le_refl _)) (by omega) k)
      clear hb8 HSA HROW7 HST HL7 HLZ HBK7
      go_wp2_with fail
      refine HRC.out.mono ?_
      rintro e w9 ⟨⟨ta, tl, tc⟩, rfl, hch9, hb9⟩
      obtain ⟨r9, hrow9, hcr9⟩ := hch9
      have hre : r9 = r4 := hcr9.one HCR.out
      subst hre
      have HW9 := hide (rBelow HW8.out hb9)
      have HLS := hide (rows_alike (HROW8.out.keep hb9) hrow9 HSLB.out)
      clear hb9 hrow9 hcr9 HRC HROW8
      simp only [Sl.val]
      simp only at HLS
      go_wp2_with fail
      refine HLS.out.mono ?_
      rintro e w10 ⟨rfl, hb10⟩
      have HW10 := hide (rBelow HW9.out hb10)
      clear hb10 HLS
      go_wp2_with fail
      refine (HAW.out _).mono ?_
      rintro e w11 ⟨rfl, hb11⟩
      have HW11 := hide (rBelow HW10.out hb11)
      clear hb11
      go_wp2_with fail
      go_ret
      exact ⟨rfl, HW11.out⟩

end Go.Proofs.Ytpdkeghmpnanpaa
