/-
  Layer 8: the document's Page.
-/
import Derived.Test.YtgieigpbbkeonaaLgR
namespace Go.Proofs.Ytgieigpbbkeonaa
open Go.RowKit

set_option maxHeartbeats 16000000 in
set_option maxRecDepth 100000 in
theorem rpage_any {D : Nat → Prop} (w : World) (u v : Sl) (t : List Int) (l : List Sb) (hi : Gi D w u t) (hg : Gb D w v l) (hok : OkL t (bss l)) :
    Calls Try.prog 16 #[lfV u v] w fun e w' => ∃ x, e = .returned x ∧ Owns w' w.heap.size x (pageL t (bss l)) ∧ Below w.heap.size w w' := by
  have hA := below_alloc w (.cells #[u.val, v.val] 25)
  have HIB0 := hide (Ib.start (lfBlk_new w u.val v.val) hA (itB 76))
  have HI := hide hi
  have HG := hide hg
  have HOK := hide hok
  have hul : u.len = 4 := by rw [← hi.len]; exact hok.may.itl.1
  have hbig : v.len ≤ 64 := by have h1 := hok.may.slots.1; have h2 := hg.len; rw [bss_length] at h1; omega
  have HL : Hid ((bss l).length = v.len) := by show _ = _; rw [bss_length]; exact hg.len
  have HTL : Hid (t.length = 4) := hok.may.itl.1
  clear hi hg hok hA
  obtain ⟨a, len, cap⟩ := v
  obtain ⟨ua, ul, uc⟩ := u
  replace hul : ul = 4 := hul
  subst hul
  unfold lfV Sl.val at *
  unfold itB noS at HIB0
  simp only at *
  go_enter Try.func16, Try.ntmps16
  go_wp2_with fail
  have HIB1 : Hid (Ib w _ ⟨ua, 4, uc⟩ ⟨a, len, cap⟩ _ (itB 76 :: (t.take 0).map itF)) := HIB0
  generalize (w.alloc (.cells #[.slice ua 4 uc, .slice a len cap] 25)).alloc (.cells #[.int .i64 1, .int .i64 ((76 : Nat) : Int), .float .f64 0, .string ⟨#[]⟩] 59) = W1 at *
  obtain ⟨x0, hx0⟩ : ∃ x0 : Value, x0 = .slice (some ⟨(w.alloc (.cells #[.slice ua 4 uc, .slice a len cap] 25)).heap.size, 0, none⟩) 1 1 := ⟨_, rfl⟩
  rw [← hx0] at HIB1
  have hx1 : x0 = .slice (some ⟨w.heap.size + 1, 0, none⟩) 1 1 := by rw [hx0, alloc_size]
  rw [← hx1]
  clear hx0 hx1 HIB0
  go_loopw [4, 3] (fun iv xv wr => ∃ i : Nat, i ≤ 4 ∧ iv = .int .i64 (i : Nat) ∧ Hid (Ib w wr ⟨ua, 4, uc⟩ ⟨a, len, cap⟩ xv (itB 76 :: (t.take i).map itF))) (fun iv _ _ => 4 - (intOf iv).toNat)
  case atStart => exact ⟨0, by omega, rfl, HIB1⟩
  case round =>
    rename Value => xx
    obtain ⟨i, hi4, rfl, hib⟩ := hrel
    rcases Nat.lt_or_ge i 4 with hlt | hge
    · have j1 : ((i : Nat) : Int) < 4 := by omega
      obtain ⟨ub, uo, hua, hcx⟩ := (HI.out.below hib.out.e (Nat.le_refl _)).cell i hlt
      replace hua : ua = some ⟨ub, uo, none⟩ := hua
      subst hua
      have hrg := HOK.out.may.itl.2.1 i hlt
      obtain ⟨n, hn⟩ : ∃ n, n = t.getD i 0 := ⟨_, rfl⟩
      simp only at hrg
      rw [← hn] at hcx hrg
      obtain ⟨y, W2, hap, hib2⟩ := hib.out.step (itF n) (itF_fits hrg.1 hrg.2) (by simp [HTL.out]; omega)
      rw [hn, take_map_succ (by rw [HTL.out]; exact hlt)] at hib2
      have c0 := hib.out.k.c0
      have c1 := hib.out.k.c1
      have HAP := hide hap
      have HIB2 := hide hib2
      clear hap hib2 hib hn hrg HIB1
      unfold itF noS Sl.val at *
      simp only at *
      go_wp2_with (at_builtin; refine wpList_append_run _ rfl 50 (.tmp 14) (.tmp 21) rfl _ (.slice (some ⟨wr.heap.size, 0, none⟩) 1 1) y rfl rfl W2 HAP.out ?_)
      go_roundw
      case rel => exact ⟨i + 1, by omega, by go_num, HIB2⟩
      case measure => simp only [intOf]; omega
    · have e0 : i = 4 := by omega
      subst e0
      obtain ⟨y, W2, hap, hib2⟩ := hib.out.step (itB len) (itB_fits (by omega)) (by simp [HTL.out])
      have hib3 : Ib w W2 ⟨ua, 4, uc⟩ ⟨a, len, cap⟩ y (headL t (bss l).length ++ ((bss l).take 0).map itT) := by
        have e : headL t (bss l).length ++ ((bss l).take 0).map itT = itB 76 :: (t.take 4).map itF ++ [itB len] := by
          rw [HL.out, List.take_of_length_le (l := t) (by rw [HTL.out]; exact Nat.le_refl _), List.take_zero, List.map_nil, List.append_nil]
          rfl
        rw [e]
        exact hib2
      have c0 := hib.out.k.c0
      have c1 := hib.out.k.c1
      have d0 := hib3.k.c0
      have d1 := hib3.k.c1
      have HAP := hide hap
      have HIB3 := hide hib3
      clear hap hib2 hib3 hib HIB1
      unfold itB noS Sl.val at *
      simp only at *
      go_wp2_with (at_builtin; refine wpList_append_run _ rfl 50 (.tmp 23) (.tmp 28) rfl _ (.slice (some ⟨wr.heap.size, 0, none⟩) 1 1) y rfl rfl W2 HAP.out ?_)
      clear HAP c0 c1
      go_loopw [5, 3] (fun iv xv wr => ∃ i : Nat, i ≤ len ∧ iv = .int .i64 (i : Nat) ∧ Hid (Ib w wr ⟨ua, 4, uc⟩ ⟨a, len, cap⟩ xv (headL t (bss l).length ++ ((bss l).take i).map itT))) (fun iv _ _ => len - (intOf iv).toNat)
      case atStart => exact ⟨0, Nat.zero_le _, rfl, HIB3⟩
      case round =>
        obtain ⟨i, hil, rfl, hib⟩ := hrel
        rcases Nat.lt_or_ge i len with hlt | hge
        · have j1 : ((i : Nat) : Int) < ((len : Nat) : Int) := by omega
          have hgw := HG.out.below hib.out.e (Nat.le_refl _)
          obtain ⟨bb, oo, ha, hcx⟩ := hgw.cell i hlt
          replace ha : a = some ⟨bb, oo, none⟩ := ha
          subst ha
          have hat := hgw.at hlt
          obtain ⟨⟨sa, sn, sc⟩, hs⟩ : ∃ s, s = (l.getD i Sb.zero).s := ⟨_, rfl⟩
          rw [← hs] at hcx hat
          obtain ⟨y2, W3, hap, hib2⟩ := hib.out.step (itT (sl (bss l) i)) (itT_fits hat.2.2) (by have := HL.out; simp [headL, HTL.out]; omega)
          rw [take_rows_succ t (by rw [HL.out]; exact hlt)] at hib2
          have hcv : (convert 28 9 (.slice sa sn sc)).run Try.prog wr = .ok (.string (bstr (sl (bss l) i))) wr := run_string_of sc hat.1.came.bs
          have c0 := hib.out.k.c0
          have c1 := hib.out.k.c1
          have HAP := hide hap
          have HIB2 := hide hib2
          clear hap hib2 hib hgw hat hs
          unfold itT Sl.val at *
          simp only at *
          go_wp2_with (first | refine wpList_conv _ rfl 28 9 (.tmp 42) rfl (.slice sa sn sc) (.string (bstr (sl (bss l) i))) rfl _ hcv ?_ | (at_builtin; refine wpList_append_run _ rfl 50 (.tmp 37) (.tmp 45) rfl _ (.slice (some ⟨wr.heap.size, 0, none⟩) 1 1) y2 rfl rfl W3 HAP.out ?_))
          go_roundw
          case rel => exact ⟨i + 1, by omega, by go_num, HIB2⟩
          case measure => simp only [intOf]; omega
        · have j1 : ¬ ((i : Nat) : Int) < ((len : Nat) : Int) := by omega
          have hib4 := hib.out
          rw [List.take_of_length_le (by rw [HL.out]; exact hge)] at hib4
          have HIB := hide hib4
          have c0 := hib4.k.c0
          have c1 := hib4.k.c1
          clear hib hib4 HIB3 d0 d1
          unfold Sl.val at *
          simp only at *
          have hio : OwnsI wr w.heap.size _ (itemsL t (bss l)) := HIB.out.o
          obtain ⟨ia, ic, hx, his, _, _⟩ := hio.is (items_fits HOK.out)
          subst hx
          have HB1 := hide HIB.out.e
          have HPT := hide (refPut_any ia _ ic (itemsL t (bss l)) wr his (by have := items_len HOK.out; omega))
          rw [HOK.out.all] at HPT
          clear his HIB hio
          obtain ⟨N, hN⟩ : ∃ N, N = (itemsL t (bss l)).length := ⟨_, rfl⟩
          rw [← hN] at HPT
          rw [← hN]
          clear hN
          go_wp2_with fail
          refine HPT.out.mono ?_
          rintro e w3 ⟨x3, rfl, hb3, ho3, _⟩
          have ho3 := ho3 trivial
          have hpl : (putB (itemsL t (bss l))).length = need (bss l) := HOK.out.put_len
          have hn508 : need (bss l) ≤ 508 := HOK.out.may.need
          have hn18 : 18 ≤ need (bss l) := Nat.le_add_right _ _
          obtain ⟨g3, k3, hx3, hg3, hk3⟩ := ho3.pos (by rw [hpl]; omega)
          subst hx3
          rw [hpl] at ho3 ⊢
          have HPL := hide hpl
          have HO3 : Hid (Owns w3 w.heap.size (.slice (some ⟨g3, 0, none⟩) (need (bss l)) k3) (putB (itemsL t (bss l)) ++ List.replicate 0 0)) := by
            show Owns _ _ _ _
            rw [List.replicate_zero, List.append_nil]
            exact ho3.lower HB1.out.size
          have HB3 := hide (rBelow HB1.out hb3)
          clear hb3 ho3 hpl hg3 hk3 HPT c0 c1
          obtain ⟨n0, hn0⟩ : ∃ n, n = need (bss l) := ⟨_, rfl⟩
          rw [← hn0] at HO3 HPL hn508 hn18
          rw [← hn0]
          have HN0 := hide hn0
          clear hn0
          go_wp2_with fail
          rename World => wq
          go_loopw [6] (fun xv wr => ∃ (k g c : Nat), n0 + k ≤ 508 ∧ xv = .slice (some ⟨g, 0, none⟩) (n0 + k) c ∧ Hid (Owns wr w.heap.size (.slice (some ⟨g, 0, none⟩) (n0 + k) c) (putB (itemsL t (bss l)) ++ List.replicate k 0)) ∧ Hid (Below w.heap.size w wr)) (fun xv _ => 508 - slLen xv)
          case atStart => exact ⟨0, g3, k3, by omega, rfl, HO3, HB3⟩
          case round =>
            obtain ⟨k, g, c, hk, rfl, ho, hbr⟩ := hrel
            rcases Nat.lt_or_ge (n0 + k) 508 with hlt | hge
            · have j1 : (((n0 + k : Nat)) : Int) < 508 := by omega
              have hA := below_alloc wr (.cells (vals [0]).toArray 5)
              have h0 : Bytes [0] := fun y hy => by simp at hy; omega
              obtain ⟨v4, W4, hap, ho4, hb4⟩ := run_append_bytes _ 0 w.heap.size _ _ (ho.out.keep hA (Nat.le_refl _)) (some ⟨wr.heap.size, 0, none⟩) 1 1 [0] (bs_marked wr [0] (0, 0) h0) (fun e => by cases e) (by rw [List.length_append, HPL.out, List.length_replicate]; omega) (Nat.le_trans hbr.out.size hA.size)
              rw [List.append_assoc, ← List.replicate_succ'] at ho4
              obtain ⟨g4, c4, hv4, _, _⟩ := ho4.pos (by rw [List.length_append, HPL.out]; omega)
              subst hv4
              rw [List.length_append, HPL.out, List.length_replicate] at ho4 hap
              have HAP : Hid (∀ ty, (Builtin.append_ #[28, 28] ty #[.slice (some ⟨g, 0, none⟩) (n0 + k) c, .slice (some ⟨wr.heap.size, 0, none⟩) 1 1]).run Try.prog (wr.alloc (.cells #[.int .u8 0] 5)) = .ok (.slice (some ⟨g4, 0, none⟩) (n0 + (k + 1)) c4) W4) := fun ty => hap
              have HO4 := hide ho4
              have HB4 := hide ((rBelow hbr.out hA).trans hb4)
              clear hap ho4 hb4 hA h0 ho hbr
              go_wp2_with (at_builtin; refine wpList_append_run _ rfl 28 (.tmp 55) (.tmp 56) rfl (.slice (some ⟨g, 0, none⟩) (n0 + k) c) (.slice (some ⟨wr.heap.size, 0, none⟩) 1 1) (.slice (some ⟨g4, 0, none⟩) (n0 + (k + 1)) c4) rfl rfl W4 HAP.out ?_)
              go_roundw
              case rel => exact ⟨k + 1, g4, c4, by omega, rfl, HO4, HB4⟩
              case measure => simp only [slLen]; omega
            · have e0 : n0 + k = 508 := by omega
              have ho5 := ho.out
              have etx : putB (itemsL t (bss l)) ++ List.replicate k 0 = text508 t (bss l) := by
                have : k = 508 - need (bss l) := by rw [← HN0.out]; omega
                rw [this]
                rfl
              rw [e0, etx] at ho5
              rw [e0]
              have hrow := ho5.row HOK.out.bytes
              have hbs5 := hrow.2
              rw [HOK.out.len] at hbs5
              have HSL := hide (rseal_any (some ⟨g, 0, none⟩) 508 c (text508 t (bss l)) wr hbs5 (fun e => by cases e) (by decide))
              have HB5 := hide hbr.out
              clear ho ho5 hrow hbs5 etx hbr e0 hk hge
              go_wp2_with fail
              refine HSL.out.mono ?_
              rintro e w6 ⟨x6, rfl, ho6, hb6⟩
              have HO6 := hide (ho6.lower HB5.out.size)
              have HB6 := hide (rBelow HB5.out hb6)
              clear ho6 hb6 HSL
              go_wp2_with fail
              go_ret
              exact ⟨_, rfl, HO6.out, HB6.out⟩
end Go.Proofs.Ytgieigpbbkeonaa
