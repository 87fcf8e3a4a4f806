/-
  Layer 8: a leaf's items in memory; Encode; the document's Page.
-/
import Derived.Test.YtgieigpbbkeonaaLgQ
namespace Go.Proofs.Ytgieigpbbkeonaa
open Go.RowKit

theorem itB_fits {n : Nat} (h : n ≤ 1000) : (itB n).fits := ⟨fits_i64 (n := 1) (by decide) (by decide), fits_i64 (n := ((n : Nat) : Int)) (by omega) (by omega), (by decide : (0 : Nat) < 18446744073709551616), Nat.zero_le _⟩
theorem itF_fits {n : Int} (h : 0 ≤ n) (h2 : n ≤ 2147483647) : (itF n).fits := ⟨fits_i64 (n := 3) (by decide) (by decide), fits_i64 (n := n) (by omega) (by omega), (by decide : (0 : Nat) < 18446744073709551616), Nat.zero_le _⟩
theorem itT_fits {b : List Nat} (h : b.length ≤ 1000) : (itT b).fits := ⟨fits_i64 (n := 5) (by decide) (by decide), fits_i64 (n := 0) (by decide) (by decide), (by decide : (0 : Nat) < 18446744073709551616), by show (bstr b).size ≤ maxLen; rw [bstr_size]; unfold maxLen; omega⟩
/-- Items being gathered, beside a leaf's box. -/
structure Ib (w wr : World) (u v : Sl) (x : Value) (m : List It) : Prop where
  o : OwnsI wr w.heap.size x m
  k : LfBlk wr w.heap.size u.val v.val
  e : Below w.heap.size w wr
theorem LfBlk.stayI {w w' : World} {p : Nat} {u v : Value} (h : LfBlk w p u v) (hs : StayI w w') : LfBlk w' p u v := (hs p _ _ _ h (by decide)).trans h
theorem Ib.step {w wr : World} {u v : Sl} {x : Value} {m : List It} (h : Ib w wr u v x m) (i : It) (hf : i.fits) (hl : m.length ≤ 1000) :
    ∃ (y : Value) (W : World), (∀ ty, (Builtin.append_ #[50, 50] ty #[x, .slice (some ⟨wr.heap.size, 0, none⟩) 1 1]).run Try.prog (wr.alloc (.cells #[.int .i64 i.kind, .int .i64 i.n, .float .f64 i.x, .string i.s] 59)) = .ok y W) ∧ Ib w W u v y (m ++ [i]) := by
  have hA := below_alloc wr (.cells #[.int .i64 i.kind, .int .i64 i.n, .float .f64 i.x, .string i.s] 59)
  obtain ⟨y, W, hrun, ho, hb, hs⟩ := run_append_items _ 0 w.heap.size x m (h.o.keep hA (Nat.le_refl _)) _ 1 1 [i] (is_one wr i hf) (fun e => by cases e) (by omega) (Nat.le_trans h.e.size hA.size)
  exact ⟨y, W, fun ty => hrun, ho, (h.k.below hA).stayI hs, (rBelow h.e hA).trans hb⟩
theorem Ib.start {w W : World} {u v : Sl} (k : LfBlk W w.heap.size u.val v.val) (e : Below w.heap.size w W) (i : It) : Ib w (W.alloc (.cells #[.int .i64 i.kind, .int .i64 i.n, .float .f64 i.x, .string i.s] 59)) u v (.slice (some ⟨W.heap.size, 0, none⟩) 1 1) [i] := by
  have hA := below_alloc W (.cells #[.int .i64 i.kind, .int .i64 i.n, .float .f64 i.x, .string i.s] 59)
  refine ⟨?_, k.below hA, rBelow e hA⟩
  have := World.ownsRow_lit (base := w.heap.size) (e := 59) (size := 4) W #[.int .i64 i.kind, .int .i64 i.n, .float .f64 i.x, .string i.s] 1 e.size (by unfold maxLen; omega) (by simp)
  simpa [OwnsI, itVals, It.cells] using this
theorem take_map_succ {t : List Int} {i : Nat} (h : i < t.length) : itB 76 :: (t.take i).map itF ++ [itF (t.getD i 0)] = itB 76 :: (t.take (i + 1)).map itF := by
  have e : t.getD i 0 = t[i] := by simp [List.getD, h]
  rw [List.take_succ_eq_append_getElem h, List.map_append, e]
  rfl
theorem take_rows_succ (t : List Int) {s : List (List Nat)} {i : Nat} (h : i < s.length) (n : Nat) : headL t n ++ (s.take i).map itT ++ [itT (sl s i)] = headL t n ++ (s.take (i + 1)).map itT := by
  rw [List.take_succ_eq_append_getElem h, sl_get h, List.map_append, List.append_assoc]
  rfl

set_option maxHeartbeats 8000000 in
set_option maxRecDepth 100000 in
theorem itemsOf_any {D : Nat → Prop} (w : World) (u v : Sl) (t : List Int) (l : List Sb) (hi : Gi D w u t) (hg : Gb D w v l) (hok : OkL t (bss l)) :
    Calls Try.prog 26 #[lfV u v] w fun e w' => ∃ x, e = .returned x ∧ OwnsI w' w.heap.size x (itemsL t (bss l)) ∧ Below w.heap.size w w' := by
  have hA := below_alloc w (.cells #[u.val, v.val] 25)
  have HIB0 := hide (Ib.start (lfBlk_new w u.val v.val) hA (itB 76))
  have HI := hide hi
  have HG := hide hg
  have HOK := hide hok
  have hul : u.len = 4 := by rw [← hi.len]; exact hok.may.itl.1
  have hbig : v.len ≤ 64 := by have h1 := hok.may.slots.1; have h2 := hg.len; rw [bss_length] at h1; omega
  have HL : Hid ((bss l).length = v.len) := by show _ = _; rw [bss_length]; exact hg.len
  have HTL : Hid (t.length = 4) := hok.may.itl.1
  clear hi hg hok hA
  obtain ⟨a, len, cap⟩ := v
  obtain ⟨ua, ul, uc⟩ := u
  replace hul : ul = 4 := hul
  subst hul
  unfold lfV Sl.val at *
  unfold itB noS at HIB0
  simp only at *
  go_enter Try.func26, Try.ntmps26
  go_wp2_with fail
  have HIB1 : Hid (Ib w _ ⟨ua, 4, uc⟩ ⟨a, len, cap⟩ _ (itB 76 :: (t.take 0).map itF)) := HIB0
  generalize (w.alloc (.cells #[.slice ua 4 uc, .slice a len cap] 25)).alloc (.cells #[.int .i64 1, .int .i64 ((76 : Nat) : Int), .float .f64 0, .string ⟨#[]⟩] 59) = W1 at *
  obtain ⟨x0, hx0⟩ : ∃ x0 : Value, x0 = .slice (some ⟨(w.alloc (.cells #[.slice ua 4 uc, .slice a len cap] 25)).heap.size, 0, none⟩) 1 1 := ⟨_, rfl⟩
  rw [← hx0] at HIB1
  have hx1 : x0 = .slice (some ⟨w.heap.size + 1, 0, none⟩) 1 1 := by rw [hx0, alloc_size]
  rw [← hx1]
  clear hx0 hx1 HIB0
  go_loopw [13, 3] (fun iv xv wr => ∃ i : Nat, i ≤ 4 ∧ iv = .int .i64 (i : Nat) ∧ Hid (Ib w wr ⟨ua, 4, uc⟩ ⟨a, len, cap⟩ xv (itB 76 :: (t.take i).map itF))) (fun iv _ _ => 4 - (intOf iv).toNat)
  case atStart => exact ⟨0, by omega, rfl, HIB1⟩
  case round =>
    rename Value => xx
    obtain ⟨i, hi4, rfl, hib⟩ := hrel
    rcases Nat.lt_or_ge i 4 with hlt | hge
    · have j1 : ((i : Nat) : Int) < 4 := by omega
      obtain ⟨ub, uo, hua, hcx⟩ := (HI.out.below hib.out.e (Nat.le_refl _)).cell i hlt
      replace hua : ua = some ⟨ub, uo, none⟩ := hua
      subst hua
      have hrg := HOK.out.may.itl.2.1 i hlt
      obtain ⟨n, hn⟩ : ∃ n, n = t.getD i 0 := ⟨_, rfl⟩
      simp only at hrg
      rw [← hn] at hcx hrg
      obtain ⟨y, W2, hap, hib2⟩ := hib.out.step (itF n) (itF_fits hrg.1 hrg.2) (by simp [HTL.out]; omega)
      rw [hn, take_map_succ (by rw [HTL.out]; exact hlt)] at hib2
      have c0 := hib.out.k.c0
      have c1 := hib.out.k.c1
      have HAP := hide hap
      have HIB2 := hide hib2
      clear hap hib2 hib hn hrg HIB1
      unfold itF noS Sl.val at *
      simp only at *
      go_wp2_with (at_builtin; refine wpList_append_run _ rfl 50 (.tmp 17) (.tmp 20) rfl _ (.slice (some ⟨wr.heap.size, 0, none⟩) 1 1) y rfl rfl W2 HAP.out ?_)
      go_roundw
      case rel => exact ⟨i + 1, by omega, by go_num, HIB2⟩
      case measure => simp only [intOf]; omega
    · have e0 : i = 4 := by omega
      subst e0
      obtain ⟨y, W2, hap, hib2⟩ := hib.out.step (itB len) (itB_fits (by omega)) (by simp [HTL.out])
      have hib3 : Ib w W2 ⟨ua, 4, uc⟩ ⟨a, len, cap⟩ y (headL t (bss l).length ++ ((bss l).take 0).map itT) := by
        have e : headL t (bss l).length ++ ((bss l).take 0).map itT = itB 76 :: (t.take 4).map itF ++ [itB len] := by
          rw [HL.out, List.take_of_length_le (l := t) (by rw [HTL.out]; exact Nat.le_refl _), List.take_zero, List.map_nil, List.append_nil]
          rfl
        rw [e]
        exact hib2
      have c0 := hib.out.k.c0
      have c1 := hib.out.k.c1
      have d0 := hib3.k.c0
      have d1 := hib3.k.c1
      have HAP := hide hap
      have HIB3 := hide hib3
      clear hap hib2 hib3 hib HIB1
      unfold itB noS Sl.val at *
      simp only at *
      go_wp2_with (at_builtin; refine wpList_append_run _ rfl 50 (.tmp 23) (.tmp 28) rfl _ (.slice (some ⟨wr.heap.size, 0, none⟩) 1 1) y rfl rfl W2 HAP.out ?_)
      clear HAP c0 c1
      go_loopw [33, 3] (fun iv xv wr => ∃ i : Nat, i ≤ len ∧ iv = .int .i64 (i : Nat) ∧ Hid (Ib w wr ⟨ua, 4, uc⟩ ⟨a, len, cap⟩ xv (headL t (bss l).length ++ ((bss l).take i).map itT))) (fun iv _ _ => len - (intOf iv).toNat)
      case atStart => exact ⟨0, Nat.zero_le _, rfl, HIB3⟩
      case round =>
        obtain ⟨i, hil, rfl, hib⟩ := hrel
        rcases Nat.lt_or_ge i len with hlt | hge
        · have j1 : ((i : Nat) : Int) < ((len : Nat) : Int) := by omega
          have hgw := HG.out.below hib.out.e (Nat.le_refl _)
          obtain ⟨bb, oo, ha, hcx⟩ := hgw.cell i hlt
          replace ha : a = some ⟨bb, oo, none⟩ := ha
          subst ha
          have hat := hgw.at hlt
          obtain ⟨⟨sa, sn, sc⟩, hs⟩ : ∃ s, s = (l.getD i Sb.zero).s := ⟨_, rfl⟩
          rw [← hs] at hcx hat
          obtain ⟨y2, W3, hap, hib2⟩ := hib.out.step (itT (sl (bss l) i)) (itT_fits hat.2.2) (by have := HL.out; simp [headL, HTL.out]; omega)
          rw [take_rows_succ t (by rw [HL.out]; exact hlt)] at hib2
          have hcv : (convert 28 9 (.slice sa sn sc)).run Try.prog wr = .ok (.string (bstr (sl (bss l) i))) wr := run_string_of sc hat.1.came.bs
          have c0 := hib.out.k.c0
          have c1 := hib.out.k.c1
          have HAP := hide hap
          have HIB2 := hide hib2
          clear hap hib2 hib hgw hat hs
          unfold itT Sl.val at *
          simp only at *
          go_wp2_with (first | refine wpList_conv _ rfl 28 9 (.tmp 38) rfl (.slice sa sn sc) (.string (bstr (sl (bss l) i))) rfl _ hcv ?_ | (at_builtin; refine wpList_append_run _ rfl 50 (.tmp 37) (.tmp 41) rfl _ (.slice (some ⟨wr.heap.size, 0, none⟩) 1 1) y2 rfl rfl W3 HAP.out ?_))
          go_roundw
          case rel => exact ⟨i + 1, by omega, by go_num, HIB2⟩
          case measure => simp only [intOf]; omega
        · have j1 : ¬ ((i : Nat) : Int) < ((len : Nat) : Int) := by omega
          have hib4 := hib.out
          rw [List.take_of_length_le (by rw [HL.out]; exact hge)] at hib4
          have HIB := hide hib4
          have c0 := hib4.k.c0
          have c1 := hib4.k.c1
          clear hib hib4 HIB3 d0 d1
          unfold Sl.val at *
          simp only at *
          go_wp2_with fail
          go_ret
          exact ⟨_, rfl, HIB.out.o, HIB.out.e⟩

theorem Gb.okl {D : Nat → Prop} {w : World} {v : Sl} {l : List Sb} (h : Gb D w v l) {t : List Int} (hm : MayL ⟨t, bss l⟩) : OkL t (bss l) := ⟨hm, fun b hb => by
  obtain ⟨x, hx, rfl⟩ := List.mem_map.1 hb
  exact (h.bs x hx).1.came.bs.2.1⟩
theorem items_len {t : List Int} {s : List (List Nat)} (h : OkL t s) : (itemsL t s).length ≤ 70 := by
  have h1 := h.may.itl.1
  have h2 := h.may.slots.1
  simp only at h1 h2
  simp [itemsL, headL]
  omega
theorem items_fits {t : List Int} {s : List (List Nat)} (h : OkL t s) : ∀ i ∈ itemsL t s, i.fits := by
  intro i hi
  have ht := h.may.itl
  simp only at ht
  rcases List.mem_append.1 hi with hi | hi
  · rcases List.mem_cons.1 hi with rfl | hi
    · exact itB_fits (by decide)
    · rcases List.mem_append.1 hi with hi | hi
      · obtain ⟨n, hn, rfl⟩ := List.mem_map.1 hi
        obtain ⟨j, hj, rfl⟩ := mem_at hn
        have := ht.2.1 j (by rw [ht.1] at hj; exact hj)
        exact itF_fits this.1 this.2
      · rw [List.mem_singleton.1 hi]
        exact itB_fits (by have := h.n; omega)
  · obtain ⟨b, hb, rfl⟩ := List.mem_map.1 hi
    have := h.slb b hb
    exact itT_fits (by omega)
theorem own_made (w : World) (n : Nat) (hn : n ≤ 10000000) (xs : List Nat) (hx : xs.length = n) : Own 5 1 (w.alloc (.cells (vals xs).toArray 5)) ⟨some ⟨w.heap.size, 0, none⟩, n, n⟩ (vals xs) := by
  refine ⟨by rw [vals_length]; show _ = n * 1; omega, .inr ⟨w.heap.size, 0, _, rfl, heap_alloc_new w _, by show 0 + n * 1 ≤ _; simp [vals_length]; omega, Nat.le_refl _, by show n ≤ _; unfold maxLen; omega, ?_⟩⟩
  show (List.drop 0 (vals xs).toArray.toList).take (n * 1) = _
  rw [List.drop_zero, List.take_of_length_le (by simp [vals_length]; omega)]
theorem splice_zero {zs : List Nat} {n : Nat} : splice (List.replicate n 0) 0 zs = zs ++ List.replicate (n - zs.length) 0 := by
  unfold splice
  rw [List.take_zero, List.nil_append, Nat.zero_add, List.drop_replicate]

set_option maxHeartbeats 8000000 in
set_option maxRecDepth 100000 in
theorem encode_no {D : Nat → Prop} (w : World) (u v : Sl) (t : List Int) (l : List Sb) (hi : Gi D w u t) (hg : Gb D w v l) (hm : ¬ MayL ⟨t, bss l⟩) :
    Calls Try.prog 10 #[lfV u v] w fun e w' => e = .returned (.tuple #[.slice none 0 0, .int .i64 1]) ∧ Below w.heap.size w w' := by
  have hA := below_alloc w (.cells #[u.val, v.val] 25)
  have HCK := hide (check_no _ u v t l (hi.below hA (Nat.le_refl _)) (hg.below hA (Nat.le_refl _)) hm)
  have HA := hide hA
  clear hi hg hm hA
  obtain ⟨a, len, cap⟩ := v
  obtain ⟨ua, ul, uc⟩ := u
  unfold lfV Sl.val at *
  simp only at *
  go_enter Try.func10, Try.ntmps10
  go_wp2_with fail
  refine HCK.out.mono ?_
  rintro e w1 ⟨rfl, hb⟩
  have HB := hide (rBelow HA.out hb)
  clear hb HCK
  go_wp2_with fail
  go_ret2
  exact ⟨rfl, HB.out⟩

set_option maxHeartbeats 8000000 in
set_option maxRecDepth 100000 in
theorem encode_yes {D : Nat → Prop} (w : World) (u v : Sl) (t : List Int) (l : List Sb) (hi : Gi D w u t) (hg : Gb D w v l) (hok : OkL t (bss l)) :
    Calls Try.prog 10 #[lfV u v] w fun e w' => ∃ x, e = .returned (.tuple #[x, .int .i64 0]) ∧ Owns w' w.heap.size x (pageL t (bss l)) ∧ Below w.heap.size w w' := by
  have hA := below_alloc w (.cells #[u.val, v.val] 25)
  have HK := hide (lfBlk_new w u.val v.val)
  have HCK := hide (check_yes _ u v t l (hi.below hA (Nat.le_refl _)) (hg.below hA (Nat.le_refl _)) hok.may)
  have HIT : Hid (∀ W, Below w.heap.size w W → Calls Try.prog 26 #[lfV u v] W fun e w' => ∃ x, e = .returned x ∧ OwnsI w' W.heap.size x (itemsL t (bss l)) ∧ Below W.heap.size W w') := fun W hW => itemsOf_any W u v t l (hi.below hW (Nat.le_refl _)) (hg.below hW (Nat.le_refl _)) hok
  have HOK := hide hok
  have HA := hide hA
  clear hi hg hok hA
  obtain ⟨a, len, cap⟩ := v
  obtain ⟨ua, ul, uc⟩ := u
  unfold lfV Sl.val at *
  simp only at *
  go_enter Try.func10, Try.ntmps10
  go_wp2_with fail
  refine HCK.out.mono ?_
  rintro e w1 ⟨rfl, hb⟩
  have HB1 := hide (rBelow HA.out hb)
  have hk := HK.out.below hb
  have c0 := hk.c0
  have c1 := hk.c1
  clear hb hk HK HCK HA
  go_wp2_with fail
  refine (HIT.out w1 HB1.out).mono ?_
  rintro e w2 ⟨x2, rfl, ho2, hb2⟩
  obtain ⟨ia, ic, hx2, his, _, _⟩ := ho2.is (items_fits HOK.out)
  subst hx2
  have HB2 := hide (rBelow HB1.out hb2)
  have HPT := hide (put_any ia _ ic (itemsL t (bss l)) w2 his (by have := items_len HOK.out; omega))
  rw [HOK.out.all] at HPT
  clear ho2 hb2 his HIT c0 c1
  obtain ⟨N, hN⟩ : ∃ N, N = (itemsL t (bss l)).length := ⟨_, rfl⟩
  rw [← hN] at HPT
  rw [← hN]
  clear hN
  go_wp2_with fail
  refine HPT.out.mono ?_
  rintro e w3 ⟨x3, rfl, hb3, ho3, _⟩
  have ho3 := ho3 trivial
  have hby : Bytes (putB (itemsL t (bss l))) := (putB_len (l := itemsL t (bss l)) (fun i hi => (HOK.out.items i hi).1)).2
  obtain ⟨pa, pc, hx3, hbs3, hnil⟩ := ho3.bs hby
  subst hx3
  have hpl : (putB (itemsL t (bss l))).length = need (bss l) := HOK.out.put_len
  have hn508 : need (bss l) ≤ 508 := HOK.out.may.need
  have HMK : Hid ((Instr.makeSlice 28 (.int .i64 508) (.int .i64 508)).run Try.prog w3 = .ok (.slice (some ⟨w3.heap.size, 0, none⟩) 508 508) (w3.alloc (.cells (vals (List.replicate 508 0)).toArray 5))) := make_bytes 508 (by decide) w3
  have hA3 := below_alloc w3 (.cells (vals (List.replicate 508 0)).toArray 5)
  have hown := own_made w3 508 (by decide) (List.replicate 508 0) (List.length_replicate ..)
  have hcap : ((putB (itemsL t (bss l))).length) ≤ pc := by
    rcases ho3.2 with ⟨hv, h0⟩ | ⟨g, cap, cur, hv, hbg, hg, hle, hr⟩
    · rw [hpl] at h0; unfold need at h0; omega
    · simp only [Value.slice.injEq] at hv
      omega
  have hcame : Came (w3.alloc (.cells (vals (List.replicate 508 0)).toArray 5)) pa (putB (itemsL t (bss l))).length pc (putB (itemsL t (bss l))) := ⟨hbs3.keep hA3 (Nat.le_refl _), hnil, hcap, by rw [hpl]; omega⟩
  obtain ⟨nn, W4, hcp, ho4, hf4, _⟩ := own_copy _ ⟨some ⟨w3.heap.size, 0, none⟩, 508, 508⟩ (List.replicate 508 0) hown 0 pa _ pc _ (putB (itemsL t (bss l))) hcame (by show _ = List.take 508 _; rw [List.take_of_length_le (by rw [hpl]; omega)]) (Nat.zero_le _) 0
  have hfr : Sl.from_ ⟨some ⟨w3.heap.size, 0, none⟩, 508, 508⟩ 0 = ⟨some ⟨w3.heap.size, 0, none⟩, 508, 508⟩ := by simp [Sl.from_, fromA, Addr.add]
  rw [hfr] at hcp
  have etx : splice (List.replicate 508 0) 0 (putB (itemsL t (bss l))) = text508 t (bss l) := by rw [splice_zero, hpl]; rfl
  rw [etx] at ho4
  have hB4 : Below w3.heap.size w3 W4 := hA3.trans (hf4.below hA3.size (fun k hk => by have e : some w3.heap.size = some k := hk; cases e; exact Nat.le_refl _))
  have hc4 := Own.came ho4 HOK.out.bytes
  have HSL := hide (seal_any (some ⟨w3.heap.size, 0, none⟩) 508 508 (text508 t (bss l)) W4 hc4.bs (fun e => by cases e) (by decide))
  have HB4 := hide (rBelow HB2.out (rBelow hb3 hB4))
  have HCP := hide hcp
  obtain ⟨P, hP⟩ : ∃ P, P = (putB (itemsL t (bss l))).length := ⟨_, rfl⟩
  rw [← hP] at HCP
  rw [← hP]
  clear hP hb3 ho3 hby hbs3 hnil hpl hn508 hA3 hown hcap hcame hcp ho4 hf4 hfr etx hB4 hc4 HPT
  obtain ⟨G, hG⟩ : ∃ G, G = w3.heap.size := ⟨_, rfl⟩
  rw [← hG] at HCP HSL HMK
  clear hG
  unfold Sl.val at *
  simp only at *
  go_wp2_with (first | refine wpList_make _ rfl 28 (.const (.int .i64 508)) (.const (.int .i64 508)) rfl (.int .i64 508) (.int .i64 508) _ rfl rfl _ HMK.out ?_ | (at_builtin; refine wpList_copy _ rfl 28 (.tmp 20) (.tmp 21) rfl nn W4 (fun _ => HCP.out) ?_) | refine wpList_copy _ rfl 28 (.tmp 20) (.tmp 21) rfl nn W4 (fun _ => HCP.out) ?_)
  refine HSL.out.mono ?_
  rintro e w5 ⟨x5, rfl, ho5, hb5⟩
  have HO5 := hide (ho5.lower HB4.out.size)
  have HB5 := hide (rBelow HB4.out hb5)
  clear ho5 hb5 HSL
  go_wp2_with fail
  go_ret2
  exact ⟨_, rfl, HO5.out, HB5.out⟩
end Go.Proofs.Ytgieigpbbkeonaa
