/-
  Bytes that are built piece by piece; a page of cells, by the document.
-/
import Derived.Test.YtnhhapipadiffaaCeB
import Derived.Test.YtnhhapipadiffaaUrD
import Derived.Test.YtnhhapipadiffaaTalA
namespace Go.Proofs.Ytnhhapipadiffaa
open Go.RowKit

section
variable {ops : Array Oper} {rest : List Oper} {o : Oper} {a : Act} {Q : Exit → Act → World → Prop}
theorem wpList_append_run (w : World) (hgd : o.guard = none) (S : TypeId) (s y : Operand) (ho : o.op = .call { callee := .builtin .append, args := #[s, y], argTypes := #[S, S] }) (x1 x2 v : Value) (hs : a.eval s = x1) (hy : a.eval y = x2) (w' : World) (hrun : ∀ ty, (Builtin.append_ #[S, S] ty #[x1, x2]).run Try.prog w = .ok v w')
    (hK : wpList Try.prog ops Q rest (a.put o.dst v) w') : wpList Try.prog ops Q (o :: rest) a w := by
  refine wpList_plain hgd fun K hK' => ?_
  unfold Oper.wp
  simp [execOp, ho, resolve, invoke, builtin, hs, hy, hrun, Result.andThen]
  exact hK' _ _ hK
end

/-- Bytes of one's own, in blocks that are new since w0. -/
structure Bd (w0 w : World) (s : Sl) (xs : List Nat) : Prop where
  own : Own 5 1 w s (vals xs)
  new : ∀ k, s.blk = some k → w0.heap.size ≤ k
  below : Below w0.heap.size w0 w

theorem Bd.len {w0 w : World} {s : Sl} {xs : List Nat} (h : Bd w0 w s xs) : s.len = xs.length := by
  have := h.own.1
  rw [vals_length] at this
  omega

theorem Bd.keep {w0 w w' : World} {s : Sl} {xs : List Nat} (h : Bd w0 w s xs) (hb : Below w.heap.size w w') : Bd w0 w' s xs :=
  ⟨h.own.frame (fun k hk => hb.block k (h.own.lt hk)), h.new, rBelow h.below hb⟩

theorem Bd.came {w0 w : World} {s : Sl} {xs : List Nat} (h : Bd w0 w s xs) (hx : Bytes xs) : Came w s.a s.len s.cap xs := h.own.came hx

/-- Bytes that lie apart from a slice of one's own. -/
structure Apart (w : World) (s : Sl) (a : Option Addr) (n c : Nat) (ys : List Nat) : Prop where
  came : Came w a n c ys
  far : ∀ b off, a = some ⟨b, off, none⟩ → 0 < n → b < w.heap.size ∧ s.blk ≠ some b

theorem Bd.app {w0 w : World} {s : Sl} {xs : List Nat} (h : Bd w0 w s xs) {a : Option Addr} {n c : Nat} {ys : List Nat} (hy : Came w a n c ys) (hl : xs.length + n ≤ 1000000) :
    ∃ s' W, (∀ ty, (Builtin.append_ #[32, 32] ty #[s.val, .slice a n c]).run Try.prog w = .ok s'.val W) ∧ Bd w0 W s' (xs ++ ys) ∧ (∀ a' n' c' zs, Apart w s a' n' c' zs → Apart W s' a' n' c' zs) := by
  obtain ⟨s', W, hrun, ho, hlen, hf, hbk⟩ := own_append Try.underlying32 info5 rfl (by decide) w s (vals xs) h.own (vals_one xs) (.slice a n c) n (vals ys) hy.src (by rw [h.len]; exact hl) 0
  have hnew : ∀ k, s'.blk = some k → w0.heap.size ≤ k := by
    intro k hk
    rcases hbk with e | ⟨e, _⟩
    · exact h.new k (by rw [← e]; exact hk)
    · rw [e] at hk
      cases hk
      exact h.below.size
  refine ⟨s', W, fun ty => hrun, ⟨by rw [vals_append]; exact ho, hnew, h.below.trans (hf.below h.below.size (fun k hk => h.new k hk))⟩, ?_⟩
  intro a' n' c' zs hap
  have hsame : ∀ b off, a' = some ⟨b, off, none⟩ → 0 < n' → W.heap[b]? = w.heap[b]? := fun b off ha hn => hf.block b (hap.far b off ha hn).1 (hap.far b off ha hn).2
  refine ⟨⟨⟨hap.came.bs.1, hap.came.bs.2.1, fun i hi => ?_⟩, hap.came.nil, hap.came.le, hap.came.big⟩, fun b off ha hn => ⟨Nat.lt_of_lt_of_le (hap.far b off ha hn).1 hf.size, ?_⟩⟩
  · obtain ⟨b, off, ha, hc⟩ := hap.came.bs.2.2 i hi
    refine ⟨b, off, ha, ?_⟩
    have e := hsame b off ha (by omega)
    rw [← hc]
    simp only [World.cell?, e]
  · rcases hbk with e | ⟨e, _⟩
    · rw [e]; exact (hap.far b off ha hn).2
    · rw [e]
      intro e2
      have := (hap.far b off ha hn).1
      simp only [Option.some.injEq] at e2
      omega

/-- One byte more: the literal is laid first. -/
theorem Bd.one {w0 w : World} {s : Sl} {xs : List Nat} (h : Bd w0 w s xs) (x : Nat) (hx : x < 256) (hl : xs.length + 1 ≤ 1000000) :
    ∃ s' W, (∀ ty, (Builtin.append_ #[32, 32] ty #[s.val, .slice (some ⟨w.heap.size, 0, none⟩) 1 1]).run Try.prog (w.alloc (.cells #[.int .u8 ((x : Nat) : Int)] 5)) = .ok s'.val W) ∧ Bd w0 W s' (xs ++ [x]) ∧ (∀ a' n' c' zs, Apart w s a' n' c' zs → Apart W s' a' n' c' zs) := by
  have hA := below_alloc w (.cells #[.int .u8 ((x : Nat) : Int)] 5)
  have hb1 : Bytes [x] := fun y hy => by simp at hy; omega
  have hc : Came (w.alloc (.cells #[.int .u8 ((x : Nat) : Int)] 5)) (some ⟨w.heap.size, 0, none⟩) 1 1 [x] := ⟨bs_marked w [x] (0, 0) hb1, (fun e => by cases e), Nat.le_refl _, by decide⟩
  obtain ⟨s', W, hrun, hB, hap⟩ := (h.keep hA).app hc hl
  refine ⟨s', W, hrun, hB, fun a' n' c' zs k => hap a' n' c' zs ⟨k.came.keep hA (Nat.le_refl _), fun b off ha hn => ⟨Nat.lt_of_lt_of_le (k.far b off ha hn).1 hA.size, (k.far b off ha hn).2⟩⟩⟩

theorem Bd.lit (w0 w : World) (hb : Below w0.heap.size w0 w) (x : Nat) : Bd w0 (w.alloc (.cells #[.int .u8 ((x : Nat) : Int)] 5)) ⟨some ⟨w.heap.size, 0, none⟩, 1, 1⟩ [x] := by
  refine ⟨⟨rfl, .inr ⟨w.heap.size, 0, _, rfl, heap_alloc_new w _, by simp, Nat.le_refl _, (by show (1 : Nat) ≤ maxLen; unfold maxLen; decide), rfl⟩⟩, fun k hk => ?_, rBelow hb (below_alloc w _)⟩
  have e : some w.heap.size = some k := hk
  cases e
  exact hb.size

theorem Apart.none (w : World) (s : Sl) (a : Option Addr) (c : Nat) (ha : a = none → c = 0) : Apart w s a 0 c [] := ⟨⟨⟨rfl, (fun x hx => by cases hx), fun i hi => by omega⟩, ha, Nat.zero_le _, by decide⟩, fun b off _ h => by omega⟩

def slLn : Value → Nat
  | .slice _ n _ => n
  | _ => 0

/-- The text of the first k cells. -/
def headC (l : List Un) (k : Nat) : List Nat := 85 :: (l.take k).flatMap cellB

theorem headC_len {l : List Un} (h : MayC l = true) {k : Nat} (hk : k ≤ 6) : (headC l k).length = 1 + 72 * k := by
  obtain ⟨h1, h2⟩ := MayC.parts h
  unfold headC
  rw [List.length_cons, flat_len (fun u hu => h1 u (List.mem_of_mem_take hu)), List.length_take]
  omega

theorem headC_succ {l : List Un} (h : MayC l = true) {k : Nat} (hk : k < 6) : headC l (k + 1) = headC l k ++ cellB (l.getD k zeroU) := by
  obtain ⟨h1, h2⟩ := MayC.parts h
  have hk' : k < l.length := by omega
  have e : l.getD k zeroU = l[k] := by simp [List.getD, hk']
  unfold headC
  rw [List.take_succ_eq_append_getElem hk', List.flatMap_append, List.flatMap_cons, List.flatMap_nil, List.append_nil, e]
  rfl

theorem headC_end {l : List Un} (h : MayC l = true) : headC l 6 ++ List.replicate 75 0 = textC l := by
  obtain ⟨h1, h2⟩ := MayC.parts h
  unfold headC textC
  rw [List.take_of_length_le (by omega)]
  rfl

theorem headC_bytes {l : List Un} (h : MayC l = true) (k : Nat) : Bytes (headC l k) := by
  obtain ⟨h1, h2⟩ := MayC.parts h
  intro x hx
  simp only [headC, List.mem_cons, List.mem_flatMap] at hx
  rcases hx with rfl | ⟨u, hu, hx⟩
  · decide
  · exact cellB_bytes (h1 u (List.mem_of_mem_take hu)) x hx

set_option maxHeartbeats 8000000 in
set_option maxRecDepth 100000 in
theorem refPageC_any (a : Option Addr) (cap : Nat) (l : List Ux) (w : World) (h : Us w a 6 l) (hm : MayC (uns l) = true) :
    Calls Try.prog 11 #[.slice a 6 cap] w fun e w' => ∃ v, e = .returned v ∧ Owns w' w.heap.size v (fourB (Ta.sum (textC (uns l))) ++ textC (uns l)) ∧ Below w.heap.size w w' := by
  have H := hide h
  have HM := hide hm
  have HB0 := hide (Bd.lit w w (Below.refl _ _) 85)
  clear h hm
  go_enter Try.func11, Try.ntmps11
  go_wp2_with fail
  go_loopw [3, 4] (fun v iv wr => ∃ (i : Nat) (s : Sl), i ≤ 6 ∧ iv = .int .i64 (i : Nat) ∧ v = .slice s.a s.len s.cap ∧ Hid (Bd w wr s (headC (uns l) i))) (fun _ iv _ => 6 - (intOf iv).toNat)
  case atStart => exact ⟨0, _, Nat.zero_le _, rfl, rfl, HB0⟩
  case round =>
    obtain ⟨i, s, hi, rfl, rfl, hbd⟩ := hrel
    rcases Nat.lt_or_ge i 6 with hlt | hge
    · have j1 : ((i : Nat) : Int) < 6 := by omega
      have hA := below_alloc wr (.cells #[] 5)
      obtain ⟨W1, hW1⟩ : ∃ W1, W1 = wr.alloc (.cells #[] 5) := ⟨_, rfl⟩
      rw [← hW1] at hA
      have hB1 := hbd.out.keep hA
      have hr := H.out.keep hB1.below (Nat.le_refl _)
      obtain ⟨b, off, rfl, hat⟩ := hr.at' i hlt
      have hmem := hr.mem hlt
      obtain ⟨x, hxe⟩ : ∃ x, x = l.getD i Ux.zero := ⟨_, rfl⟩
      rw [← hxe] at hat hmem
      have hinC : x.u.inC = true := (MayC.parts HM.out).1 _ (List.mem_map.2 ⟨x, hmem, rfl⟩)
      have hux : x.u = (uns l).getD i zeroU := by rw [uns_get, ← hxe]
      have HUX := hide hux
      have HIN := hide hinC
      have HE := hide (refEmpty_any x.u x.a x.n x.c W1 (hr.cols _ hmem))
      have hval : x.u.val (.slice x.a x.n x.c) = x.val := rfl
      rw [hval] at HE
      have HLD := hide (load_unAt b (off + i * 12) x W1 hat)
      have HAT := hide hat
      have HCol := hide (hr.cols _ hmem)
      have HFit := hide (hr.fits _ hmem)
      have HB1 := hide hB1
      have HW1E := hide hW1
      have hsz1 : wr.heap.size < W1.heap.size := by rw [hW1]; simp
      have HSZ1 := hide hsz1
      rw [hW1] at HLD HE
      clear hA hB1 hr hat hmem hxe hinC hux hval hW1 hsz1 hbd
      cases hz : x.u.same zeroU
      · rw [hz] at HE
        go_wp2_with (refine wpList_load _ rfl 30 (.tmp 14) rfl (.pointer (some ⟨b, off + i * 12, none⟩)) x.val rfl HLD.out ?_)
        refine HE.out.mono ?_
        rw [← HW1E.out]
        rintro e w2 ⟨rfl, hb2⟩
        have hB2 := HB1.out.keep hb2
        have hm2 := Un.inC_may HIN.out hz
        have HY := hide (refBytesU_any x.u x.a x.n x.c w2 (HCol.out.keep hb2 (Nat.le_refl _)) HFit.out hm2)
        have hval : x.u.val (.slice x.a x.n x.c) = x.val := rfl
        rw [hval] at HY
        have HLD2 := hide (load_unAt b (off + i * 12) x w2 (HAT.out.keep hb2 (Nat.le_refl _)))
        have HCX := hide (Un.cellX_some hz)
        have HB2 := hide hB2
        have HM2 := hide hm2
        clear hb2 hB2 hm2 hz hval HE HLD
        go_wp2_with (refine wpList_load _ rfl 30 (.tmp 20) rfl (.pointer (some ⟨b, off + i * 12, none⟩)) x.val rfl HLD2.out ?_)
        refine HY.out.mono ?_
        rintro e w3 ⟨v3, rfl, ho3, hb3⟩
        have hbb := Un.bytes_bytes HM2.out
        obtain ⟨g3, c3, hv3, hg3, hlt3, hle3⟩ := ho3.pos (by rw [Un.bytes_len]; omega)
        subst hv3
        obtain ⟨a3, c3', hv3, hcm3⟩ := ho3.cameN hbb rfl (by have := Un.bytes_66 HM2.out; omega)
        simp only [Value.slice.injEq] at hv3
        obtain ⟨rfl, _, rfl⟩ := hv3
        have hap : Apart w3 s (some ⟨g3, 0, none⟩) x.u.bytes.length c3 x.u.bytes := ⟨hcm3, fun b' off' ha _ => by
          simp only [Option.some.injEq, Addr.mk.injEq, and_true] at ha
          obtain ⟨rfl, rfl⟩ := ha
          exact ⟨hlt3, fun e => by have := HB2.out.own.lt e; omega⟩⟩
        rw [← HCX.out] at hap ⊢
        have HB3 := hide (HB2.out.keep hb3)
        have HAP3 := hide hap
        clear ho3 hb3 hbb hg3 hlt3 hle3 hcm3 hap HY HLD2
        generalize (some ⟨g3, 0, none⟩ : Option Addr) = xa at *
        generalize c3 = xc at *
        obtain ⟨n, hn⟩ : ∃ n, n = x.u.cellX.length := ⟨_, rfl⟩
        have hn66 : n ≤ 66 := by rw [hn]; exact cellX_len HIN.out
        rw [← hn] at HAP3 ⊢
        have HNX := hide hn
        have hhl := headC_len HM.out (Nat.le_of_lt hlt)
        obtain ⟨s4, w4, hr4, hb4, hk4⟩ := HB3.out.one n (by omega) (by rw [hhl]; omega)
        have hap4 := hk4 _ _ _ _ HAP3.out
        obtain ⟨s5, w5, hr5, hb5, _⟩ := hb4.app hap4.came (by rw [List.length_append, hhl]; simp; omega)
        have hb5' : Bd w w5 s5 (headC (uns l) i ++ (n :: x.u.cellX)) := by
          rw [List.append_assoc] at hb5
          exact hb5
        have hl5 : s5.len = 2 + 72 * i + n := by
          rw [hb5'.len, List.length_append, hhl, List.length_cons, ← HNX.out]
          omega
        have hcvt : (convert 3 5 (.int .i64 ((n : Nat) : Int))).run Try.prog w3 = .ok (.int .u8 ((n : Nat) : Int)) w3 := conv_u8 n (by omega) w3
        have HR4 := hide hr4
        have HR5 := hide hr5
        have HB5 := hide hb5'
        have HL5 := hide hl5
        obtain ⟨sa, sn, sc⟩ := s
        obtain ⟨sa4, sn4, sc4⟩ := s4
        obtain ⟨sa5, sn5, sc5⟩ := s5
        unfold Sl.val at HR4 HR5
        simp only at HR4 HR5 HL5
        clear hr4 hb4 hk4 hap4 hr5 hb5 hb5' hl5 hn hhl HAP3 HB3
        go_wp2_with (at_builtin; first | refine wpList_append_run _ rfl 32 (.tmp 23) (.tmp 27) rfl (.slice sa sn sc) (.slice (some ⟨w3.heap.size, 0, none⟩) 1 1) (.slice sa4 sn4 sc4) rfl rfl w4 HR4.out ?_ | refine wpList_append_run _ rfl 32 (.tmp 29) (.tmp 30) rfl (.slice sa4 sn4 sc4) (.slice xa n xc) (.slice sa5 sn5 sc5) rfl rfl w5 HR5.out ?_)
        rename World => wo
        go_loopw [3] (fun v wr => ∃ (k : Nat) (s : Sl), n + k ≤ 71 ∧ v = .slice s.a s.len s.cap ∧ Hid (s.len = 2 + 72 * i + n + k) ∧ Hid (Bd w wr s (headC (uns l) i ++ (n :: x.u.cellX) ++ List.replicate k 0))) (fun v _ => 600 - slLn v)
        case atStart => exact ⟨0, ⟨sa5, sn5, sc5⟩, by omega, rfl, HL5, by rw [List.replicate_zero, List.append_nil]; exact HB5⟩
        case round =>
          obtain ⟨k, s2, hk, rfl, hsl, hbd⟩ := hrel
          obtain ⟨sa2, sn2, sc2⟩ := s2
          have hsl' : sn2 = 2 + 72 * i + n + k := hsl.out
          have hlen2 : (headC (uns l) i ++ (n :: x.u.cellX) ++ List.replicate k 0).length = 2 + 72 * i + n + k := by rw [← hbd.out.len]; exact hsl.out
          simp only at *
          rcases Nat.lt_or_ge (n + k) 71 with hlt2 | hge2
          · have j2 : ((sn2 : Nat) : Int) < 1 + 72 * (((i : Nat) : Int) + 1) := by omega
            obtain ⟨s', W, hrun, hB, _⟩ := hbd.out.one 0 (by decide) (by rw [hlen2]; omega)
            rw [List.append_assoc, ← List.replicate_succ'] at hB
            have hln : s'.len = 2 + 72 * i + n + (k + 1) := by
              rw [hB.len, List.length_append, List.length_replicate]
              rw [List.length_append, List.length_replicate] at hlen2
              omega
            obtain ⟨sa', sn', sc'⟩ := s'
            simp only at hln
            have HR := hide hrun
            have HB := hide hB
            have HLN := hide hln
            have HSL := hide hsl'
            have hbig : sn2 ≤ 600 := by omega
            clear hrun hB hbd hsl hln hlen2 hsl'
            unfold Sl.val at HR
            simp only at HR
            go_wp2_with (at_builtin; refine wpList_append_run _ rfl 32 (.tmp 39) (.tmp 40) rfl (.slice sa2 sn2 sc2) (.slice (some ⟨wr.heap.size, 0, none⟩) 1 1) (.slice sa' sn' sc') rfl rfl W HR.out ?_)
            go_roundw
            case rel => exact ⟨k + 1, ⟨sa', sn', sc'⟩, by omega, rfl, HLN, HB⟩
            case measure =>
              have h1 := HLN.out
              have h2 := HSL.out
              simp only [slLn]
              omega
          · have ek : k = 71 - n := by omega
            have j2 : ¬ ((sn2 : Nat) : Int) < 1 + 72 * (((i : Nat) : Int) + 1) := by omega
            have HE9 : Hid (headC (uns l) i ++ (n :: x.u.cellX) ++ List.replicate k 0 = headC (uns l) (i + 1)) := by
              show _ = _
              rw [headC_succ HM.out hlt, ← HUX.out, List.append_assoc]
              unfold cellB
              rw [← HNX.out, ek]
              rfl
            have HBD := hide hbd.out
            rw [HE9.out] at HBD
            clear hbd hsl hlen2 ek
            go_wp2_with fail
            go_roundw
            case rel => exact ⟨i + 1, ⟨sa2, sn2, sc2⟩, by omega, by go_num, rfl, HBD⟩
            case measure => simp only [intOf]; omega
      · rw [hz] at HE
        go_wp2_with (refine wpList_load _ rfl 30 (.tmp 14) rfl (.pointer (some ⟨b, off + i * 12, none⟩)) x.val rfl HLD.out ?_)
        refine HE.out.mono ?_
        rw [← HW1E.out]
        rintro e w3 ⟨rfl, hb3⟩
        have HB3 := hide (HB1.out.keep hb3)
        have HCX := hide (Un.cellX_zero hz)
        have HAP3 : Hid (Apart w3 s (some ⟨wr.heap.size, 0, none⟩) x.u.cellX.length 0 x.u.cellX) := by
          show Apart _ _ _ _ _ _
          rw [HCX.out]
          exact Apart.none _ _ _ _ (fun e => by cases e)
        obtain ⟨xa, hxa⟩ : ∃ xa : Option Addr, xa = some ⟨wr.heap.size, 0, none⟩ := ⟨_, rfl⟩
        rw [← hxa] at HAP3 ⊢
        clear hb3 hz HE HLD hxa
        obtain ⟨n, hn⟩ : ∃ n, n = x.u.cellX.length := ⟨_, rfl⟩
        have hn66 : n ≤ 66 := by rw [hn]; exact cellX_len HIN.out
        have hn0 : n = 0 := by rw [hn, HCX.out]; rfl
        rw [← hn] at HAP3
        rw [show Value.slice xa 0 0 = .slice xa n 0 by rw [hn0]]
        clear hn0
        have HNX := hide hn
        have hhl := headC_len HM.out (Nat.le_of_lt hlt)
        obtain ⟨s4, w4, hr4, hb4, hk4⟩ := HB3.out.one n (by omega) (by rw [hhl]; omega)
        have hap4 := hk4 _ _ _ _ HAP3.out
        obtain ⟨s5, w5, hr5, hb5, _⟩ := hb4.app hap4.came (by rw [List.length_append, hhl]; simp; omega)
        have hb5' : Bd w w5 s5 (headC (uns l) i ++ (n :: x.u.cellX)) := by
          rw [List.append_assoc] at hb5
          exact hb5
        have hl5 : s5.len = 2 + 72 * i + n := by
          rw [hb5'.len, List.length_append, hhl, List.length_cons, ← HNX.out]
          omega
        have hcvt : (convert 3 5 (.int .i64 ((n : Nat) : Int))).run Try.prog w3 = .ok (.int .u8 ((n : Nat) : Int)) w3 := conv_u8 n (by omega) w3
        have HR4 := hide hr4
        have HR5 := hide hr5
        have HB5 := hide hb5'
        have HL5 := hide hl5
        obtain ⟨sa, sn, sc⟩ := s
        obtain ⟨sa4, sn4, sc4⟩ := s4
        obtain ⟨sa5, sn5, sc5⟩ := s5
        unfold Sl.val at HR4 HR5
        simp only at HR4 HR5 HL5
        clear hr4 hb4 hk4 hap4 hr5 hb5 hb5' hl5 hn hhl HAP3 HB3
        go_wp2_with (at_builtin; first | refine wpList_append_run _ rfl 32 (.tmp 23) (.tmp 27) rfl (.slice sa sn sc) (.slice (some ⟨w3.heap.size, 0, none⟩) 1 1) (.slice sa4 sn4 sc4) rfl rfl w4 HR4.out ?_ | refine wpList_append_run _ rfl 32 (.tmp 29) (.tmp 30) rfl (.slice sa4 sn4 sc4) (.slice xa n 0) (.slice sa5 sn5 sc5) rfl rfl w5 HR5.out ?_)
        rename World => wo
        go_loopw [3] (fun v wr => ∃ (k : Nat) (s : Sl), n + k ≤ 71 ∧ v = .slice s.a s.len s.cap ∧ Hid (s.len = 2 + 72 * i + n + k) ∧ Hid (Bd w wr s (headC (uns l) i ++ (n :: x.u.cellX) ++ List.replicate k 0))) (fun v _ => 600 - slLn v)
        case atStart => exact ⟨0, ⟨sa5, sn5, sc5⟩, by omega, rfl, HL5, by rw [List.replicate_zero, List.append_nil]; exact HB5⟩
        case round =>
          obtain ⟨k, s2, hk, rfl, hsl, hbd⟩ := hrel
          obtain ⟨sa2, sn2, sc2⟩ := s2
          have hsl' : sn2 = 2 + 72 * i + n + k := hsl.out
          have hlen2 : (headC (uns l) i ++ (n :: x.u.cellX) ++ List.replicate k 0).length = 2 + 72 * i + n + k := by rw [← hbd.out.len]; exact hsl.out
          simp only at *
          rcases Nat.lt_or_ge (n + k) 71 with hlt2 | hge2
          · have j2 : ((sn2 : Nat) : Int) < 1 + 72 * (((i : Nat) : Int) + 1) := by omega
            obtain ⟨s', W, hrun, hB, _⟩ := hbd.out.one 0 (by decide) (by rw [hlen2]; omega)
            rw [List.append_assoc, ← List.replicate_succ'] at hB
            have hln : s'.len = 2 + 72 * i + n + (k + 1) := by
              rw [hB.len, List.length_append, List.length_replicate]
              rw [List.length_append, List.length_replicate] at hlen2
              omega
            obtain ⟨sa', sn', sc'⟩ := s'
            simp only at hln
            have HR := hide hrun
            have HB := hide hB
            have HLN := hide hln
            have HSL := hide hsl'
            have hbig : sn2 ≤ 600 := by omega
            clear hrun hB hbd hsl hln hlen2 hsl'
            unfold Sl.val at HR
            simp only at HR
            go_wp2_with (at_builtin; refine wpList_append_run _ rfl 32 (.tmp 39) (.tmp 40) rfl (.slice sa2 sn2 sc2) (.slice (some ⟨wr.heap.size, 0, none⟩) 1 1) (.slice sa' sn' sc') rfl rfl W HR.out ?_)
            go_roundw
            case rel => exact ⟨k + 1, ⟨sa', sn', sc'⟩, by omega, rfl, HLN, HB⟩
            case measure =>
              have h1 := HLN.out
              have h2 := HSL.out
              simp only [slLn]
              omega
          · have ek : k = 71 - n := by omega
            have j2 : ¬ ((sn2 : Nat) : Int) < 1 + 72 * (((i : Nat) : Int) + 1) := by omega
            have HE9 : Hid (headC (uns l) i ++ (n :: x.u.cellX) ++ List.replicate k 0 = headC (uns l) (i + 1)) := by
              show _ = _
              rw [headC_succ HM.out hlt, ← HUX.out, List.append_assoc]
              unfold cellB
              rw [← HNX.out, ek]
              rfl
            have HBD := hide hbd.out
            rw [HE9.out] at HBD
            clear hbd hsl hlen2 ek
            go_wp2_with fail
            go_roundw
            case rel => exact ⟨i + 1, ⟨sa2, sn2, sc2⟩, by omega, by go_num, rfl, HBD⟩
            case measure => simp only [intOf]; omega
    · have e6 : i = 6 := by omega
      have hb6 := hbd.out
      rw [e6] at hb6
      have HB6 := hide hb6
      have HL6 := hide (hb6.len.trans (headC_len HM.out (Nat.le_refl _)))
      have j1 : ¬ ((i : Nat) : Int) < 6 := by omega
      clear hb6 hbd e6
      go_wp2_with fail
      rename World => wo
      go_loopw [3] (fun v wr => ∃ (k : Nat) (s : Sl), k ≤ 75 ∧ v = .slice s.a s.len s.cap ∧ Hid (s.len = 433 + k) ∧ Hid (Bd w wr s (headC (uns l) 6 ++ List.replicate k 0))) (fun v _ => 508 - slLn v)
      case atStart => exact ⟨0, s, Nat.zero_le _, rfl, HL6, by rw [List.replicate_zero, List.append_nil]; exact HB6⟩
      case round =>
        obtain ⟨k, s2, hk, rfl, hsl, hbd⟩ := hrel
        obtain ⟨sa, sn, sc⟩ := s2
        have hsl' : sn = 433 + k := hsl.out
        subst hsl'
        simp only at *
        rcases Nat.lt_or_ge k 75 with hlt | hge
        · have j2 : ((433 + k : Nat) : Int) < 508 := by omega
          obtain ⟨s', W, hrun, hB, _⟩ := hbd.out.one 0 (by decide) (by rw [List.length_append, headC_len HM.out (Nat.le_refl _), List.length_replicate]; omega)
          rw [List.append_assoc, ← List.replicate_succ'] at hB
          have hln : s'.len = 433 + (k + 1) := by rw [hB.len, List.length_append, headC_len HM.out (Nat.le_refl _), List.length_replicate] <;> omega
          obtain ⟨sa', sn', sc'⟩ := s'
          simp only at hln
          subst hln
          have HR := hide hrun
          have HB := hide hB
          clear hrun hB hbd hsl
          unfold Sl.val at HR
          simp only at HR
          go_wp2_with (at_builtin; refine wpList_append_run _ rfl 32 (.tmp 45) (.tmp 46) rfl (.slice sa (433 + k) sc) (.slice (some ⟨wr.heap.size, 0, none⟩) 1 1) (.slice sa' (433 + (k + 1)) sc') rfl rfl W HR.out ?_)
          go_roundw
          case rel => exact ⟨k + 1, ⟨sa', 433 + (k + 1), sc'⟩, by omega, rfl, rfl, HB⟩
          case measure => simp only [slLn]; omega
        · have ek : k = 75 := by omega
          have hb7 := hbd.out
          rw [ek, headC_end HM.out] at hb7
          have j2 : ¬ ((433 + k : Nat) : Int) < 508 := by omega
          have hcm := hb7.came (textC_bytes HM.out)
          have HS := hide (rseal_any sa 508 sc (textC (uns l)) wr hcm.bs hcm.nil (by decide))
          have HB7 := hide hb7.below
          have ek2 : 433 + k = 508 := by omega
          rw [ek2]
          clear hb7 hcm hbd hsl ek ek2 hge hk j2
          have j2 : ¬ (508 : Int) < 508 := by omega
          go_wp2_with fail
          refine HS.out.mono ?_
          rintro e w8 ⟨v8, rfl, ho8, hb8⟩
          have HO8 := hide (ho8.lower HB7.out.size)
          have HB8 := hide (rBelow HB7.out hb8)
          clear ho8 hb8
          go_wp2_with fail
          go_ret
          exact ⟨_, rfl, HO8.out, HB8.out⟩

end Go.Proofs.Ytnhhapipadiffaa
