/-
  Layer 8, the landed leaf: new rows; slices.Grow and slices.Concat of numbers; headKinds.
-/
import Derived.Test.YtgieigpbbkeonaaLgR
namespace Go.Proofs.Ytgieigpbbkeonaa
open Go.RowKit

theorem mk_ints (w : World) (n : Nat) (hn : n ≤ 1000000) : ∃ (s : Sl) (W : World), (Instr.makeSlice 22 (.int .i64 ((n : Nat) : Int)) (.int .i64 ((n : Nat) : Int))).run Try.prog w = .ok s.val W ∧ OwnN W s (List.replicate n 0) ∧ s.len = n ∧ (∀ k, s.blk = some k → w.heap.size ≤ k) ∧ Below w.heap.size w W := by
  have h := ownN_made w (List.replicate n 0) (by rw [List.length_replicate]; exact hn)
  rw [List.length_replicate] at h
  exact ⟨⟨some ⟨w.heap.size, 0, none⟩, n, n⟩, _, make_ints n hn w, h, rfl, fun k hk => by have e : some w.heap.size = some k := hk; cases e; exact Nat.le_refl _, below_alloc w _⟩
theorem made_slots (n : Nat) : madeCells (Value.slice none 0 0).cells (n * 1) = (cellsB (List.replicate n Sb.zero)).toArray := by
  apply Array.ext
  · simp [size_madeCells, cellsB]
  · intro i h1 h2
    simp [madeCells, cellsB, Value.cells, Nat.mod_one, Sb.zero, Sl.val, Sl.nil]
theorem mk_slots (w : World) (n : Nat) (hn : n ≤ 1000) : ∃ (s : Sl) (W : World), (Instr.makeSlice 23 (.int .i64 ((n : Nat) : Int)) (.int .i64 ((n : Nat) : Int))).run Try.prog w = .ok s.val W ∧ OwnB W s (List.replicate n Sb.zero) ∧ s.len = n ∧ (∀ k, s.blk = some k → w.heap.size ≤ k) ∧ Below w.heap.size w W := by
  obtain ⟨i0, hi, hz0, hz1, hz2⟩ := info_parts infoBs1
  have h := run_makeSlice (P := Try.prog) w 23 28 i0 (.slice none 0 0) Try.underlying23 hi hz0 .i64 .i64 (n : Nat) (n : Nat) (by omega) (by omega) (by rw [hz1]; simp; omega) (by rw [hz2]; simp; omega) (by omega)
  rw [hz1, show ((n : Nat) : Int).toNat = n by omega, made_slots] at h
  refine ⟨⟨some ⟨w.heap.size, 0, none⟩, n, n⟩, _, h, ?_, rfl, fun k hk => by have e : some w.heap.size = some k := hk; cases e; exact Nat.le_refl _, below_alloc w _⟩
  refine ⟨by rw [cellsB_length, List.length_replicate]; show _ = n * 1; omega, .inr ⟨w.heap.size, 0, _, rfl, heap_alloc_new w _, by show 0 + n * 1 ≤ _; simp [cellsB_length], Nat.le_refl _, by show n ≤ _; unfold maxLen; omega, ?_⟩⟩
  show (List.drop 0 (cellsB (List.replicate n Sb.zero)).toArray.toList).take (n * 1) = _
  rw [List.drop_zero, List.take_of_length_le (by simp [cellsB_length])]
/-- []byte(s). -/
theorem bytes_of (w : World) (b : List Nat) (hb : Bytes b) (hl : b.length ≤ 1000) : ∃ (s : Sl) (W : World), (convert 9 28 (.string (bstr b))).run Try.prog w = .ok s.val W ∧ Came W s.a s.len s.cap b ∧ s.len = b.length ∧ s.a = some ⟨w.heap.size, 0, none⟩ ∧ Below w.heap.size w W := by
  have h := run_bytes_of_string (P := Try.prog) w 9 28 5 (bstr b) Try.underlying9 Try.underlying28 Try.underlying5
  have hsz := bstr_size b
  have hge := grownCap_ge w (bstr b).size 0 5
  refine ⟨⟨some ⟨w.heap.size, 0, none⟩, (bstr b).size, grownCap w (bstr b).size 0 5⟩, _, h, ⟨⟨hsz.symm, hb, fun i hi => ⟨w.heap.size, 0, rfl, ?_⟩⟩, fun e => (by cases e), hge, by show (bstr b).size ≤ _; omega⟩, hsz, rfl, (((Below.refl w.heap.size w).drew).alloc (Nat.le_refl _) _)⟩
  have hi' : i < b.length := by rw [← hsz]; exact hi
  rw [Nat.zero_add]
  show (w.drew.alloc _).cell? ⟨w.drew.heap.size, i, none⟩ = _
  rw [World.cell?_alloc_mark]
  have e1 : (bstr b).data.map (fun x => Value.int .u8 ((x.toNat : Nat) : Int)) = (vals b).toArray := by
    have := strB_bstr hb
    unfold strB at this
    apply Array.toList_inj.1
    rw [Array.toList_map]
    show _ = vals b
    conv => rhs; rw [← this]
    unfold vals
    rw [List.map_map]
    rfl
  unfold bytesRow
  rw [e1]
  have : i < (vals b).length := by rw [vals_length]; exact hi'
  rw [Array.getElem?_append_left (by simpa using this)]
  simpa using vals_get hi'
/-- What Repeat leaves, as a row of one's own. -/
theorem OwnsV.own {w : World} {base : Nat} {v : Value} {ks : List Int} (h : OwnsV 3 w base v (kVals ks)) : ∃ s : Sl, v = s.val ∧ OwnN w s ks ∧ ∀ k, s.blk = some k → base ≤ k := by
  have e : kVals ks = cellsN ks := rfl
  have hl : (kVals ks).length = ks.length := by simp [kVals]
  unfold OwnsV at h
  rw [hl] at h
  rcases h.2 with ⟨hv, h0⟩ | ⟨g, cap, cur, hv, hbg, hg, hle, hm, hsz, htk⟩
  · have : ks = [] := List.eq_nil_of_length_eq_zero h0
    subst this
    exact ⟨Sl.nil, hv, Own.nil _ _ _, fun k hk => by cases hk⟩
  · refine ⟨⟨some ⟨g, 0, none⟩, ks.length, cap⟩, hv, ⟨by rw [cellsN_length]; show _ = ks.length * 1; omega, .inr ⟨g, 0, cur, rfl, hg, ?_, hle, hm, ?_⟩⟩, fun k hk => by have e2 : some g = some k := hk; cases e2; exact hbg⟩
    · show 0 + cap * 1 ≤ _
      omega
    · show (cur.toList.drop 0).take (ks.length * 1) = _
      rw [List.drop_zero]
      exact htk
theorem Gi.ks {D : Nat → Prop} {w : World} {s : Sl} {ks : List Int} (h : Gi D w s ks) : Ks w s.a s.len ks := ⟨h.len, h.cell⟩

theorem run_roomN (w : World) (n : Nat) (h0 : 0 < n) (hn : n ≤ 1000) (ty : TypeId) :
    (Builtin.append_ #[22, 3] ty #[.slice none 0 0, .int .i64 ((n : Nat) : Int)]).run Try.prog w = .ok (.slice (some ⟨w.heap.size, 0, none⟩) n (grownCap w n 0 3)) (w.drew.alloc (.cells (Builtin.zeroCells #[.int .i64 0] n ++ Builtin.zeroCells #[.int .i64 0] (grownCap w n 0 3 - n)) 3)) := by
  obtain ⟨i, hi, hz, hz1, hz2⟩ := info_parts infoIn1
  have ht : Try.prog.underlying 22 = some (.slice 3) := Try.underlying22
  have hk : Try.prog.underlying 3 = some (.int .i64) := Try.underlying3
  have e : IntKind.i64.wrap ((n : Nat) : Int) = ((n : Nat) : Int) := by rw [IntKind.wrap_i64]; omega
  have h1 : ¬ (((n : Nat) : Int) < 0) := by omega
  have h2 : ¬ (281474976710656 < ((n : Nat) : Int) * 8) := by omega
  have h3 : ¬ n = 0 := by omega
  have h7 : max ((n : Nat) : Int) 0 = ((n : Nat) : Int) := by omega
  have h4 : ¬ (9223372036854775807 < ((n : Nat) : Int)) := by omega
  have h5 : ¬ (281474976710656 < Builtin.nextslicecap n 0 * 8) := by
    have := growslice_fits (need := n) (old := 0) (bytes := 8) h0 (by omega)
    omega
  simp [Builtin.append_, run_underlying ht, run_underlying hk, sizeOf, typeInfo, zeroValue, hi, hz, hz1, hz2, e, h1, h2, h3, h4, h5, h7, asInt, asIntOf, Question.forced, Builtin.firstCells, newRow, grownCap, Value.cells]
section
variable {ops : Array Oper} {rest : List Oper} {o : Oper} {a : Act} {Q : Exit → Act → World → Prop}
theorem wpList_roomN (w : World) (hgd : o.guard = none) (s x : Operand) (ho : o.op = .call { callee := .builtin .append, args := #[s, x], argTypes := #[22, 3] }) (n : Nat) (h0 : 0 < n) (hn : n ≤ 1000) (hs : a.eval s = .slice none 0 0) (hx : a.eval x = .int .i64 ((n : Nat) : Int))
    (hK : ∀ c w', n ≤ c → OwnN w' ⟨some ⟨w.heap.size, 0, none⟩, 0, c⟩ [] → Below w.heap.size w w' → wpList Try.prog ops Q rest (a.put o.dst (.slice (some ⟨w.heap.size, 0, none⟩) n c)) w') : wpList Try.prog ops Q (o :: rest) a w := by
  refine wpList_plain hgd fun K hK' => ?_
  have hrun := run_roomN w n h0 hn o.type
  have hge := grownCap_ge w n 0 3
  have hcm : grownCap w n 0 3 ≤ maxLen := grownCap_le_maxLen w n 0 3 (by unfold maxLen; omega)
  have hz : ∀ m, (Builtin.zeroCells #[.int .i64 0] m).size = m := fun m => by rw [size_zeroCells]; simp
  have h1 := hK (grownCap w n 0 3) _ hge ⟨rfl, .inr ⟨w.heap.size, 0, _, rfl, heap_alloc_new w.drew _, by
    show 0 + grownCap w n 0 3 * 1 ≤ _
    rw [Array.size_append, hz, hz]
    omega, Nat.zero_le _, hcm, rfl⟩⟩ (((Below.refl _ w).drew).alloc (Nat.le_refl _) (.cells (Builtin.zeroCells #[.int .i64 0] n ++ Builtin.zeroCells #[.int .i64 0] (grownCap w n 0 3 - n)) 3))
  unfold Oper.wp
  simp [execOp, ho, resolve, invoke, builtin, hs, hx, hrun, Result.andThen]
  exact hK' _ _ h1
end

set_option maxHeartbeats 4000000 in
theorem growN_any (w : World) (n : Nat) (h0 : 0 < n) (hn : n ≤ 1000) :
    Calls Try.prog 90 #[.slice none 0 0, .int .i64 ((n : Nat) : Int)] w fun e w' => ∃ c, e = .returned (.slice (some ⟨w.heap.size, 0, none⟩) 0 c) ∧ OwnN w' ⟨some ⟨w.heap.size, 0, none⟩, 0, c⟩ [] ∧ Below w.heap.size w w' := by
  have i1 : ¬ ((n : Nat) : Int) < 0 := by omega
  have i2 : (0 : Int) < ((n : Nat) : Int) := by omega
  go_enter Try.func90, Try.ntmps90
  go_wp2_with (at_builtin; refine wpList_roomN _ rfl (.tmp 20) (.tmp 21) rfl n h0 hn rfl rfl ?_)
  intro c w1 hc ho hb
  have HO := hide ho
  have HB := hide hb
  clear ho hb
  go_wp2_with fail
  go_ret
  exact ⟨c, rfl, HO.out, HB.out⟩

/-- Rows one behind the other. -/
def catN (f : Nat → List Int) : Nat → List Int
  | 0 => []
  | k + 1 => catN f k ++ f k
def totN (r : Nat → Sl) : Nat → Nat
  | 0 => 0
  | k + 1 => totN r k + (r k).len
structure CatI (w wr : World) (s : Sl) (l : List Int) : Prop where
  o : OwnN wr s l
  si : ∀ k, s.blk = some k → w.heap.size ≤ k
  e : Below w.heap.size w wr
theorem CatI.step {D : Nat → Prop} {w wr : World} {s : Sl} {l : List Int} (h : CatI w wr s l) {v : Sl} {m : List Int} (hv : Gi D wr v m) (hl : s.len + v.len ≤ 1000000) : ∃ (a1 : Option Addr) (n1 c1 : Nat) (W : World), (∀ ty, (Builtin.append_ #[22, 22] ty #[s.val, v.val]).run Try.prog wr = .ok (.slice a1 n1 c1) W) ∧ n1 = s.len + v.len ∧ CatI w W ⟨a1, n1, c1⟩ (l ++ m) := by
  obtain ⟨⟨a1, n1, c1⟩, W, hrun, ho, hlen, hf, hbk⟩ := own_append Try.underlying22 infoIn1 rfl (by decide) wr s (cellsN l) h.o (cellsN_one l) v.val v.len (cellsN m) hv.src hl 0
  refine ⟨a1, n1, c1, W, fun ty => hrun, hlen, ?_, fun k hk => ?_, h.e.trans (hf.below h.e.size h.si)⟩
  · have e : cellsN (l ++ m) = cellsN l ++ cellsN m := by simp [cellsN]
    unfold OwnN
    rw [e]
    exact ho
  · rcases hbk with e | ⟨e, _⟩
    · rw [e] at hk; exact h.si k hk
    · rw [e] at hk; cases hk; exact h.e.size

set_option maxHeartbeats 8000000 in
set_option maxRecDepth 100000 in
theorem concat3 {D : Nat → Prop} (w : World) (b : Nat) (r : Nat → Sl) (f : Nat → List Int) (hc : ∀ j, j < 3 → w.cell? ⟨b, j, none⟩ = some (r j).val) (hg : ∀ j, j < 3 → Gi D w (r j) (f j)) (hm : ∀ j, j < 3 → (r j).len ≤ 300) (hp : 0 < (r 0).len) :
    Calls Try.prog 75 #[.slice (some ⟨b, 0, none⟩) 3 3] w fun e w' => ∃ s : Sl, e = .returned s.val ∧ CatI w w' s (catN f 3) := by
  have ht : ∀ k, k ≤ 3 → totN r k ≤ 300 * k := by
    intro k hk
    induction k with
    | zero => exact Nat.le_refl _
    | succ k ih =>
      have h1 := ih (by omega)
      have h2 := hm k (by omega)
      show totN r k + (r k).len ≤ _
      omega
  have HTT := hide ht
  have h3 : 0 < totN r 3 ∧ totN r 3 ≤ 1000 := by
    have h1 := ht 3 (Nat.le_refl _)
    have h2 : totN r 3 = 0 + (r 0).len + (r 1).len + (r 2).len := rfl
    omega
  have HGR := hide (growN_any w (totN r 3) h3.1 h3.2)
  have HC := hide hc
  have HG := hide hg
  have HM := hide hm
  clear hc hg hm hp ht h3
  go_enter Try.func75, Try.ntmps75
  go_wp2_with fail
  go_loopw [3, 11] (fun sz kv wr => wr = w ∧ ∃ k : Nat, k ≤ 3 ∧ sz = .int .i64 ((totN r k : Nat) : Int) ∧ kv = .int .i64 ((k : Nat) : Int)) (fun _ kv _ => 3 - (intOf kv).toNat)
  case atStart => exact ⟨rfl, 0, by omega, rfl, rfl⟩
  case round =>
    obtain ⟨rfl, k, hk, rfl, rfl⟩ := hrel
    rcases Nat.lt_or_ge k 3 with hlt | hge
    · have i1 : ((k : Nat) : Int) < 3 := by omega
      have hck := HC.out k hlt
      have hmk := HM.out k hlt
      have htk := HTT.out k hk
      have HTS : Hid (totN r (k + 1) = totN r k + (r k).len) := rfl
      obtain ⟨q, hq⟩ : ∃ q, q = totN r k := ⟨_, rfl⟩
      obtain ⟨⟨ra, rl, rc⟩, hr⟩ : ∃ x, x = r k := ⟨_, rfl⟩
      rw [← hr] at hck hmk HTS
      rw [← hq] at htk HTS
      rw [← hq]
      clear hq hr
      unfold Sl.val at hck
      simp only at hck hmk HTS
      have i2 : ¬ ((q : Nat) : Int) + ((rl : Nat) : Int) < 0 := by omega
      go_wp2_with fail
      go_roundw
      case rel => exact ⟨trivial, k + 1, by omega, by rw [HTS.out]; go_num, by go_num⟩
      case measure => simp only [intOf]; omega
    · have e0 : k = 3 := by omega
      subst e0
      go_wp2_with fail
      refine HGR.out.mono ?_
      rintro e w3 ⟨c, rfl, ho3, hb3⟩
      have HS3 : Hid (CatI wr w3 ⟨some ⟨wr.heap.size, 0, none⟩, 0, c⟩ (catN f 0)) := ⟨ho3, fun k hk => by have e : some wr.heap.size = some k := hk; cases e; exact Nat.le_refl _, hb3⟩
      clear ho3 hb3 HGR
      obtain ⟨a0, ha0⟩ : ∃ a : Option Addr, a = some ⟨wr.heap.size, 0, none⟩ := ⟨_, rfl⟩
      rw [← ha0] at HS3
      rw [← ha0]
      clear ha0
      go_wp2_with fail
      rename World => wo
      go_loopw [6, 27] (fun gv kv wq => ∃ (k n : Nat) (a1 : Option Addr) (c1 : Nat), k ≤ 3 ∧ n ≤ 300 * k ∧ gv = .slice a1 n c1 ∧ kv = .int .i64 ((k : Nat) : Int) ∧ Hid (CatI wr wq ⟨a1, n, c1⟩ (catN f k))) (fun _ kv _ => 3 - (intOf kv).toNat)
      case atStart => exact ⟨0, 0, a0, c, by omega, by omega, rfl, rfl, HS3⟩
      case round =>
        rename World => wq
        obtain ⟨k, n, a1, c1, hk, hn, rfl, rfl, hcs⟩ := hrel
        rcases Nat.lt_or_ge k 3 with hlt | hge
        · have i1 : ((k : Nat) : Int) < 3 := by omega
          have hck := cell_below (HC.out k hlt) hcs.out.e
          have hmk := HM.out k hlt
          obtain ⟨a4, n4, c4, W4, hap, hn4, hc4⟩ := hcs.out.step ((HG.out k hlt).below hcs.out.e (Nat.le_refl _)) (by show n + (r k).len ≤ _; omega)
          obtain ⟨⟨ra, rl, rc⟩, hr⟩ : ∃ x, x = r k := ⟨_, rfl⟩
          rw [← hr] at hck hmk hap hn4
          have HAP := hide hap
          have HC4 : Hid (CatI wr W4 ⟨a4, n4, c4⟩ (catN f (k + 1))) := hc4
          clear hap hc4 hr hcs
          unfold Sl.val at *
          simp only at *
          have hn5 : n4 ≤ 300 * (k + 1) := by omega
          clear hn4
          go_wp2_with (at_builtin; refine wpList_append_run _ rfl 22 (.tmp 31) (.tmp 32) rfl (.slice a1 n c1) (.slice ra rl rc) (.slice a4 n4 c4) rfl rfl W4 HAP.out ?_)
          go_roundw
          case rel => exact ⟨k + 1, n4, a4, c4, by omega, hn5, rfl, by go_num, HC4⟩
          case measure => simp only [intOf]; omega
        · have e0 : k = 3 := by omega
          subst e0
          go_wp2_with fail
          go_ret
          exact ⟨⟨a1, n, c1⟩, rfl, hcs.out⟩

set_option maxHeartbeats 8000000 in
set_option maxRecDepth 100000 in
theorem headKinds_any (w : World) : Calls Try.prog 54 #[] w fun e w' => ∃ s : Sl, e = .returned s.val ∧ CatI w w' s headK := by
  have hA := below_alloc w (.cells #[.int .i64 3] 3)
  have hc3 : (w.alloc (.cells #[.int .i64 3] 3)).cell? ⟨w.heap.size, 0, none⟩ = some (.int .i64 3) := by
    have hn := heap_alloc_new w (.cells #[.int .i64 3] 3)
    simp only [World.cell?]
    rw [hn]
    rfl
  have HRP := hide (repeat_any w.heap.size 4 _ hc3 (by decide))
  have HA := hide hA
  clear hA hc3
  go_enter Try.func54, Try.ntmps54
  go_wp2_with fail
  refine HRP.out.mono ?_
  rintro e w2 ⟨v2, rfl, ho2, hb2⟩
  obtain ⟨⟨a2, n2, c2⟩, rfl, ho2, hk2⟩ := OwnsV.own ho2
  have HB2 := hide (rBelow HA.out hb2)
  have hA3 := below_alloc w2 (.cells #[.int .i64 1] 3)
  have hA4 := below_alloc (w2.alloc (.cells #[.int .i64 1] 3)) (.cells #[.int .i64 1] 3)
  have hA5 := below_alloc ((w2.alloc (.cells #[.int .i64 1] 3)).alloc (.cells #[.int .i64 1] 3)) (.cells #[.slice (some ⟨w2.heap.size, 0, none⟩) 1 1, .slice a2 n2 c2, .slice (some ⟨w2.heap.size + 1, 0, none⟩) 1 1] 22)
  have g1 : OwnN (w2.alloc (.cells #[.int .i64 1] 3)) ⟨some ⟨w2.heap.size, 0, none⟩, 1, 1⟩ [1] := ownN_made w2 [1] (by decide)
  have g3 : OwnN ((w2.alloc (.cells #[.int .i64 1] 3)).alloc (.cells #[.int .i64 1] 3)) ⟨some ⟨w2.heap.size + 1, 0, none⟩, 1, 1⟩ [1] := by
    have := ownN_made (w2.alloc (.cells #[.int .i64 1] 3)) [1] (by decide)
    rw [alloc_size] at this
    exact this
  have hn2 : n2 = 4 := by have := OwnN.len ho2; exact this.symm
  subst hn2
  have hB5 := rBelow hA3 (rBelow hA4 hA5)
  have hcells : ∀ j, j < 3 → (((w2.alloc (.cells #[.int .i64 1] 3)).alloc (.cells #[.int .i64 1] 3)).alloc (.cells #[.slice (some ⟨w2.heap.size, 0, none⟩) 1 1, .slice a2 4 c2, .slice (some ⟨w2.heap.size + 1, 0, none⟩) 1 1] 22)).cell? ⟨w2.heap.size + 2, j, none⟩ = some (Sl.val ((fun j => if j = 0 then ⟨some ⟨w2.heap.size, 0, none⟩, 1, 1⟩ else if j = 1 then ⟨a2, 4, c2⟩ else ⟨some ⟨w2.heap.size + 1, 0, none⟩, 1, 1⟩) j)) := by
    intro j hj
    have hn := heap_alloc_new ((w2.alloc (.cells #[.int .i64 1] 3)).alloc (.cells #[.int .i64 1] 3)) (.cells #[.slice (some ⟨w2.heap.size, 0, none⟩) 1 1, .slice a2 4 c2, .slice (some ⟨w2.heap.size + 1, 0, none⟩) 1 1] 22)
    rw [alloc_size, alloc_size] at hn
    simp only [World.cell?]
    rw [hn]
    have : j = 0 ∨ j = 1 ∨ j = 2 := by omega
    rcases this with rfl | rfl | rfl <;> rfl
  have HCC := hide (concat3 (D := fun _ => True) _ (w2.heap.size + 2) (fun j => if j = 0 then ⟨some ⟨w2.heap.size, 0, none⟩, 1, 1⟩ else if j = 1 then ⟨a2, 4, c2⟩ else ⟨some ⟨w2.heap.size + 1, 0, none⟩, 1, 1⟩) (fun j => if j = 0 then [1] else if j = 1 then List.replicate 4 3 else [1]) hcells (fun j hj => by
    have : j = 0 ∨ j = 1 ∨ j = 2 := by omega
    rcases this with rfl | rfl | rfl
    · exact OwnN.gi (Own.below (Own.below g1 hA4) hA5) (fun _ _ => trivial) (by show 1 ≤ 1000000; decide)
    · exact OwnN.gi (Own.below ho2 hB5) (fun _ _ => trivial) (by show 4 ≤ 1000000; decide)
    · exact OwnN.gi (Own.below g3 hA5) (fun _ _ => trivial) (by show 1 ≤ 1000000; decide)) (fun j hj => by
    have : j = 0 ∨ j = 1 ∨ j = 2 := by omega
    rcases this with rfl | rfl | rfl
    · show 1 ≤ 300; decide
    · show 4 ≤ 300; decide
    · show 1 ≤ 300; decide) (by show 0 < 1; decide))
  have HB5 := hide (rBelow HB2.out hB5)
  clear ho2 hk2 hb2 hA3 hA4 hA5 g1 g3 hB5 hcells HRP
  unfold Sl.val
  simp only
  go_wp2_with fail
  refine HCC.out.mono ?_
  rintro e w6 ⟨⟨a6, n6, c6⟩, rfl, hc6⟩
  have HF : Hid (CatI w w6 ⟨a6, n6, c6⟩ headK) := ⟨hc6.o, fun k hk => Nat.le_trans HB5.out.size (hc6.si k hk), rBelow HB5.out hc6.e⟩
  clear hc6 HCC
  unfold Sl.val
  simp only
  go_wp2_with fail
  go_ret
  exact ⟨⟨a6, n6, c6⟩, rfl, HF.out⟩
end Go.Proofs.Ytgieigpbbkeonaa
