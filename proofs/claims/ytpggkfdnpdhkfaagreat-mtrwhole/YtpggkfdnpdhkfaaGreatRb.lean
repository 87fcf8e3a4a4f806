/-
  Layer 6: the law's pages, copies of bytes, images that are copied.
  Drawn regions of layer 6: what they read; the regions of the document's May and Same.
  Layer 6: which images are a group, by the program and by the document; which groups are alike.
-/
import Derived.Test.YtpggkfdnpdhkfaaGreatRa
import Derived.Laws.MakeOwn
namespace Go.Proofs.YtpggkfdnpdhkfaaGreat
open Go.RowKit
set_option maxRecDepth 100000

theorem made_bytes6 (n : Nat) : madeCells (Value.int .u8 0).cells (n * 1) = (vals (List.replicate n 0)).toArray := by
  apply Array.ext
  · simp [size_madeCells, vals]
  · intro i h1 h2
    simp [madeCells, vals, Value.cells, Nat.mod_one]
theorem make_bytes6 (n : Nat) (hn : n ≤ 10000000) (w : World) : (Instr.makeSlice 32 (.int .i64 (n : Nat)) (.int .i64 (n : Nat))).run Tryz.prog w = .ok (.slice (some ⟨w.heap.size, 0, none⟩) n n) (w.alloc (.cells (vals (List.replicate n 0)).toArray 5)) := by
  obtain ⟨i0, hi, hz0, hz1, hz2⟩ := info_parts info5
  have h := run_makeSlice (P := Tryz.prog) w 32 5 i0 (.int .u8 0) Tryz.underlying32 hi hz0 .i64 .i64 (n : Nat) (n : Nat) (by omega) (by omega) (by rw [hz1]; simp; omega) (by rw [hz2]; simp; omega) (by omega)
  rw [hz1, show ((n : Nat) : Int).toNat = n by omega, made_bytes6] at h
  exact h
theorem wpList_make6 {ops : Array Oper} {rest : List Oper} {o : Oper} {a : Act} {Q : Exit → Act → World → Prop} (w : World) (hgd : o.guard = none) (t : TypeId) (x y : Operand) (ho : o.op = .makeSlice t x y) (u u' v : Value) (hu : a.eval x = u) (hu' : a.eval y = u') (w' : World) (hrun : (Instr.makeSlice t u u').run Tryz.prog w = .ok v w') (hK : wpList Tryz.prog ops Q rest (a.put o.dst v) w') : wpList Tryz.prog ops Q (o :: rest) a w := by
  refine wpList_val w hgd v w' ?_ hK
  have e : execOp a.eval o = (do pure (.value (← Instr.makeSlice t (a.eval x) (a.eval y)))) := by
    unfold execOp
    rw [ho]
  rw [e, hu, hu']
  simp [hrun]

/-- A page that begins with bytes, again and again. -/
def pageOf6 (b : List Nat) : List Nat := (List.range 512).map fun i => if b.length = 0 then 0 else b.getD (i % b.length) 0
theorem pageOf_length6 (b : List Nat) : (pageOf6 b).length = 512 := by simp [pageOf6]
theorem pageOf_get6 (b : List Nat) (i : Nat) (hi : i < 512) : (pageOf6 b)[i]? = some (if b.length = 0 then 0 else b.getD (i % b.length) 0) := by
  unfold pageOf6
  rw [List.getElem?_map, List.getElem?_range hi]
  rfl
theorem pageOf_bytes6 (b : List Nat) (h : Bytes b) : Bytes (pageOf6 b) := by
  intro x hx
  obtain ⟨i, _, rfl⟩ := List.mem_map.1 hx
  split
  · omega
  · exact getD_lt h _
/-- The first so many of them, the rest noughts. -/
def pagePart6 (b : List Nat) (j : Nat) : List Nat := (pageOf6 b).take j ++ List.replicate (512 - j) 0
theorem pagePart_set6 (b : List Nat) (j : Nat) (hj : j < 512) (h0 : b.length ≠ 0) : (pagePart6 b j).set j (b.getD (j % b.length) 0) = pagePart6 b (j + 1) := by
  unfold pagePart6
  have hl : ((pageOf6 b).take j).length = j := by rw [List.length_take, pageOf_length6]; omega
  have hg := pageOf_get6 b j hj
  rw [if_neg h0] at hg
  have hlt : j < (pageOf6 b).length := by rw [pageOf_length6]; exact hj
  have e1 : (pageOf6 b)[j] = b.getD (j % b.length) 0 := by rw [List.getElem?_eq_getElem hlt] at hg; exact Option.some.inj hg
  rw [List.set_append_right _ _ (by omega), hl, Nat.sub_self, show 512 - j = (512 - (j + 1)) + 1 by omega, List.replicate_succ, List.set_cons_zero, List.take_succ_eq_append_getElem hlt, e1, List.append_assoc]
  rfl

set_option maxHeartbeats 4000000 in
set_option maxRecDepth 100000 in
theorem page_any6 (w : World) (a : Option Addr) (len cap : Nat) (b : List Nat) (hb : Came w a len cap b) : Calls Tryz.prog 40 #[.slice a len cap] w fun e w' => Below w.heap.size w w' ∧ e = .returned (.slice (some ⟨w.heap.size, 0, none⟩) 512 512) ∧ Came w' (some ⟨w.heap.size, 0, none⟩) 512 512 (pageOf6 b) := by
  have HM := hide (make_bytes6 512 (by omega) w)
  obtain ⟨C, hC⟩ : ∃ C, C = (.cells (vals (List.replicate 512 0)).toArray 5 : Obj) := ⟨_, rfl⟩
  rw [← hC] at HM
  have HB := hide (below_alloc w C)
  have HO : Hid (Owns (w.alloc C) w.heap.size (.slice (some ⟨w.heap.size, 0, none⟩) 512 512) (pagePart6 b 0)) := by
    rw [hC]
    have := Owns.lit w w.heap.size (List.replicate 512 0) (Nat.le_refl _) (by rw [List.length_replicate]; omega)
    rw [List.length_replicate] at this
    exact this
  have HCM := hide hb
  have hbl := hb.bs.1
  have HBL := hide hbl
  have HPB := hide (pageOf_bytes6 b hb.bs.2.1)
  have HBIG := hide hb.big
  clear hC hb
  go_enter Tryz.func40, Tryz.ntmps40
  go_wp2_with (refine wpList_make6 _ rfl 32 (.const (.int .i64 512)) (.const (.int .i64 512)) rfl (.int .i64 512) (.int .i64 512) (.slice (some ⟨w.heap.size, 0, none⟩) 512 512) rfl rfl (w.alloc C) HM.out ?_)
  go_loopw [4] (fun i wr => ∃ j : Nat, j ≤ 512 ∧ i = .int .i64 j ∧ Hid (Owns wr w.heap.size (.slice (some ⟨w.heap.size, 0, none⟩) 512 512) (pagePart6 b j)) ∧ Hid (Below w.heap.size w wr)) (fun i _ => 512 - (intOf i).toNat)
  case atStart => exact ⟨0, by omega, rfl, HO, HB⟩
  case round =>
    obtain ⟨j, hj, rfl, hO, hB⟩ := hrel
    by_cases hgo : j < 512 ∧ 0 < len
    · obtain ⟨hlt, hl0⟩ := hgo
      have i1 : ((j : Nat) : Int) < 512 := by omega
      have i2 : (0 : Int) < ((len : Nat) : Int) := by omega
      have hlen : (pagePart6 b j).length = 512 := by unfold pagePart6; rw [List.length_append, List.length_take, pageOf_length6, List.length_replicate]; omega
      have hset := hO.out.set (by rw [hlen]) j (b.getD (j % len) 0)
      have hps := pagePart_set6 b j hlt (by omega)
      rw [hbl] at hps
      rw [hps] at hset
      have HSET := hide hset
      have hbyt : Bytes (pagePart6 b j) := by
        intro x hx
        rcases List.mem_append.1 hx with h1 | h1
        · exact HPB.out x (List.mem_of_mem_take h1)
        · rw [(List.mem_replicate.1 h1).2]; omega
      have HBS := hide (hB.out.setCell (p := ⟨w.heap.size, j, none⟩) (Nat.le_refl _) (.int .u8 ((b.getD (j % len) 0 : Nat) : Int)))
      have hbs := (hO.out.row hbyt).2
      have hc0 := hbs.at j (by omega)
      rw [Nat.zero_add] at hc0
      have hfz : wr.frozen? ⟨w.heap.size, j, none⟩ = false := by
        rcases hO.out.2 with ⟨h', _⟩ | ⟨g', cap', cur, h', hbg, hg, hle, hmx, hcs, htk⟩
        · simp at h'
        · simp only [Value.slice.injEq, Option.some.injEq, Addr.mk.injEq, and_true] at h'
          rw [h'.1]
          exact frozen_of_row wr g' _ _ 5 hg
      have hmod : j % len < len := Nat.mod_lt _ hl0
      obtain ⟨bb, oo, ha, hcb⟩ := (HCM.out.bs.keep hB.out (Nat.le_refl _)).2.2 (j % len) hmod
      have hbg2 := HBIG.out
      have i3 : ((j % len : Nat) : Int) < ((len : Nat) : Int) := by omega
      have i4 : ¬ len = 0 := by omega
      subst ha
      obtain ⟨vv, hvv⟩ : ∃ vv, vv = b.getD (j % len) 0 := ⟨_, rfl⟩
      rw [← hvv] at hcb HBS HSET
      clear hset hbs hlen hps hbyt hvv
      go_wp2_with fail
      go_roundw
      case rel => exact ⟨j + 1, by omega, by go_num, HSET, HBS⟩
      case measure => simp only [intOf]; omega
    · have HFIN : Hid (pagePart6 b j = pageOf6 b) := by
        show _ = _
        unfold pagePart6
        by_cases h5 : j = 512
        · rw [h5, List.take_of_length_le (by rw [pageOf_length6]; exact Nat.le_refl _)]; simp
        · have hl0 : len = 0 := by omega
          apply List.ext_getElem?
          intro t
          have hb0 : b.length = 0 := by omega
          by_cases ht : t < 512
          · rw [pageOf_get6 b t ht, if_pos hb0]
            by_cases htj : t < j
            · rw [List.getElem?_append_left (by rw [List.length_take, pageOf_length6]; omega), List.getElem?_take, if_pos htj, pageOf_get6 b t ht, if_pos hb0]
            · rw [List.getElem?_append_right (by rw [List.length_take, pageOf_length6]; omega), List.getElem?_replicate, if_pos (by rw [List.length_take, pageOf_length6]; omega)]
          · rw [List.getElem?_eq_none (by rw [List.length_append, List.length_take, pageOf_length6, List.length_replicate]; omega), List.getElem?_eq_none (by rw [pageOf_length6]; omega)]
      have HEND : Hid (Came wr (some ⟨w.heap.size, 0, none⟩) 512 512 (pageOf6 b)) := by
        have e1 := hO.out
        rw [HFIN.out] at e1
        have h3 := (e1.row HPB.out).2
        rw [pageOf_length6] at h3
        exact ⟨h3, (fun e => by cases e), Nat.le_refl _, by omega⟩
      by_cases h5 : j < 512
      · have hl0 : len = 0 := by omega
        subst hl0
        have i1 : ((j : Nat) : Int) < 512 := by omega
        go_wp2_with fail
        go_ret
        exact ⟨hB.out, rfl, HEND.out⟩
      · obtain rfl : j = 512 := by omega
        go_wp2_with fail
        go_ret
        exact ⟨hB.out, rfl, HEND.out⟩

theorem Owns.own6 {w : World} {base : Nat} {v : Value} {xs : List Nat} (h : Owns w base v xs) : ∃ s : Sl, v = s.val ∧ Own 5 1 w s (vals xs) ∧ s.len = xs.length ∧ ∀ k, s.blk = some k → base ≤ k := by
  rcases h.2 with ⟨hv, h0⟩ | ⟨g, cap, cur, hv, hbg, hg, hle, hm, hcs, htk⟩
  · refine ⟨Sl.nil, hv, ?_, h0.symm, fun k hk => by cases hk⟩
    have : xs = [] := List.eq_nil_of_length_eq_zero h0
    subst this
    exact Own.nil _ _ _
  · refine ⟨⟨some ⟨g, 0, none⟩, xs.length, cap⟩, hv, ⟨by rw [vals_length]; show _ = xs.length * 1; omega, .inr ⟨g, 0, cur, rfl, hg, by show 0 + cap * 1 ≤ _; rw [hcs]; omega, hle, hm, by rw [List.drop_zero]; exact htk⟩⟩, rfl, fun k hk => by cases hk; exact hbg⟩

set_option maxHeartbeats 1000000 in
theorem clone_any6 (w : World) (a : Option Addr) (len cap : Nat) (xs : List Nat) (h : Came w a len cap xs) (hm : len ≤ 1000000) : Calls Tryz.prog 72 #[.slice a len cap] w fun e w' => Below w.heap.size w w' ∧ ∃ s : Sl, e = .returned s.val ∧ Own 5 1 w' s (vals xs) ∧ s.len = xs.length ∧ ∀ k, s.blk = some k → w.heap.size ≤ k := by
  cases a with
  | none =>
    have hc := h.nil rfl
    have h0 : len = 0 := by have := h.le; omega
    subst hc; subst h0
    have hx : xs = [] := List.eq_nil_of_length_eq_zero h.bs.1
    subst hx
    clear h
    have HN := hide (Own.nil 5 1 w)
    have HB := hide (Below.refl w.heap.size w)
    have he : ∀ w : World, (binOp .eql 32 (.slice none 0 0) (.slice none 0 0)).run Tryz.prog w = .ok (.bool true) w := fun _ => rfl
    go_enter Tryz.func72, Tryz.ntmps72
    go_wp2_with fail
    go_ret
    exact ⟨HB.out, Sl.nil, rfl, HN.out, rfl, fun k hk => by cases hk⟩
  | some ad =>
    have HO : Hid (Owns (w.alloc (.cells #[] 5)) w.heap.size (.slice (some ⟨w.heap.size, 0, none⟩) 0 0) []) := own_new w
    have HA := hide (below_alloc w (.cells #[] 5))
    have HV := hide (h.bs.keep (below_alloc w (.cells #[] 5)) (Nat.le_refl _))
    have HN : Hid (some ad = none → cap = 0) := fun e => by cases e
    have HL : Hid (([] : List Nat).length + len ≤ 1000000) := by show _ ≤ _; simp; omega
    have he : ∀ w : World, (binOp .eql 32 (.slice (some ad) len cap) (.slice none 0 0)).run Tryz.prog w = .ok (.bool false) w := fun _ => rfl
    clear h
    go_enter Tryz.func72, Tryz.ntmps72
    go_wp2_with (at_builtin; refine wpList_append_bytes' _ rfl (.tmp 5) (.tmp 6) rfl w.heap.size _ [] rfl HO.out _ _ _ _ rfl HV.out HN.out HL.out HA.out.size ?_)
    intro v1 w1 ho1 hb1 _
    have HO1 := hide ho1
    have HB1 := hide (HA.out.trans hb1)
    clear ho1 hb1 HO HA HV HN HL
    go_wp2_with fail
    go_ret
    obtain ⟨s, hv, h1, h2, h3⟩ := HO1.out.own6
    exact ⟨HB1.out, s, congrArg Ending.returned hv, h1, h2, h3⟩


theorem alloc_size6 (w : World) (o : Obj) : (w.alloc o).heap.size = w.heap.size + 1 := by
  show (w.heap.push o).size = _
  simp

/-- A box with an image. -/
def ImBlk (w : World) (p : Nat) (q : Int) (v : Value) : Prop := w.heap[p]? = some (Obj.cells #[.int .i64 q, v] 76 (0, 0))
theorem ImBlk.c0 {w : World} {p : Nat} {q : Int} {v : Value} (h : ImBlk w p q v) : w.cell? ⟨p, 0, none⟩ = some (.int .i64 q) := by unfold ImBlk at h; simp [World.cell?, h]
theorem ImBlk.c1 {w : World} {p : Nat} {q : Int} {v : Value} (h : ImBlk w p q v) : w.cell? ⟨p, 1, none⟩ = some v := by unfold ImBlk at h; simp [World.cell?, h]
theorem ImBlk.fz {w : World} {p : Nat} {q : Int} {v : Value} (h : ImBlk w p q v) (o : Nat) : w.frozen? ⟨p, o, none⟩ = false := frozen_of_row w p _ _ 76 h
theorem imBlk_new (w : World) (q : Int) (v : Value) : ImBlk (w.alloc (.cells #[.int .i64 q, v] 76)) w.heap.size q v := heap_alloc_new w _
theorem ImBlk.below {w w' : World} {p : Nat} {q : Int} {v : Value} (h : ImBlk w p q v) (hb : Below w.heap.size w w') : ImBlk w' p q v := (hb.block p (Array.getElem?_eq_some_iff.1 h).1).trans h
theorem ImBlk.set {w : World} {p : Nat} {q : Int} {v : Value} (h : ImBlk w p q v) (q' : Int) (v' : Value) : ImBlk ((w.setCell ⟨p, 0, none⟩ (.int .i64 q')).setCell ⟨p, 1, none⟩ v') p q' v' := by
  have h1 := heap_setCell_same w p 0 _ 76 (.int .i64 q') h
  have h2 := heap_setCell_same _ p 1 _ 76 v' h1
  unfold ImBlk
  rw [h2]
  simp
theorem im_results {fn : Func} {x : Nat} (hr : fn.results = #[.cell x 76]) {W : World} {g : Nat} {q : Int} {s : Sl} (h : ImBlk W g q s.val) (tmps : Array Value) (ht : tmps.getD x undef = .pointer (some ⟨g, 0, none⟩)) : (results fn tmps).run Tryz.prog W = .ok (.agg #[.int .i64 q, s.val]) W := by
  have c0 := h.c0
  have c1 := h.c1
  unfold Sl.val at c1
  have ht2 : tmps[x]?.getD undef = .pointer (some ⟨g, 0, none⟩) := by simpa using ht
  simp [results, hr, ht2, go_sem, c0, c1, Sl.val]

theorem Own.cm {w : World} {s : Sl} {xs : List Nat} (D : Nat → Prop) (h : Own 5 1 w s (vals xs)) (hx : Bytes xs) (hD : ∀ k, s.blk = some k → D k) : Cm D w s xs :=
  ⟨h.came hx, fun ad ha _ => hD _ (by rw [Sl.blk, ha]; rfl)⟩

set_option maxHeartbeats 1000000 in
theorem imageOf_any (w : World) (p : Int) (a : Option Addr) (len cap : Nat) (xs : List Nat) (h : Came w a len cap xs) (hm : len ≤ 1000000) :
    Calls Tryz.prog 119 #[.int .i64 p, .slice a len cap] w fun e w' => ∃ s : Sl, e = .returned (.agg #[.int .i64 p, s.val]) ∧ Below w.heap.size w w' ∧ Cm (fun k => w.heap.size ≤ k) w' s xs := by
  have hA := below_alloc w (.cells #[.int .i64 0, .slice none 0 0] 76)
  have HC := hide (clone_any6 (w.alloc (.cells #[.int .i64 0, .slice none 0 0] 76)) a len cap xs ⟨h.bs.keep hA (Nat.le_refl _), h.nil, h.le, h.big⟩ hm)
  have HB := hide (imBlk_new w 0 (.slice none 0 0))
  have HA := hide hA
  have HX := hide h.bs.2.1
  clear h hA
  go_enter Tryz.func119, Tryz.ntmps119
  go_wp2_with fail
  refine HC.out.mono ?_
  rintro e w1 ⟨hb1, s, rfl, ho, hl, hk⟩
  have hbk := HB.out.below hb1
  have c0 := hbk.c0
  have c1 := hbk.c1
  have f0 := hbk.fz 0
  have f1 := hbk.fz 1
  have HBK := hide hbk
  have HO := hide ho
  have HK := hide hk
  have HB1 := hide (HA.out.trans (hb1.mono HA.out.size))
  have HS := hide HA.out.size
  clear ho hk hb1 hl hbk
  obtain ⟨sa, sl, sc⟩ := s
  have HBS := hide (HBK.out.set p (.slice sa sl sc))
  have HBB := hide ((HB1.out.setCell (p := ⟨w.heap.size, 0, none⟩) (Nat.le_refl _) (.int .i64 p)).setCell (p := ⟨w.heap.size, 1, none⟩) (Nat.le_refl _) (.slice sa sl sc))
  have HCM : Hid (Cm (fun k => w.heap.size ≤ k) ((w1.setCell ⟨w.heap.size, 0, none⟩ (.int .i64 p)).setCell ⟨w.heap.size, 1, none⟩ (.slice sa sl sc)) ⟨sa, sl, sc⟩ xs) := by
    have h1 : Cm (fun k => w.heap.size < k) w1 ⟨sa, sl, sc⟩ xs := by
      refine HO.out.cm _ HX.out (fun k hk => ?_)
      have h9 := HK.out k hk
      rw [alloc_size6] at h9
      exact h9
    refine (h1.keep ?_).mono (fun k hk _ => Nat.le_of_lt hk)
    intro k hk _
    rw [Below.heap_setCell _ ⟨w.heap.size, 1, none⟩ _ k (by show k ≠ w.heap.size; omega), Below.heap_setCell _ ⟨w.heap.size, 0, none⟩ _ k (by show k ≠ w.heap.size; omega)]
  clear HBK HB1 HO HK HS
  unfold Sl.val
  simp only
  go_wp2_with fail
  refine bodyPost_ret (im_results (s := ⟨sa, sl, sc⟩) rfl HBS.out _ rfl) rfl ?_
  exact ⟨_, rfl, HBB.out, HCM.out⟩
end Go.Proofs.YtpggkfdnpdhkfaaGreat

namespace Go.Proofs.YtpggkfdnpdhkfaaGreat
open Go.RowKit
set_option maxRecDepth 100000

namespace Pl
section
variable {P : Program} {ops : Array Oper} {S : World → Prop} {n : Nat} {f : Nat → Value}

end
end Pl

theorem geqT6 (a c : Int) (x y : Operand) (h : c ≤ a) (w : World) : (do eqGuard .geq 3 x y (.int .i64 a) (.int .i64 c); binOp .geq 3 (.int .i64 a) (.int .i64 c) : Sem Value).run Tryz.prog w = .ok (.bool true) w := by
  simp [go_sem, eqGuard]
  first | done | omega
theorem geqF6 (a c : Int) (x y : Operand) (h : ¬ (c ≤ a)) (w : World) : (do eqGuard .geq 3 x y (.int .i64 a) (.int .i64 c); binOp .geq 3 (.int .i64 a) (.int .i64 c) : Sem Value).run Tryz.prog w = .ok (.bool false) w := by
  simp [go_sem, eqGuard]
  first | done | omega
theorem neqT6 (a c : Int) (x y : Operand) (h : a ≠ c) (w : World) : (do eqGuard .neq 3 x y (.int .i64 a) (.int .i64 c); binOp .neq 3 (.int .i64 a) (.int .i64 c) : Sem Value).run Tryz.prog w = .ok (.bool true) w := by
  simp [go_sem, eqGuard]
  first | done | omega
theorem neqF6 (a c : Int) (x y : Operand) (h : ¬ (a ≠ c)) (w : World) : (do eqGuard .neq 3 x y (.int .i64 a) (.int .i64 c); binOp .neq 3 (.int .i64 a) (.int .i64 c) : Sem Value).run Tryz.prog w = .ok (.bool false) w := by
  simp [go_sem, eqGuard]
  first | done | omega
theorem subN (a b : Nat) (x y : Operand) (h : b ≤ a) (h2 : a ≤ 9223372036854775807) (w : World) : (do eqGuard .sub 3 x y (.int .i64 (a : Nat)) (.int .i64 (b : Nat)); binOp .sub 3 (.int .i64 (a : Nat)) (.int .i64 (b : Nat)) : Sem Value).run Tryz.prog w = .ok (.int .i64 ((a - b : Nat) : Int)) w := by
  have e : IntKind.i64.wrap ((a : Int) - (b : Int)) = ((a - b : Nat) : Int) := by rw [IntKind.wrap_i64]; omega
  simp [go_sem, eqGuard, e]
theorem addN6 (a b : Nat) (x y : Operand) (h2 : a + b ≤ 9223372036854775807) (w : World) : (do eqGuard .add 3 x y (.int .i64 (a : Nat)) (.int .i64 (b : Nat)); binOp .add 3 (.int .i64 (a : Nat)) (.int .i64 (b : Nat)) : Sem Value).run Tryz.prog w = .ok (.int .i64 ((a + b : Nat) : Int)) w := by
  have e : IntKind.i64.wrap ((a : Int) + (b : Int)) = ((a + b : Nat) : Int) := by rw [IntKind.wrap_i64]; omega
  simp [go_sem, eqGuard, e]
theorem ixIm (b o len cap k : Nat) (hk : k < len) (w : World) : (Instr.indexAt 52 (.slice (some ⟨b, o, none⟩) len cap) (.int .i64 (k : Nat))).run Tryz.prog w = .ok (.pointer (some ⟨b, o + k * 2, none⟩)) w := by
  have h22 : Tryz.prog.underlying 52 = some (.slice (Tryz.prog.elem 52)) := by kernel_rfl
  have h1 : (0 : Int) ≤ (k : Int) := by omega
  have h2 : (k : Int) < (len : Int) := by omega
  simp [go_sem, Instr.indexAt, run_underlying h22, h1, Addr.add_lit]
  intro h
  omega
theorem ixInt (b o len cap k : Nat) (hk : k < len) (w : World) : (Instr.indexAt 46 (.slice (some ⟨b, o, none⟩) len cap) (.int .i64 (k : Nat))).run Tryz.prog w = .ok (.pointer (some ⟨b, o + k, none⟩)) w := by
  have h22 : Tryz.prog.underlying 46 = some (.slice (Tryz.prog.elem 46)) := by kernel_rfl
  have h1 : (0 : Int) ≤ (k : Int) := by omega
  have h2 : (k : Int) < (len : Int) := by omega
  simp [go_sem, Instr.indexAt, run_underlying h22, h1, Addr.add_lit]
  intro h
  omega
theorem ixBs (b o len cap k : Nat) (hk : k < len) (w : World) : (Instr.indexAt 47 (.slice (some ⟨b, o, none⟩) len cap) (.int .i64 (k : Nat))).run Tryz.prog w = .ok (.pointer (some ⟨b, o + k, none⟩)) w := by
  have h22 : Tryz.prog.underlying 47 = some (.slice (Tryz.prog.elem 47)) := by kernel_rfl
  have h1 : (0 : Int) ≤ (k : Int) := by omega
  have h2 : (k : Int) < (len : Int) := by omega
  simp [go_sem, Instr.indexAt, run_underlying h22, h1, Addr.add_lit]
  intro h
  omega
theorem ixB (b o len cap k : Nat) (hk : k < len) (w : World) : (Instr.indexAt 32 (.slice (some ⟨b, o, none⟩) len cap) (.int .i64 (k : Nat))).run Tryz.prog w = .ok (.pointer (some ⟨b, o + k, none⟩)) w := by
  have h22 : Tryz.prog.underlying 32 = some (.slice (Tryz.prog.elem 32)) := by kernel_rfl
  have h1 : (0 : Int) ≤ (k : Int) := by omega
  have h2 : (k : Int) < (len : Int) := by omega
  simp [go_sem, Instr.indexAt, run_underlying h22, h1, Addr.add_lit]
  intro h
  omega
theorem ldInt6 (b o : Nat) (x : Int) (w : World) (h : w.cell? ⟨b, o, none⟩ = some (.int .i64 x)) : (Instr.loadAt 3 (.pointer (some ⟨b, o, none⟩))).run Tryz.prog w = .ok (.int .i64 x) w := by simp [go_sem, h]
theorem ldBs6 (b o : Nat) (x : Sl) (w : World) (h : w.cell? ⟨b, o, none⟩ = some (Sl.val x)) : (Instr.loadAt 32 (.pointer (some ⟨b, o, none⟩))).run Tryz.prog w = .ok (Sl.val x) w := by unfold Sl.val at h ⊢; simp [go_sem, h]
theorem ldB (b o : Nat) (x : Int) (w : World) (h : w.cell? ⟨b, o, none⟩ = some (.int .u8 x)) : (Instr.loadAt 5 (.pointer (some ⟨b, o, none⟩))).run Tryz.prog w = .ok (.int .u8 x) w := by simp [go_sem, h]
theorem fdI0 (b o : Nat) (w : World) : (Instr.fieldAt 76 (.pointer (some ⟨b, o, none⟩)) 0).run Tryz.prog w = .ok (.pointer (some ⟨b, o, none⟩)) w := by simp [go_sem, Instr.fieldAt, Addr.add_lit]
end Go.Proofs.YtpggkfdnpdhkfaaGreat

namespace Go.Proofs.YtpggkfdnpdhkfaaGreat
open Go.RowKit
set_option maxRecDepth 100000

open Classical in
/-- What Check tells. -/
noncomputable def chk6 (g : List Im) : Int := if May g then 0 else 1
theorem chk_ok6 {g : List Im} (h : May g) : chk6 g = 0 := if_pos h
theorem chk_no6 {g : List Im} (h : ¬ May g) : chk6 g = 1 := if_neg h
set_option maxHeartbeats 2000000 in
set_option maxRecDepth 100000 in
theorem check_any6 {D : Nat → Prop} (w : World) (v : Sl) (l : List Ix) (h : Gr D w v l) : Calls Tryz.prog 84 #[v.val] w fun e w' => e = .returned (.int .i64 (chk6 (ims l))) ∧ Below w.heap.size w w' := by
  obtain ⟨a, len, cap⟩ := v
  have hl : l.length = len := h.len
  unfold Sl.val
  simp only
  have HR := hide (Below.refl w.heap.size w)
  by_cases h1 : len < 1
  · have e : chk6 (ims l) = 1 := chk_no6 (fun m => by have := m.1; rw [ims_length] at this; omega)
    rw [e]
    have i1 : ((len : Nat) : Int) < 1 := by omega
    clear h e hl
    go_enter Tryz.func84, Tryz.ntmps84
    go_wp2_with fail
    go_ret
    exact ⟨rfl, HR.out⟩
  by_cases h6 : 6 < len
  · have e : chk6 (ims l) = 1 := chk_no6 (fun m => by have := m.2.1; rw [ims_length] at this; omega)
    rw [e]
    have i1 : ¬ ((len : Nat) : Int) < 1 := by omega
    have i2 : (6 : Int) < ((len : Nat) : Int) := by omega
    clear h e hl
    go_enter Tryz.func84, Tryz.ntmps84
    go_wp2_with fail
    go_ret
    exact ⟨rfl, HR.out⟩
  have i1 : ¬ ((len : Nat) : Int) < 1 := by omega
  have i2 : ¬ (6 : Int) < ((len : Nat) : Int) := by omega
  have H := hide h
  have HL := hide hl
  clear h hl
  go_enter Tryz.func84, Tryz.ntmps84
  go_wp2_with fail
  go_loopw [3, 16] (fun p i wr => ∃ k : Nat, k ≤ len ∧ i = .int .i64 k ∧ p = .int .i64 (prevP (ims l) k) ∧ Hid (∀ j, j < k → okAt (ims l) j) ∧ Hid (Below w.heap.size w wr)) (fun _ i _ => len - (intOf i).toNat)
  case atStart => exact ⟨0, by omega, rfl, rfl, hide (fun j hj => absurd hj (Nat.not_lt_zero j)), HR⟩
  case round =>
    obtain ⟨k, hk, rfl, rfl, hok, hW⟩ := hrel
    rcases Nat.lt_or_ge k len with hlt | hge
    · obtain ⟨b, off, ha, c0, c1⟩ := (H.out.below hW.out (Nat.le_refl _)).cell k hlt
      simp only at ha
      subst ha
      have hat := H.out.at (i := k) hlt
      have hbl := hat.len
      obtain ⟨x, hx⟩ : ∃ x, x = l.getD k Ix.zero := ⟨_, rfl⟩
      rw [← hx] at c0 c1 hbl
      have hpr := prev_ge hok.out
      have hgt : (ims l).getD k Im.zero = x.im := by rw [ims_getD, hx]
      obtain ⟨q, ⟨sa, sl, sc⟩, bs⟩ := x
      replace c1 : wr.cell? ⟨b, off + k * 2 + 1, none⟩ = some (.slice sa sl sc) := c1
      replace c0 : wr.cell? ⟨b, off + k * 2, none⟩ = some (.int .i64 q) := c0
      replace hbl : bs.length = sl := hbl
      obtain ⟨pv, hpv⟩ : ∃ pv, pv = prevP (ims l) k := ⟨_, rfl⟩
      rw [← hpv] at hpr ⊢
      have hoki : okAt (ims l) k ↔ 0 ≤ q ∧ pv < q ∧ q ≤ 63 ∧ sl = 512 := by
        unfold okAt
        rw [hgt, ← hpv]
        show 0 ≤ q ∧ pv < q ∧ q ≤ 63 ∧ bs.length = 512 ↔ _
        rw [hbl]
      have HNO : Hid (¬ okAt (ims l) k → chk6 (ims l) = 1) := fun hn => chk_no6 (fun m => hn (m.2.2 k (by rw [ims_length, HL.out]; exact hlt)))
      have HOK := hide hoki
      have HNX : Hid (prevP (ims l) (k + 1) = q) := by
        show _ = _
        unfold prevP
        rw [if_neg (by omega), Nat.add_sub_cancel, hgt]
        rfl
      have HB := hide (rBelow hW.out ((below_alloc wr (.cells #[.int .i64 q, .slice sa sl sc] 76))))
      have i3 : ((k : Nat) : Int) < ((len : Nat) : Int) := by omega
      clear hx hpv hat hgt hoki hbl
      by_cases c1' : q ≤ pv
      · have HE : Hid (chk6 (ims l) = 1) := HNO.out (fun o => by have := (HOK.out.1 o).2.1; omega)
        go_wp2_with fail
        go_ret
        exact ⟨by rw [HE.out]; rfl, HB.out⟩
      by_cases c2' : (64 : Int) ≤ q
      · have HE : Hid (chk6 (ims l) = 1) := HNO.out (fun o => by have := (HOK.out.1 o).2.2.1; omega)
        go_wp2_with fail
        go_ret
        exact ⟨by rw [HE.out]; rfl, HB.out⟩
      by_cases c3' : sl = 512
      · subst c3'
        have HY : Hid (okAt (ims l) k) := HOK.out.2 ⟨by omega, by omega, by omega, rfl⟩
        go_wp2_with fail
        go_roundw
        case rel => exact ⟨k + 1, by omega, by go_num, by rw [HNX.out], hide (fun j hj => by
          rcases Nat.lt_or_ge j k with h | h
          · exact hok.out j h
          · obtain rfl : j = k := by omega
            exact HY.out), HB⟩
        case measure => simp only [intOf]; omega
      · have i4 : ((sl : Nat) : Int) ≠ 512 := by omega
        have HE : Hid (chk6 (ims l) = 1) := HNO.out (fun o => by have := (HOK.out.1 o).2.2.2; omega)
        go_wp2_with fail
        go_ret
        exact ⟨by rw [HE.out]; rfl, HB.out⟩
    · have hkl : k = len := by omega
      subst hkl
      have HE : Hid (chk6 (ims l) = 0) := chk_ok6 ⟨by rw [ims_length, HL.out]; omega, by rw [ims_length, HL.out]; omega, fun j hj => hok.out j (by rw [ims_length, HL.out] at hj; exact hj)⟩
      have i3 : ¬ ((k : Nat) : Int) < ((k : Nat) : Int) := by omega
      go_wp2_with fail
      go_ret
      exact ⟨by rw [HE.out]; rfl, hW.out⟩

end Go.Proofs.YtpggkfdnpdhkfaaGreat
