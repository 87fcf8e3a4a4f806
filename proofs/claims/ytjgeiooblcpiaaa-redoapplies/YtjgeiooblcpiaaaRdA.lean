/-
  Layer 6: the law's pages, copies of bytes, images that are copied.
-/
import Derived.Test.YtjgeiooblcpiaaaImA
import Derived.Laws.MakeOwn
namespace Go.Proofs.Ytjgeiooblcpiaaa
open Go.RowKit

theorem made_bytes (n : Nat) : madeCells (Value.int .u8 0).cells (n * 1) = (vals (List.replicate n 0)).toArray := by
  apply Array.ext
  · simp [size_madeCells, vals]
  · intro i h1 h2
    simp [madeCells, vals, Value.cells, Nat.mod_one]
theorem make_bytes (n : Nat) (hn : n ≤ 10000000) (w : World) : (Instr.makeSlice 24 (.int .i64 (n : Nat)) (.int .i64 (n : Nat))).run Try.prog w = .ok (.slice (some ⟨w.heap.size, 0, none⟩) n n) (w.alloc (.cells (vals (List.replicate n 0)).toArray 5)) := by
  obtain ⟨i0, hi, hz0, hz1, hz2⟩ := info_parts info5
  have h := run_makeSlice (P := Try.prog) w 24 5 i0 (.int .u8 0) Try.underlying24 hi hz0 .i64 .i64 (n : Nat) (n : Nat) (by omega) (by omega) (by rw [hz1]; simp; omega) (by rw [hz2]; simp; omega) (by omega)
  rw [hz1, show ((n : Nat) : Int).toNat = n by omega, made_bytes] at h
  exact h
theorem bytes_zero (n : Nat) : Bytes (List.replicate n 0) := fun x hx => by rw [(List.mem_replicate.1 hx).2]; omega

theorem wpList_make {ops : Array Oper} {rest : List Oper} {o : Oper} {a : Act} {Q : Exit → Act → World → Prop} (w : World) (hgd : o.guard = none) (t : TypeId) (x y : Operand) (ho : o.op = .makeSlice t x y) (u u' v : Value) (hu : a.eval x = u) (hu' : a.eval y = u') (w' : World) (hrun : (Instr.makeSlice t u u').run Try.prog w = .ok v w') (hK : wpList Try.prog ops Q rest (a.put o.dst v) w') : wpList Try.prog ops Q (o :: rest) a w := by
  refine wpList_val w hgd v w' ?_ hK
  have e : execOp a.eval o = (do pure (.value (← Instr.makeSlice t (a.eval x) (a.eval y)))) := by
    unfold execOp
    rw [ho]
  rw [e, hu, hu']
  simp [hrun]

/-- A page that begins with bytes, again and again. -/
def pageOf (b : List Nat) : List Nat := (List.range 512).map fun i => if b.length = 0 then 0 else b.getD (i % b.length) 0
theorem pageOf_length (b : List Nat) : (pageOf b).length = 512 := by simp [pageOf]
theorem pageOf_get (b : List Nat) (i : Nat) (hi : i < 512) : (pageOf b)[i]? = some (if b.length = 0 then 0 else b.getD (i % b.length) 0) := by
  unfold pageOf
  rw [List.getElem?_map, List.getElem?_range hi]
  rfl
theorem pageOf_bytes (b : List Nat) (h : Bytes b) : Bytes (pageOf b) := by
  intro x hx
  obtain ⟨i, _, rfl⟩ := List.mem_map.1 hx
  split
  · omega
  · exact getD_lt h _
/-- The first so many of them, the rest noughts. -/
def pagePart (b : List Nat) (j : Nat) : List Nat := (pageOf b).take j ++ List.replicate (512 - j) 0
theorem pagePart_set (b : List Nat) (j : Nat) (hj : j < 512) (h0 : b.length ≠ 0) : (pagePart b j).set j (b.getD (j % b.length) 0) = pagePart b (j + 1) := by
  unfold pagePart
  have hl : ((pageOf b).take j).length = j := by rw [List.length_take, pageOf_length]; omega
  have hg := pageOf_get b j hj
  rw [if_neg h0] at hg
  have hlt : j < (pageOf b).length := by rw [pageOf_length]; exact hj
  have e1 : (pageOf b)[j] = b.getD (j % b.length) 0 := by rw [List.getElem?_eq_getElem hlt] at hg; exact Option.some.inj hg
  rw [List.set_append_right _ _ (by omega), hl, Nat.sub_self, show 512 - j = (512 - (j + 1)) + 1 by omega, List.replicate_succ, List.set_cons_zero, List.take_succ_eq_append_getElem hlt, e1, List.append_assoc]
  rfl

set_option maxHeartbeats 4000000 in
set_option maxRecDepth 100000 in
theorem page_any (w : World) (a : Option Addr) (len cap : Nat) (b : List Nat) (hb : Came w a len cap b) : Calls Try.prog 21 #[.slice a len cap] w fun e w' => Below w.heap.size w w' ∧ e = .returned (.slice (some ⟨w.heap.size, 0, none⟩) 512 512) ∧ Came w' (some ⟨w.heap.size, 0, none⟩) 512 512 (pageOf b) := by
  have HM := hide (make_bytes 512 (by omega) w)
  obtain ⟨C, hC⟩ : ∃ C, C = (.cells (vals (List.replicate 512 0)).toArray 5 : Obj) := ⟨_, rfl⟩
  rw [← hC] at HM
  have HB := hide (below_alloc w C)
  have HO : Hid (Owns (w.alloc C) w.heap.size (.slice (some ⟨w.heap.size, 0, none⟩) 512 512) (pagePart b 0)) := by
    rw [hC]
    have := Owns.lit w w.heap.size (List.replicate 512 0) (Nat.le_refl _) (by rw [List.length_replicate]; omega)
    rw [List.length_replicate] at this
    exact this
  have HCM := hide hb
  have hbl := hb.bs.1
  have HBL := hide hbl
  have HPB := hide (pageOf_bytes b hb.bs.2.1)
  have HBIG := hide hb.big
  clear hC hb
  go_enter Try.func21, Try.ntmps21
  go_wp2_with (refine wpList_make _ rfl 24 (.const (.int .i64 512)) (.const (.int .i64 512)) rfl (.int .i64 512) (.int .i64 512) (.slice (some ⟨w.heap.size, 0, none⟩) 512 512) rfl rfl (w.alloc C) HM.out ?_)
  go_loopw [4] (fun i wr => ∃ j : Nat, j ≤ 512 ∧ i = .int .i64 j ∧ Hid (Owns wr w.heap.size (.slice (some ⟨w.heap.size, 0, none⟩) 512 512) (pagePart b j)) ∧ Hid (Below w.heap.size w wr)) (fun i _ => 512 - (intOf i).toNat)
  case atStart => exact ⟨0, by omega, rfl, HO, HB⟩
  case round =>
    obtain ⟨j, hj, rfl, hO, hB⟩ := hrel
    by_cases hgo : j < 512 ∧ 0 < len
    · obtain ⟨hlt, hl0⟩ := hgo
      have i1 : ((j : Nat) : Int) < 512 := by omega
      have i2 : (0 : Int) < ((len : Nat) : Int) := by omega
      have hlen : (pagePart b j).length = 512 := by unfold pagePart; rw [List.length_append, List.length_take, pageOf_length, List.length_replicate]; omega
      have hset := hO.out.set (by rw [hlen]) j (b.getD (j % len) 0)
      have hps := pagePart_set b j hlt (by omega)
      rw [hbl] at hps
      rw [hps] at hset
      have HSET := hide hset
      have hbyt : Bytes (pagePart b j) := by
        intro x hx
        rcases List.mem_append.1 hx with h1 | h1
        · exact HPB.out x (List.mem_of_mem_take h1)
        · rw [(List.mem_replicate.1 h1).2]; omega
      have HBS := hide (hB.out.setCell (p := ⟨w.heap.size, j, none⟩) (Nat.le_refl _) (.int .u8 ((b.getD (j % len) 0 : Nat) : Int)))
      have hbs := (hO.out.row hbyt).2
      have hc0 := hbs.at j (by omega)
      rw [Nat.zero_add] at hc0
      have hfz : wr.frozen? ⟨w.heap.size, j, none⟩ = false := by
        rcases hO.out.2 with ⟨h', _⟩ | ⟨g', cap', cur, h', hbg, hg, hle, hmx, hcs, htk⟩
        · simp at h'
        · simp only [Value.slice.injEq, Option.some.injEq, Addr.mk.injEq, and_true] at h'
          rw [h'.1]
          exact frozen_of_row wr g' _ _ 5 hg
      have hmod : j % len < len := Nat.mod_lt _ hl0
      obtain ⟨bb, oo, ha, hcb⟩ := (HCM.out.bs.keep hB.out (Nat.le_refl _)).2.2 (j % len) hmod
      have hbg2 := HBIG.out
      have i3 : ((j % len : Nat) : Int) < ((len : Nat) : Int) := by omega
      have i4 : ¬ len = 0 := by omega
      subst ha
      obtain ⟨vv, hvv⟩ : ∃ vv, vv = b.getD (j % len) 0 := ⟨_, rfl⟩
      rw [← hvv] at hcb HBS HSET
      clear hset hbs hlen hps hbyt hvv
      go_wp2_with fail
      go_roundw
      case rel => exact ⟨j + 1, by omega, by go_num, HSET, HBS⟩
      case measure => simp only [intOf]; omega
    · have HFIN : Hid (pagePart b j = pageOf b) := by
        show _ = _
        unfold pagePart
        by_cases h5 : j = 512
        · rw [h5, List.take_of_length_le (by rw [pageOf_length]; exact Nat.le_refl _)]; simp
        · have hl0 : len = 0 := by omega
          apply List.ext_getElem?
          intro t
          have hb0 : b.length = 0 := by omega
          by_cases ht : t < 512
          · rw [pageOf_get b t ht, if_pos hb0]
            by_cases htj : t < j
            · rw [List.getElem?_append_left (by rw [List.length_take, pageOf_length]; omega), List.getElem?_take, if_pos htj, pageOf_get b t ht, if_pos hb0]
            · rw [List.getElem?_append_right (by rw [List.length_take, pageOf_length]; omega), List.getElem?_replicate, if_pos (by rw [List.length_take, pageOf_length]; omega)]
          · rw [List.getElem?_eq_none (by rw [List.length_append, List.length_take, pageOf_length, List.length_replicate]; omega), List.getElem?_eq_none (by rw [pageOf_length]; omega)]
      have HEND : Hid (Came wr (some ⟨w.heap.size, 0, none⟩) 512 512 (pageOf b)) := by
        have e1 := hO.out
        rw [HFIN.out] at e1
        have h3 := (e1.row HPB.out).2
        rw [pageOf_length] at h3
        exact ⟨h3, (fun e => by cases e), Nat.le_refl _, by omega⟩
      by_cases h5 : j < 512
      · have hl0 : len = 0 := by omega
        subst hl0
        have i1 : ((j : Nat) : Int) < 512 := by omega
        go_wp2_with fail
        go_ret
        exact ⟨hB.out, rfl, HEND.out⟩
      · obtain rfl : j = 512 := by omega
        go_wp2_with fail
        go_ret
        exact ⟨hB.out, rfl, HEND.out⟩

theorem Owns.own {w : World} {base : Nat} {v : Value} {xs : List Nat} (h : Owns w base v xs) : ∃ s : Sl, v = s.val ∧ Own 5 1 w s (vals xs) ∧ s.len = xs.length ∧ ∀ k, s.blk = some k → base ≤ k := by
  rcases h.2 with ⟨hv, h0⟩ | ⟨g, cap, cur, hv, hbg, hg, hle, hm, hcs, htk⟩
  · refine ⟨Sl.nil, hv, ?_, h0.symm, fun k hk => by cases hk⟩
    have : xs = [] := List.eq_nil_of_length_eq_zero h0
    subst this
    exact Own.nil _ _ _
  · refine ⟨⟨some ⟨g, 0, none⟩, xs.length, cap⟩, hv, ⟨by rw [vals_length]; show _ = xs.length * 1; omega, .inr ⟨g, 0, cur, rfl, hg, by show 0 + cap * 1 ≤ _; rw [hcs]; omega, hle, hm, by rw [List.drop_zero]; exact htk⟩⟩, rfl, fun k hk => by cases hk; exact hbg⟩

set_option maxHeartbeats 1000000 in
theorem clone_any (w : World) (a : Option Addr) (len cap : Nat) (xs : List Nat) (h : Came w a len cap xs) (hm : len ≤ 1000000) : Calls Try.prog 37 #[.slice a len cap] w fun e w' => Below w.heap.size w w' ∧ ∃ s : Sl, e = .returned s.val ∧ Own 5 1 w' s (vals xs) ∧ s.len = xs.length ∧ ∀ k, s.blk = some k → w.heap.size ≤ k := by
  cases a with
  | none =>
    have hc := h.nil rfl
    have h0 : len = 0 := by have := h.le; omega
    subst hc; subst h0
    have hx : xs = [] := List.eq_nil_of_length_eq_zero h.bs.1
    subst hx
    clear h
    have HN := hide (Own.nil 5 1 w)
    have HB := hide (Below.refl w.heap.size w)
    have he : ∀ w : World, (binOp .eql 24 (.slice none 0 0) (.slice none 0 0)).run Try.prog w = .ok (.bool true) w := fun _ => rfl
    go_enter Try.func37, Try.ntmps37
    go_wp2_with fail
    go_ret
    exact ⟨HB.out, Sl.nil, rfl, HN.out, rfl, fun k hk => by cases hk⟩
  | some ad =>
    have HO : Hid (Owns (w.alloc (.cells #[] 5)) w.heap.size (.slice (some ⟨w.heap.size, 0, none⟩) 0 0) []) := own_new w
    have HA := hide (below_alloc w (.cells #[] 5))
    have HV := hide (h.bs.keep (below_alloc w (.cells #[] 5)) (Nat.le_refl _))
    have HN : Hid (some ad = none → cap = 0) := fun e => by cases e
    have HL : Hid (([] : List Nat).length + len ≤ 1000000) := by show _ ≤ _; simp; omega
    have he : ∀ w : World, (binOp .eql 24 (.slice (some ad) len cap) (.slice none 0 0)).run Try.prog w = .ok (.bool false) w := fun _ => rfl
    clear h
    go_enter Try.func37, Try.ntmps37
    go_wp2_with (at_builtin; refine wpList_append_bytes' _ rfl (.tmp 5) (.tmp 6) rfl w.heap.size _ [] rfl HO.out _ _ _ _ rfl HV.out HN.out HL.out HA.out.size ?_)
    intro v1 w1 ho1 hb1 _
    have HO1 := hide ho1
    have HB1 := hide (HA.out.trans hb1)
    clear ho1 hb1 HO HA HV HN HL
    go_wp2_with fail
    go_ret
    obtain ⟨s, hv, h1, h2, h3⟩ := HO1.out.own
    exact ⟨HB1.out, s, congrArg Ending.returned hv, h1, h2, h3⟩


theorem alloc_size (w : World) (o : Obj) : (w.alloc o).heap.size = w.heap.size + 1 := by
  show (w.heap.push o).size = _
  simp

/-- A box with an image. -/
def ImBlk (w : World) (p : Nat) (q : Int) (v : Value) : Prop := w.heap[p]? = some (Obj.cells #[.int .i64 q, v] 28 (0, 0))
theorem ImBlk.c0 {w : World} {p : Nat} {q : Int} {v : Value} (h : ImBlk w p q v) : w.cell? ⟨p, 0, none⟩ = some (.int .i64 q) := by unfold ImBlk at h; simp [World.cell?, h]
theorem ImBlk.c1 {w : World} {p : Nat} {q : Int} {v : Value} (h : ImBlk w p q v) : w.cell? ⟨p, 1, none⟩ = some v := by unfold ImBlk at h; simp [World.cell?, h]
theorem ImBlk.fz {w : World} {p : Nat} {q : Int} {v : Value} (h : ImBlk w p q v) (o : Nat) : w.frozen? ⟨p, o, none⟩ = false := frozen_of_row w p _ _ 28 h
theorem imBlk_new (w : World) (q : Int) (v : Value) : ImBlk (w.alloc (.cells #[.int .i64 q, v] 28)) w.heap.size q v := heap_alloc_new w _
theorem ImBlk.below {w w' : World} {p : Nat} {q : Int} {v : Value} (h : ImBlk w p q v) (hb : Below w.heap.size w w') : ImBlk w' p q v := (hb.block p (Array.getElem?_eq_some_iff.1 h).1).trans h
theorem ImBlk.set {w : World} {p : Nat} {q : Int} {v : Value} (h : ImBlk w p q v) (q' : Int) (v' : Value) : ImBlk ((w.setCell ⟨p, 0, none⟩ (.int .i64 q')).setCell ⟨p, 1, none⟩ v') p q' v' := by
  have h1 := heap_setCell_same w p 0 _ 28 (.int .i64 q') h
  have h2 := heap_setCell_same _ p 1 _ 28 v' h1
  unfold ImBlk
  rw [h2]
  simp
theorem im_results {fn : Func} {x : Nat} (hr : fn.results = #[.cell x 28]) {W : World} {g : Nat} {q : Int} {s : Sl} (h : ImBlk W g q s.val) (tmps : Array Value) (ht : tmps.getD x undef = .pointer (some ⟨g, 0, none⟩)) : (results fn tmps).run Try.prog W = .ok (.agg #[.int .i64 q, s.val]) W := by
  have c0 := h.c0
  have c1 := h.c1
  unfold Sl.val at c1
  have ht2 : tmps[x]?.getD undef = .pointer (some ⟨g, 0, none⟩) := by simpa using ht
  simp [results, hr, ht2, go_sem, c0, c1, Sl.val]

theorem Own.cm {w : World} {s : Sl} {xs : List Nat} (D : Nat → Prop) (h : Own 5 1 w s (vals xs)) (hx : Bytes xs) (hD : ∀ k, s.blk = some k → D k) : Cm D w s xs :=
  ⟨h.came hx, fun ad ha _ => hD _ (by rw [Sl.blk, ha]; rfl)⟩

set_option maxHeartbeats 1000000 in
theorem imageOf_any (w : World) (p : Int) (a : Option Addr) (len cap : Nat) (xs : List Nat) (h : Came w a len cap xs) (hm : len ≤ 1000000) :
    Calls Try.prog 32 #[.int .i64 p, .slice a len cap] w fun e w' => ∃ s : Sl, e = .returned (.agg #[.int .i64 p, s.val]) ∧ Below w.heap.size w w' ∧ Cm (fun k => w.heap.size ≤ k) w' s xs := by
  have hA := below_alloc w (.cells #[.int .i64 0, .slice none 0 0] 28)
  have HC := hide (clone_any (w.alloc (.cells #[.int .i64 0, .slice none 0 0] 28)) a len cap xs ⟨h.bs.keep hA (Nat.le_refl _), h.nil, h.le, h.big⟩ hm)
  have HB := hide (imBlk_new w 0 (.slice none 0 0))
  have HA := hide hA
  have HX := hide h.bs.2.1
  clear h hA
  go_enter Try.func32, Try.ntmps32
  go_wp2_with fail
  refine HC.out.mono ?_
  rintro e w1 ⟨hb1, s, rfl, ho, hl, hk⟩
  have hbk := HB.out.below hb1
  have c0 := hbk.c0
  have c1 := hbk.c1
  have f0 := hbk.fz 0
  have f1 := hbk.fz 1
  have HBK := hide hbk
  have HO := hide ho
  have HK := hide hk
  have HB1 := hide (HA.out.trans (hb1.mono HA.out.size))
  have HS := hide HA.out.size
  clear ho hk hb1 hl hbk
  obtain ⟨sa, sl, sc⟩ := s
  have HBS := hide (HBK.out.set p (.slice sa sl sc))
  have HBB := hide ((HB1.out.setCell (p := ⟨w.heap.size, 0, none⟩) (Nat.le_refl _) (.int .i64 p)).setCell (p := ⟨w.heap.size, 1, none⟩) (Nat.le_refl _) (.slice sa sl sc))
  have HCM : Hid (Cm (fun k => w.heap.size ≤ k) ((w1.setCell ⟨w.heap.size, 0, none⟩ (.int .i64 p)).setCell ⟨w.heap.size, 1, none⟩ (.slice sa sl sc)) ⟨sa, sl, sc⟩ xs) := by
    have h1 : Cm (fun k => w.heap.size < k) w1 ⟨sa, sl, sc⟩ xs := by
      refine HO.out.cm _ HX.out (fun k hk => ?_)
      have h9 := HK.out k hk
      rw [alloc_size] at h9
      exact h9
    refine (h1.keep ?_).mono (fun k hk _ => Nat.le_of_lt hk)
    intro k hk _
    rw [Below.heap_setCell _ ⟨w.heap.size, 1, none⟩ _ k (by show k ≠ w.heap.size; omega), Below.heap_setCell _ ⟨w.heap.size, 0, none⟩ _ k (by show k ≠ w.heap.size; omega)]
  clear HBK HB1 HO HK HS
  unfold Sl.val
  simp only
  go_wp2_with fail
  refine bodyPost_ret (im_results (s := ⟨sa, sl, sc⟩) rfl HBS.out _ rfl) rfl ?_
  exact ⟨_, rfl, HBB.out, HCM.out⟩
end Go.Proofs.Ytjgeiooblcpiaaa
