/-
  Layer 11, the landed table: slices.Equal and slices.Index of entries; First, Live, Eldest, Same.
-/
import Derived.Test.YtdbgbldmjgonjaaTcB
import Derived.Test.YtdbgbldmjgonjaaTbF
namespace Go.Proofs.Ytdbgbldmjgonjaa
open Go.RowKit
set_option linter.unusedVariables false

theorem eql_en (x y : En) (a c : Operand) (w : World) : (do eqGuard .eql 58 a c x.val y.val; binOp .eql 58 x.val y.val : Sem Value).run Try.prog w = .ok (.bool (x.beq y)) w := by
  have h := equal_en x y w
  unfold En.val at *
  rw [Sem.run_bind, run_eqGuard_agg w .eql 58 a c _ _ guard_en, Result.andThen_ok, run_eql_struct, h]
  rfl
/-- An entry laid into its box. -/
theorem EnBlk.store {w : World} {p : Nat} {e : En} (h : EnBlk w p e) (x : En) : ∃ W, (Instr.storeAt 58 (.pointer (some ⟨p, 0, none⟩)) x.val).run Try.prog w = .ok () W ∧ EnBlk W p x ∧ Frm (fun k => k = p) w W ∧ W.heap.size = w.heap.size := by
  have c0 := h.at.c0
  have c1 := h.at.c1
  have c2 := h.at.c2
  have c3 := h.at.c3
  have f0 := h.fz
  simp only [Nat.zero_add] at c1 c2 c3
  refine ⟨setEn w p 0 x, by simp [go_sem, Instr.storeAt, stored, c0, c1, c2, c3, f0, En.val, setEn], ?_, setEn_frm _ _ _ _, setEn_size _ _ _ _⟩
  have s0 := heap_setCell_same w p 0 _ 58 (.int .i64 x.tx) h
  have s1 := heap_setCell_same _ p (0 + 1) _ 58 (.int .i64 x.st) s0
  have s2 := heap_setCell_same _ p (0 + 2) _ 58 (.int .i64 x.last) s1
  have s3 := heap_setCell_same _ p (0 + 3) _ 58 (.int .i64 x.com) s2
  exact s3

set_option maxHeartbeats 2000000 in
set_option maxRecDepth 100000 in
theorem equalE6 (w : World) (b o len cap b2 o2 len2 cap2 i : Nat) (x y : En) (r : Bool) (hi : i < len) (hi2 : i < len2) (hx : EnAt w b (o + i * 4) x) (hy : EnAt w b2 (o2 + i * 4) y) (hr : x.beq y = r)
    {Q : Exit → Act → World → Prop} {A : Act} (hsz : A.tmps.size = 26) (hdf : A.defers = []) (s0 : A.tmps.getD 0 undef = .slice (some ⟨b, o, none⟩) len cap) (s1 : A.tmps.getD 1 undef = .slice (some ⟨b2, o2, none⟩) len2 cap2) (s5 : A.tmps.getD 5 undef = .int .i64 ((i : Nat) : Int))
    (hend : ∀ (u : Nat → Value) w', Below w.heap.size w w' → Q .normal ((((((((((A).put (some 16) (u 16)).put (some 17) (u 17)).put (some 18) (u 18)).put (some 19) (u 19)).put (some 20) (u 20)).put (some 21) (u 21)).put (some 22) (u 22)).put (some 23) (u 23)).put (some 24) (.bool (!r))) w') :
    (Code.region 6 (Pl.find 6 ((Try.f54.body).getD .skip)) true).wp Try.prog Q A w := by
  have hA := Pl.At.same (v := .int .i64 ((i : Nat) : Int)) (d := 5) (Pl.At.same (v := .slice (some ⟨b2, o2, none⟩) len2 cap2) (d := 1) (Pl.At.same (v := .slice (some ⟨b, o, none⟩) len cap) (d := 0) (Pl.At.here hsz hdf) s0) s1) s5
  refine Pl.H.start (S := (fun w' => Below w.heap.size w w')) (by kernel_rfl) hA (below_drew w) ?_
  rw [show (Pl.find 6 ((Try.f54.body).getD .skip)).size = 9 by kernel_rfl]
  refine Pl.H.take 0 16 (.slice (some ⟨b, o, none⟩) len cap) (by kernel_rfl) (by kernel_rfl) (by kernel_rfl) (Pl.free 0 (by kernel_rfl)) (Pl.move 0 (.tmp 0) (by kernel_rfl) (by decide)) (below_drew w) ?_
  refine Pl.H.take 1 17 (.int .i64 ((i : Nat) : Int)) (by kernel_rfl) (by kernel_rfl) (by kernel_rfl) (Pl.free 1 (by kernel_rfl)) (Pl.move 1 (.tmp 5) (by kernel_rfl) (by decide)) (below_drew w) ?_
  refine Pl.H.take 2 18 (.pointer (some ⟨b, o + i * 4, none⟩)) (by kernel_rfl) (by kernel_rfl) (by kernel_rfl) (Pl.free 2 (by kernel_rfl)) (Pl.index 2 22 (.tmp 16) (.tmp 17) _ (by kernel_rfl) (by decide) (by decide) (ixEn b o len cap i hi)) (below_drew w) ?_
  refine Pl.H.take 3 19 (En.val x) (by kernel_rfl) (by kernel_rfl) (by kernel_rfl) (Pl.free 3 (by kernel_rfl)) (Pl.load 3 58 (.tmp 18) _ (by kernel_rfl) (by decide) (fun w' hS => load_en b (o + i * 4) x w' (hx.keep hS (Nat.le_refl _)))) (below_drew w) ?_
  refine Pl.H.take 4 20 (.slice (some ⟨b2, o2, none⟩) len2 cap2) (by kernel_rfl) (by kernel_rfl) (by kernel_rfl) (Pl.free 4 (by kernel_rfl)) (Pl.move 4 (.tmp 1) (by kernel_rfl) (by decide)) (below_drew w) ?_
  refine Pl.H.take 5 21 (.int .i64 ((i : Nat) : Int)) (by kernel_rfl) (by kernel_rfl) (by kernel_rfl) (Pl.free 5 (by kernel_rfl)) (Pl.move 5 (.tmp 5) (by kernel_rfl) (by decide)) (below_drew w) ?_
  refine Pl.H.take 6 22 (.pointer (some ⟨b2, o2 + i * 4, none⟩)) (by kernel_rfl) (by kernel_rfl) (by kernel_rfl) (Pl.free 6 (by kernel_rfl)) (Pl.index 6 22 (.tmp 20) (.tmp 21) _ (by kernel_rfl) (by decide) (by decide) (ixEn b2 o2 len2 cap2 i hi2)) (below_drew w) ?_
  refine Pl.H.take 7 23 (En.val y) (by kernel_rfl) (by kernel_rfl) (by kernel_rfl) (Pl.free 7 (by kernel_rfl)) (Pl.load 7 58 (.tmp 22) _ (by kernel_rfl) (by decide) (fun w' hS => load_en b2 (o2 + i * 4) y w' (hy.keep hS (Nat.le_refl _)))) (below_drew w) ?_
  refine Pl.H.take 8 24 (.bool (!r)) (by kernel_rfl) (by kernel_rfl) (by kernel_rfl) (Pl.free 8 (by kernel_rfl)) (Pl.binV 8 .neq 58 58 (.tmp 19) (.tmp 23) (En.val x) (En.val y) _ (by kernel_rfl) (by decide) (by decide) rfl rfl (fun w => hr ▸ neq_en x y _ _ w)) (below_drew w) ?_
  refine Pl.H.done (by kernel_rfl) (fun A' hA' => ?_)
  rw [Pl.At.ext hA' (((((((((hA.put 16 _).put 17 _).put 18 _).put 19 _).put 20 _).put 21 _).put 22 _).put 23 _).put 24 _)]
  exact hend (fun d => if d = 16 then .slice (some ⟨b, o, none⟩) len cap else if d = 17 then .int .i64 ((i : Nat) : Int) else if d = 18 then .pointer (some ⟨b, o + i * 4, none⟩) else if d = 19 then En.val x else if d = 20 then .slice (some ⟨b2, o2, none⟩) len2 cap2 else if d = 21 then .int .i64 ((i : Nat) : Int) else if d = 22 then .pointer (some ⟨b2, o2 + i * 4, none⟩) else if d = 23 then En.val y else undef) _ (below_drew w)

set_option maxHeartbeats 2000000 in
set_option maxRecDepth 100000 in
theorem indexE4 (w : World) (b o len cap i p : Nat) (x y : En) (r : Bool) (hi : i < len) (hp : EnBlk w p x) (hy : EnAt w b (o + i * 4) y) (hr : x.beq y = r)
    {Q : Exit → Act → World → Prop} {A : Act} (hsz : A.tmps.size = 19) (hdf : A.defers = []) (s0 : A.tmps.getD 0 undef = .slice (some ⟨b, o, none⟩) len cap) (s3 : A.tmps.getD 3 undef = .pointer (some ⟨p, 0, none⟩)) (s5 : A.tmps.getD 5 undef = .int .i64 ((i : Nat) : Int))
    (hend : ∀ (u : Nat → Value) w', Below w.heap.size w w' → Q .normal (((((((A).put (some 11) (u 11)).put (some 12) (u 12)).put (some 13) (u 13)).put (some 14) (u 14)).put (some 15) (u 15)).put (some 16) (.bool r)) w') :
    (Code.region 4 (Pl.find 4 ((Try.f51.body).getD .skip)) true).wp Try.prog Q A w := by
  have hA := Pl.At.same (v := .int .i64 ((i : Nat) : Int)) (d := 5) (Pl.At.same (v := .pointer (some ⟨p, 0, none⟩)) (d := 3) (Pl.At.same (v := .slice (some ⟨b, o, none⟩) len cap) (d := 0) (Pl.At.here hsz hdf) s0) s3) s5
  refine Pl.H.start (S := (fun w' => Below w.heap.size w w')) (by kernel_rfl) hA (below_drew w) ?_
  rw [show (Pl.find 4 ((Try.f51.body).getD .skip)).size = 6 by kernel_rfl]
  refine Pl.H.take 0 11 (En.val x) (by kernel_rfl) (by kernel_rfl) (by kernel_rfl) (Pl.free 0 (by kernel_rfl)) (Pl.load 0 58 (.tmp 3) _ (by kernel_rfl) (by decide) (fun w' hS => load_en p 0 x w' (hp.keep hS).at)) (below_drew w) ?_
  refine Pl.H.take 1 12 (.slice (some ⟨b, o, none⟩) len cap) (by kernel_rfl) (by kernel_rfl) (by kernel_rfl) (Pl.free 1 (by kernel_rfl)) (Pl.move 1 (.tmp 0) (by kernel_rfl) (by decide)) (below_drew w) ?_
  refine Pl.H.take 2 13 (.int .i64 ((i : Nat) : Int)) (by kernel_rfl) (by kernel_rfl) (by kernel_rfl) (Pl.free 2 (by kernel_rfl)) (Pl.move 2 (.tmp 5) (by kernel_rfl) (by decide)) (below_drew w) ?_
  refine Pl.H.take 3 14 (.pointer (some ⟨b, o + i * 4, none⟩)) (by kernel_rfl) (by kernel_rfl) (by kernel_rfl) (Pl.free 3 (by kernel_rfl)) (Pl.index 3 22 (.tmp 12) (.tmp 13) _ (by kernel_rfl) (by decide) (by decide) (ixEn b o len cap i hi)) (below_drew w) ?_
  refine Pl.H.take 4 15 (En.val y) (by kernel_rfl) (by kernel_rfl) (by kernel_rfl) (Pl.free 4 (by kernel_rfl)) (Pl.load 4 58 (.tmp 14) _ (by kernel_rfl) (by decide) (fun w' hS => load_en b (o + i * 4) y w' (hy.keep hS (Nat.le_refl _)))) (below_drew w) ?_
  refine Pl.H.take 5 16 (.bool r) (by kernel_rfl) (by kernel_rfl) (by kernel_rfl) (Pl.free 5 (by kernel_rfl)) (Pl.binV 5 .eql 58 58 (.tmp 11) (.tmp 15) (En.val x) (En.val y) _ (by kernel_rfl) (by decide) (by decide) rfl rfl (fun w => hr ▸ eql_en x y _ _ w)) (below_drew w) ?_
  refine Pl.H.done (by kernel_rfl) (fun A' hA' => ?_)
  rw [Pl.At.ext hA' ((((((hA.put 11 _).put 12 _).put 13 _).put 14 _).put 15 _).put 16 _)]
  exact hend (fun d => if d = 11 then En.val x else if d = 12 then .slice (some ⟨b, o, none⟩) len cap else if d = 13 then .int .i64 ((i : Nat) : Int) else if d = 14 then .pointer (some ⟨b, o + i * 4, none⟩) else if d = 15 then En.val y else undef) _ (below_drew w)

/-! ### First -/
set_option maxHeartbeats 4000000 in
set_option maxRecDepth 100000 in
theorem firstT_any (w : World) : Calls Try.prog 19 #[] w (TbOwn firstT w id) := by
  have hz := TbBlk.new w Tb.zero Sl.nil
  have s1 : (w.alloc (.cells #[.int .i64 0, .int .i64 0, .int .i64 0, .slice none 0 0] 24)).heap.size = w.heap.size + 1 := by simp
  have hb1 := below_alloc w (.cells #[.int .i64 0, .int .i64 0, .int .i64 0, .slice none 0 0] 24)
  have hz' : TbBlk (w.alloc (.cells #[.int .i64 0, .int .i64 0, .int .i64 0, .slice none 0 0] 24)) w.heap.size Tb.zero Sl.nil := hz
  have hmk := make_twelve (w.alloc (.cells #[.int .i64 0, .int .i64 0, .int .i64 0, .slice none 0 0] 24))
  have ho := own_twelve (w.alloc (.cells #[.int .i64 0, .int .i64 0, .int .i64 0, .slice none 0 0] 24))
  have hb2 := below_alloc (w.alloc (.cells #[.int .i64 0, .int .i64 0, .int .i64 0, .slice none 0 0] 24)) (.cells (cellsE (List.replicate 12 En.zero)).toArray 58)
  rw [s1] at hmk ho
  generalize (w.alloc (.cells #[.int .i64 0, .int .i64 0, .int .i64 0, .slice none 0 0] 24)).alloc (.cells (cellsE (List.replicate 12 En.zero)).toArray 58) = W2 at *
  obtain ⟨W3, hst, hbk, hfr, hsz⟩ := (hz'.keep hb2).store firstT ⟨some ⟨w.heap.size + 1, 0, none⟩, 12, 12⟩
  have HO : Hid (OwnE W3 ⟨some ⟨w.heap.size + 1, 0, none⟩, 12, 12⟩ firstT.es) := ho.other hfr (fun k hk => by have e : some (w.heap.size + 1) = some k := hk; cases e; omega)
  have HN : Hid (∀ k, (⟨some ⟨w.heap.size + 1, 0, none⟩, 12, 12⟩ : Sl).blk = some k → w.heap.size ≤ k) := fun k hk => by have e : some (w.heap.size + 1) = some k := hk; cases e; omega
  have HB : Hid (Below w.heap.size w W3) := (rBelow hb1 hb2).trans (hfr.below (rBelow hb1 hb2).size (fun k hk => by omega))
  have HMK := hide hmk
  have HST : Hid ((Instr.storeAt 24 (.pointer (some ⟨w.heap.size, 0, none⟩)) (.agg #[.int .i64 1, .int .i64 1, .int .i64 0, .slice (some ⟨w.heap.size + 1, 0, none⟩) 12 12])).run Try.prog W2 = .ok () W3) := hst
  have HBK := hide hbk
  clear hz hz' s1 hb1 hb2 hmk ho hst hbk hfr hsz
  go_enter Try.func19, Try.ntmps19
  go_wp2_with (first | refine wpList_makeT _ rfl 22 (.const (.int .i64 12)) (.const (.int .i64 12)) rfl (.int .i64 12) (.int .i64 12) (.slice (some ⟨w.heap.size + 1, 0, none⟩) 12 12) rfl rfl W2 HMK.out ?_ | refine wpList_store _ rfl rfl 24 (.tmp 0) (.tmp 2) rfl (.pointer (some ⟨w.heap.size, 0, none⟩)) (.agg #[.int .i64 1, .int .i64 1, .int .i64 0, .slice (some ⟨w.heap.size + 1, 0, none⟩) 12 12]) rfl rfl W3 HST.out ?_)
  refine bodyPost_ret (tb_results1 rfl HBK.out _ rfl) rfl ?_
  exact ⟨_, rfl, HO.out, HN.out, HB.out⟩

/-! ### Same -/
set_option maxHeartbeats 8000000 in
set_option maxRecDepth 100000 in
theorem equalE_b (v s : Sl) (l m : List En) (b : Bool) (w : World) (h : Es w v l) (k : Es w s m) (hb : b = decide (l = m)) :
    Calls Try.prog 54 #[.slice v.a v.len v.cap, .slice s.a s.len s.cap] w fun e w' => e = .returned (.bool b) ∧ Below w.heap.size w w' := by
  have HE := hide h
  have HK := hide k
  have hl : l.length = v.len := h.len
  have hk : m.length = s.len := k.len
  have hbig := h.big
  have hbig2 := k.big
  clear h k
  obtain ⟨va, vl, vc⟩ := v
  obtain ⟨sa, sl, sc⟩ := s
  simp only at hl hk hbig hbig2 ⊢
  by_cases h4 : vl = sl
  · subst h4
    have HL := hide hl
    have HLK := hide hk
    have HB := hide hb
    clear hl hk hb
    have H0 := hide (Below.refl w.heap.size w)
    go_enter Try.func54, Try.ntmps54
    go_wp2_with fail
    go_loopw [13] (fun iv wr => ∃ i : Nat, i ≤ vl ∧ iv = .int .i64 (i : Nat) ∧ Hid (∀ j, j < i → l.getD j En.zero = m.getD j En.zero) ∧ Hid (Below w.heap.size w wr)) (fun iv _ => vl - (intOf iv).toNat)
    case atStart => exact ⟨0, Nat.zero_le _, rfl, fun j hj => absurd hj (Nat.not_lt_zero _), H0⟩
    case round =>
      obtain ⟨i, hi, rfl, hix, hbr⟩ := hrel
      rcases Nat.lt_or_ge i vl with hlt | hge
      · have i1 : ((i : Nat) : Int) < ((vl : Nat) : Int) := by omega
        obtain ⟨bb, oo, ha, hx⟩ := (HE.out.keep hbr.out (Nat.le_refl _)).at' i hlt
        replace ha : va = some ⟨bb, oo, none⟩ := ha
        subst ha
        obtain ⟨b2, o2, ha2, hy⟩ := (HK.out.keep hbr.out (Nat.le_refl _)).at' i hlt
        replace ha2 : sa = some ⟨b2, o2, none⟩ := ha2
        subst ha2
        have HX := hide hx
        have HY := hide hy
        clear hx hy
        by_cases hon : l.getD i En.zero = m.getD i En.zero
        · have HN : Hid (∀ j, j < i + 1 → l.getD j En.zero = m.getD j En.zero) := by
            intro j hj
            by_cases e : j = i
            · rw [e]; exact hon
            · exact hix.out j (by omega)
          have HON : Hid ((l.getD i En.zero).beq (m.getD i En.zero) = true) := En.beq_iff.2 hon
          clear hix hon
          go_wp2_with fail
          refine Pl.region_is (ops := Pl.find 6 ((Try.f54.body).getD .skip)) (by kernel_rfl) ?_
          refine equalE6 _ bb oo vl vc b2 o2 vl sc i _ _ true hlt hlt HX.out HY.out HON.out (by rfl) rfl (by rfl) (by rfl) (by rfl) ?_
          intro u1 w1 hb1
          simp only [Act.put, List.setIfInBounds_toArray, List.set_cons_zero, List.set_cons_succ]
          have HB1 := hide (rBelow hbr.out hb1)
          clear hb1
          go_wp2_with fail
          go_roundw
          case rel => exact ⟨i + 1, by omega, by go_num, HN, HB1⟩
          case measure => simp only [intOf]; omega
        · have HON : Hid ((l.getD i En.zero).beq (m.getD i En.zero) = false) := decide_eq_false hon
          have hb : b = false := HB.out.trans (decide_eq_false (fun e => hon (by rw [e])))
          subst hb
          clear hix hon HB
          go_wp2_with fail
          refine Pl.region_is (ops := Pl.find 6 ((Try.f54.body).getD .skip)) (by kernel_rfl) ?_
          refine equalE6 _ bb oo vl vc b2 o2 vl sc i _ _ false hlt hlt HX.out HY.out HON.out (by rfl) rfl (by rfl) (by rfl) (by rfl) ?_
          intro u1 w1 hb1
          simp only [Act.put, List.setIfInBounds_toArray, List.set_cons_zero, List.set_cons_succ]
          have HB1 := hide (rBelow hbr.out hb1)
          clear hb1
          go_wp2_with fail
          go_ret
          exact ⟨rfl, HB1.out⟩
      · have i1 : ¬ ((i : Nat) : Int) < ((vl : Nat) : Int) := by omega
        have hb : b = true := HB.out.trans (decide_eq_true (by
          apply List.ext_getElem
          · rw [HL.out, HLK.out]
          · intro j h1 h2
            have := hix.out j (by rw [HL.out] at h1; omega)
            rw [en_get h1, en_get h2] at this
            exact this))
        subst hb
        clear hix HB
        go_wp2_with fail
        go_ret
        exact ⟨rfl, hbr.out⟩
  · have hb2 : b = false := hb.trans (decide_eq_false (fun e => h4 (by rw [← hl, ← hk, e])))
    subst hb2
    have H0 := hide (Below.refl w.heap.size w)
    have q4 : (((vl : Nat) : Int) != ((sl : Nat) : Int)) = true := by simp; omega
    have q5 : ¬ ((vl : Nat) : Int) = ((sl : Nat) : Int) := by omega
    clear hl hk h4 HE HK hb
    go_enter Try.func54, Try.ntmps54
    go_wp2_with fail
    go_ret
    exact ⟨rfl, H0.out⟩

set_option maxHeartbeats 8000000 in
set_option maxRecDepth 100000 in
theorem lsameT_any (t : Tb) (v : Sl) (u : Tb) (s : Sl) (w : World) (h : Es w v t.es) (k : Es w s u.es) :
    Calls Try.prog 34 #[t.val v, u.val s] w fun e w' => e = .returned (.bool (sameT t u)) ∧ Below w.heap.size w w' := by
  obtain ⟨b, hb0⟩ : ∃ b, b = sameT t u := ⟨_, rfl⟩
  rw [← hb0]
  have hb1 := below_box w t v
  have hb2 := below_box (w.alloc (.cells #[.int .i64 t.nx, .int .i64 t.no, .int .i64 t.cm, .slice v.a v.len v.cap] 24)) u s
  have hb := rBelow hb1 hb2
  have HW := hide hb
  have HE := h.keep hb (Nat.le_refl _)
  have HK := k.keep hb (Nat.le_refl _)
  clear h k hb hb1 hb2
  unfold Tb.val
  by_cases h1 : t.nx = u.nx
  · by_cases h2 : t.no = u.no
    · by_cases h3 : t.cm = u.cm
      · have he : b = decide (t.es = u.es) := by
          rw [hb0]
          unfold sameT
          obtain ⟨a1, a2, a3, a4⟩ := t
          obtain ⟨c1, c2, c3, c4⟩ := u
          simp only at h1 h2 h3
          subst h1; subst h2; subst h3
          simp
        have HEQ := hide (equalE_b v s t.es u.es b _ HE HK he)
        have q1 : (t.nx != u.nx) = false := by simp [h1]
        have q2 : (t.no != u.no) = false := by simp [h2]
        have q3 : (t.cm != u.cm) = false := by simp [h3]
        clear h1 h2 h3 he hb0 HE HK
        go_enter Try.func34, Try.ntmps34
        go_wp2_with fail
        refine HEQ.out.mono ?_
        rintro e w1 ⟨rfl, hb1⟩
        have HB1 := hide (rBelow HW.out hb1)
        clear hb1
        go_wp2_with fail
        go_ret
        exact ⟨rfl, HB1.out⟩
      · have hb2 : b = false := hb0.trans (sameT_no (fun e => h3 (by rw [e])))
        subst hb2
        have q1 : (t.nx != u.nx) = false := by simp [h1]
        have q2 : (t.no != u.no) = false := by simp [h2]
        have q3 : (t.cm != u.cm) = true := by simp [h3]
        clear h1 h2 HE HK hb0
        go_enter Try.func34, Try.ntmps34
        go_wp2_with fail
        go_ret
        exact ⟨rfl, HW.out⟩
    · have hb2 : b = false := hb0.trans (sameT_no (fun e => h2 (by rw [e])))
      subst hb2
      have q1 : (t.nx != u.nx) = false := by simp [h1]
      have q2 : (t.no != u.no) = true := by simp [h2]
      clear h1 HE HK hb0
      go_enter Try.func34, Try.ntmps34
      go_wp2_with fail
      go_ret
      exact ⟨rfl, HW.out⟩
  · have hb2 : b = false := hb0.trans (sameT_no (fun e => h1 (by rw [e])))
    subst hb2
    have q1 : (t.nx != u.nx) = true := by simp [h1]
    clear HE HK hb0
    go_enter Try.func34, Try.ntmps34
    go_wp2_with fail
    go_ret
    exact ⟨rfl, HW.out⟩

/-! ### Which entry is free -/
theorem free_is {t : Tb} (hm : t.May) : freeN t = t.es.findIdx? (fun y => En.zero.beq y) := by
  unfold freeN
  have h : ∀ i, i < t.es.length → isFree (t.es.getD i En.zero) = En.zero.beq (t.es.getD i En.zero) := by
    intro i hi
    have h1 := (hm.ok i (by rw [← hm.len]; exact hi)).free
    unfold Tb.en at h1
    unfold isFree En.beq
    by_cases h0 : (t.es.getD i En.zero).st = 0
    · rw [h1 h0]; rfl
    · rw [decide_eq_false (fun e => h0 (by rw [← e]; rfl))]
      simpa using h0
  cases hf : t.es.findIdx? (fun y => En.zero.beq y) with
  | none => exact idx_no (fun j hj => by rw [h j hj]; exact idx_none hf j hj)
  | some i =>
    obtain ⟨hi, h1, h2⟩ := idx_some hf
    exact idx_is hi (by rw [h i hi]; exact h1) (fun j hj => by rw [h j (by omega)]; exact h2 j hj)

set_option maxHeartbeats 8000000 in
set_option maxRecDepth 100000 in
theorem indexE_any (v : Sl) (l : List En) (w : World) (h : Es w v l) :
    Calls Try.prog 51 #[.slice v.a v.len v.cap, .agg #[.int .i64 0, .int .i64 0, .int .i64 0, .int .i64 0]] w fun e w' => e = .returned (.int .i64 (ixN (l.findIdx? (fun y => En.zero.beq y)))) ∧ Below w.heap.size w w' := by
  have hA := below_alloc w (.cells #[.int .i64 0, .int .i64 0, .int .i64 0, .int .i64 0] 58)
  have HA := hide hA
  have HE := hide (h.keep hA (Nat.le_refl _))
  have HP : Hid (EnBlk (w.alloc (.cells #[.int .i64 0, .int .i64 0, .int .i64 0, .int .i64 0] 58)) w.heap.size En.zero) := EnBlk.new w En.zero
  have hl : l.length = v.len := h.len
  have hbig := h.big
  clear h hA
  obtain ⟨va, vl, vc⟩ := v
  simp only at hl hbig ⊢
  have HL := hide hl
  clear hl
  go_enter Try.func51, Try.ntmps51
  go_wp2_with fail
  generalize w.alloc (.cells #[.int .i64 0, .int .i64 0, .int .i64 0, .int .i64 0] 58) = W at *
  have H0 := hide (Below.refl W.heap.size W)
  go_loopw [8] (fun iv wr => ∃ i : Nat, i ≤ vl ∧ iv = .int .i64 (i : Nat) ∧ Hid (∀ j, j < i → En.zero.beq (l.getD j En.zero) = false) ∧ Hid (Below W.heap.size W wr)) (fun iv _ => vl - (intOf iv).toNat)
  case atStart => exact ⟨0, Nat.zero_le _, rfl, fun j hj => absurd hj (Nat.not_lt_zero _), H0⟩
  case round =>
    obtain ⟨i, hi, rfl, hix, hbr⟩ := hrel
    rcases Nat.lt_or_ge i vl with hlt | hge
    · have i1 : ((i : Nat) : Int) < ((vl : Nat) : Int) := by omega
      obtain ⟨bb, oo, ha, hx⟩ := (HE.out.keep hbr.out (Nat.le_refl _)).at' i hlt
      replace ha : va = some ⟨bb, oo, none⟩ := ha
      subst ha
      have HX := hide hx
      have HPr := hide (HP.out.keep hbr.out)
      clear hx
      cases hon : En.zero.beq (l.getD i En.zero) with
      | true =>
        have HF : Hid (l.findIdx? (fun y => En.zero.beq y) = some i) := idx_is (by rw [HL.out]; exact hlt) hon hix.out
        have HON := hide hon
        clear hix hon
        go_wp2_with fail
        refine Pl.region_is (ops := Pl.find 4 ((Try.f51.body).getD .skip)) (by kernel_rfl) ?_
        refine indexE4 _ bb oo vl vc i w.heap.size _ _ true hlt HPr.out HX.out HON.out (by rfl) rfl (by rfl) (by rfl) (by rfl) ?_
        intro u1 w1 hb1
        simp only [Act.put, List.setIfInBounds_toArray, List.set_cons_zero, List.set_cons_succ]
        have HB1 := hide (rBelow hbr.out hb1)
        clear hb1
        go_wp2_with fail
        go_ret
        exact ⟨by rw [HF.out]; rfl, rBelow HA.out HB1.out⟩
      | false =>
        have HN : Hid (∀ j, j < i + 1 → En.zero.beq (l.getD j En.zero) = false) := by
          intro j hj
          by_cases e : j = i
          · rw [e]; exact hon
          · exact hix.out j (by omega)
        have HON := hide hon
        clear hix hon
        go_wp2_with fail
        refine Pl.region_is (ops := Pl.find 4 ((Try.f51.body).getD .skip)) (by kernel_rfl) ?_
        refine indexE4 _ bb oo vl vc i w.heap.size _ _ false hlt HPr.out HX.out HON.out (by rfl) rfl (by rfl) (by rfl) (by rfl) ?_
        intro u1 w1 hb1
        simp only [Act.put, List.setIfInBounds_toArray, List.set_cons_zero, List.set_cons_succ]
        have HB1 := hide (rBelow hbr.out hb1)
        clear hb1
        go_wp2_with fail
        go_roundw
        case rel => exact ⟨i + 1, by omega, by go_num, HN, HB1⟩
        case measure => simp only [intOf]; omega
    · have i1 : ¬ ((i : Nat) : Int) < ((vl : Nat) : Int) := by omega
      have HF : Hid (l.findIdx? (fun y => En.zero.beq y) = none) := idx_no (fun j hj => hix.out j (by rw [HL.out] at hj; omega))
      clear hix
      go_wp2_with fail
      go_ret
      exact ⟨by rw [HF.out]; rfl, rBelow HA.out hbr.out⟩

/-! ### Live -/
set_option maxHeartbeats 8000000 in
set_option maxRecDepth 100000 in
theorem llive_no (t : Tb) (v : Sl) (w : World) (h : Es w v t.es) (hm : mayB t = false) :
    Calls Try.prog 12 #[t.val v] w fun e w' => e = .returned (.slice none 0 0) ∧ Below w.heap.size w w' := by
  have hA := below_box w t v
  have HA := hide hA
  have HLD := hide (load_tb w.heap.size t v _ (TbBlk.new w t v))
  have HC := hide (checkT_no hm v _ (h.keep hA (Nat.le_refl _)))
  clear h hA hm
  unfold Tb.val
  go_enter Try.func12, Try.ntmps12
  go_wp2_with (refine wpList_load _ rfl 24 (.tmp 1) rfl (.pointer (some ⟨w.heap.size, 0, none⟩)) (t.val v) rfl HLD.out ?_)
  refine HC.out.mono ?_
  rintro e w1 ⟨rfl, hb1⟩
  have HB1 := hide (rBelow HA.out hb1)
  clear hb1
  go_wp2_with fail
  go_ret
  exact ⟨rfl, HB1.out⟩

set_option maxHeartbeats 8000000 in
set_option maxRecDepth 100000 in
theorem llive_yes (t : Tb) (v : Sl) (w : World) (h : Es w v t.es) (hm : t.May) :
    Calls Try.prog 12 #[t.val v] w fun e w' => ∃ s, e = .returned s ∧ OwnsV 3 w' w.heap.size s (kVals (liveT t)) ∧ Below w.heap.size w w' := by
  have hA := below_box w t v
  have HA := hide hA
  have hl : t.es.length = v.len := h.len
  have HT := hide (TbBlk.new w t v)
  have HLD := hide (load_tb w.heap.size t v _ HT.out)
  have HC := hide (checkT_yes hm v _ (h.keep hA (Nat.le_refl _)))
  have HE := hide (h.keep hA (Nat.le_refl _))
  have z6 : v.len = 12 := by rw [← hl]; exact hm.len
  clear h hA hm
  obtain ⟨va, vl, vc⟩ := v
  simp only at hl z6
  subst z6
  have HL := hide hl
  clear hl
  unfold Tb.val
  go_enter Try.func12, Try.ntmps12
  go_wp2_with (refine wpList_load _ rfl 24 (.tmp 1) rfl (.pointer (some ⟨w.heap.size, 0, none⟩)) (t.val ⟨va, 12, vc⟩) rfl HLD.out ?_)
  refine HC.out.mono ?_
  rintro e w1 ⟨rfl, hb1⟩
  have HB1 := hide (rBelow HA.out hb1)
  have HE1 := hide (HE.out.keep hb1 (Nat.le_refl _))
  have d3 := (HT.out.keep hb1).c3
  have HO0 : Hid (OwnsV 3 w1 w1.heap.size (.slice none 0 0) (kVals (liveP t 0))) := OwnsV.nil _ _ _
  have H0 := hide (Below.refl w1.heap.size w1)
  clear hb1 HE HT HLD HC
  go_wp2_with fail
  clear d3
  go_loopw [3, 12] (fun svx iv wr => ∃ (i : Nat) (sv : Value), sv = svx ∧ i ≤ 12 ∧ iv = .int .i64 (i : Nat) ∧ Hid (OwnsV 3 wr w1.heap.size sv (kVals (liveP t i))) ∧ Hid (Below w1.heap.size w1 wr)) (fun _ iv _ => 12 - (intOf iv).toNat)
  case atStart => exact ⟨0, _, rfl, Nat.zero_le _, rfl, HO0, H0⟩
  case round =>
    obtain ⟨i, sv, rfl, hi, rfl, hox, hbr⟩ := hrel
    rename World => wo
    rcases Nat.lt_or_ge i 12 with hlt | hge
    · have i1 : ((i : Nat) : Int) < 12 := by omega
      obtain ⟨b, off, ha, hat⟩ := (HE1.out.keep hbr.out (Nat.le_refl _)).at' i hlt
      replace ha : va = some ⟨b, off, none⟩ := ha
      subst ha
      obtain ⟨x, hx⟩ : ∃ x, x = t.es.getD i En.zero := ⟨_, rfl⟩
      rw [← hx] at hat
      have c0 := hat.c0
      have c1 := hat.c1
      have c2 := hat.c2
      have c3 := hat.c3
      have HS := hide (liveP_succ (t := t) (k := i) (by rw [HL.out]; exact hlt))
      have hxe : t.en i = x := hx.symm
      rw [hxe] at HS
      have hB4 := below_alloc wo (.cells #[.int .i64 x.tx, .int .i64 x.st, .int .i64 x.last, .int .i64 x.com] 58)
      have HX4 := hide (EnBlk.new wo x)
      have HBR := hide (rBelow hbr.out hB4)
      have HO4 := hide (hox.out.keep hB4 (Nat.le_refl _))
      have HS4 : Hid ((wo.alloc (.cells #[.int .i64 x.tx, .int .i64 x.st, .int .i64 x.last, .int .i64 x.com] 58)).heap.size = wo.heap.size + 1) := by show _ = _; simp
      clear hat hx hxe hB4 hox
      generalize hW4 : wo.alloc (.cells #[.int .i64 x.tx, .int .i64 x.st, .int .i64 x.last, .int .i64 x.com] 58) = W4 at *
      have g0 : W4.cell? ⟨wo.heap.size, 0, none⟩ = some (.int .i64 x.tx) := HX4.out.at.c0
      have g1 : W4.cell? ⟨wo.heap.size, 1, none⟩ = some (.int .i64 x.st) := HX4.out.at.c1
      by_cases h1 : x.st = 1
      · have HS' : Hid (kVals (liveP t (i + 1)) = kVals (liveP t i) ++ [.int .i64 x.tx]) := by show _ = _; rw [HS.out, if_pos h1]; simp [kVals]
        have q1 : (x.st == 1) = true := by simp [h1]
        have HV := hide (vs_one 3 W4 (.int .i64 x.tx) rfl)
        have hB5 := below_alloc W4 (.cells #[.int .i64 x.tx] 3)
        have HO5 := hide (HO4.out.keep hB5 (Nat.le_refl _))
        have HB5 := hide (rBelow HBR.out hB5)
        have HLEN : Hid ((kVals (liveP t i)).length + 1 ≤ 1000000) := by
          show _ ≤ _
          have := liveP_len t i
          simp only [kVals, List.length_map]
          omega
        clear HS hB5 h1 HO4
        go_wp2_with (at_builtin; refine wpList_append_vals oneIntT _ rfl (.tmp 19) (.tmp 22) rfl w1.heap.size _ _ rfl HO5.out _ _ _ [.int .i64 x.tx] rfl HV.out (fun h => by cases h) HLEN.out HB5.out.size ?_)
        intro v1 w2 ho1 hb1 hs1
        have HO2 : Hid (OwnsV 3 w2 w1.heap.size v1 (kVals (liveP t (i + 1)))) := by show OwnsV _ _ _ _ _; rw [HS'.out]; exact ho1
        have HB2 : Hid (Below w1.heap.size w1 w2) := HB5.out.trans hb1
        clear ho1 hb1 hs1
        go_wp2_with fail
        go_roundw
        case rel => exact ⟨i + 1, _, rfl, by omega, by go_num, HO2, HB2⟩
        case measure => simp only [intOf]; omega
      · have HO2 : Hid (OwnsV 3 W4 w1.heap.size sv (kVals (liveP t (i + 1)))) := by show OwnsV _ _ _ _ _; rw [HS.out, if_neg h1, List.append_nil]; exact HO4.out
        have q1 : (x.st == 1) = false := by simp [h1]
        clear HS h1 HO4
        go_wp2_with fail
        go_roundw
        case rel => exact ⟨i + 1, _, rfl, by omega, by go_num, HO2, HBR⟩
        case measure => simp only [intOf]; omega
    · have i1 : ¬ ((i : Nat) : Int) < 12 := by omega
      have e : i = t.es.length := by rw [HL.out]; omega
      have HO2 : Hid (OwnsV 3 wo w1.heap.size sv (kVals (liveT t))) := by show OwnsV _ _ _ _ _; rw [← liveP_all, ← e]; exact hox.out
      clear hox e
      go_wp2_with fail
      go_ret
      exact ⟨_, rfl, HO2.out.lower HB1.out.size, rBelow HB1.out hbr.out⟩

/-! ### Eldest -/
/-- Which entry is the eldest so far; the zero one, where there is none. -/
def eldE (t : Tb) (k : Nat) : En := match eldN t k with
  | none => En.zero
  | some j => t.en j
theorem eldE_tx {t : Tb} (hm : t.May) {k : Nat} (hk : k ≤ 12) : ((eldE t k).tx = 0 ↔ eldN t k = none) := by
  unfold eldE
  cases h : eldN t k with
  | none => exact ⟨fun _ => rfl, fun _ => rfl⟩
  | some j =>
    have h1 := (eldN_says t k).1 j h
    have h2 := (hm.ok j (by omega)).tx (by rw [h1.2.1]; decide)
    constructor
    · intro e
      simp only at e
      omega
    · intro e; cases e
theorem eldE_end {t : Tb} : (eldE t t.es.length).tx = eldestT t := by
  unfold eldE eldestT
  cases eldN t t.es.length <;> rfl
theorem eldE_new {t : Tb} (hm : t.May) {k : Nat} (hk : k < 12) (h2 : (t.en k).st = 2) (hn : (eldE t k).tx = 0 ∨ (t.en k).com < (eldE t k).com) : eldE t (k + 1) = t.en k := by
  have hc : ∀ j, eldN t k = some j → (t.en k).com < (t.en j).com := by
    intro j hj
    rcases hn with h0 | h0
    · rw [(eldE_tx hm (by omega)).1 h0] at hj; cases hj
    · unfold eldE at h0
      rw [hj] at h0
      exact h0
  unfold eldE
  rw [eldN_succ, if_pos ⟨h2, hc⟩]
theorem eldE_old {t : Tb} (hm : t.May) {k : Nat} (hk : k < 12) (hn : (t.en k).st ≠ 2 ∨ ¬ ((eldE t k).tx = 0 ∨ (t.en k).com < (eldE t k).com)) : eldE t (k + 1) = eldE t k := by
  have e : eldN t (k + 1) = eldN t k := by
    rw [eldN_succ, if_neg]
    rintro ⟨h2, h3⟩
    rcases hn with h | h
    · exact h h2
    · apply h
      cases hel : eldN t k with
      | none => exact .inl ((eldE_tx hm (by omega)).2 hel)
      | some j =>
        refine .inr ?_
        unfold eldE
        rw [hel]
        exact h3 j hel
  unfold eldE
  rw [e]

set_option maxHeartbeats 8000000 in
set_option maxRecDepth 100000 in
theorem leld_no (t : Tb) (v : Sl) (w : World) (h : Es w v t.es) (hm : mayB t = false) :
    Calls Try.prog 13 #[t.val v] w fun e w' => e = .returned (.int .i64 0) ∧ Below w.heap.size w w' := by
  have hA := below_box w t v
  have HA := hide hA
  have HLD := hide (load_tb w.heap.size t v _ (TbBlk.new w t v))
  have HC := hide (checkT_no hm v _ (h.keep hA (Nat.le_refl _)))
  clear h hA hm
  unfold Tb.val
  go_enter Try.func13, Try.ntmps13
  go_wp2_with (refine wpList_load _ rfl 24 (.tmp 1) rfl (.pointer (some ⟨w.heap.size, 0, none⟩)) (t.val v) rfl HLD.out ?_)
  refine HC.out.mono ?_
  rintro e w1 ⟨rfl, hb1⟩
  have HB1 := hide (rBelow HA.out hb1)
  clear hb1
  go_wp2_with fail
  go_ret
  exact ⟨rfl, HB1.out⟩

set_option maxHeartbeats 8000000 in
set_option maxRecDepth 100000 in
theorem leld_yes (t : Tb) (v : Sl) (w : World) (h : Es w v t.es) (hm : t.May) :
    Calls Try.prog 13 #[t.val v] w fun e w' => e = .returned (.int .i64 (eldestT t)) ∧ Below w.heap.size w w' := by
  have hA := below_box w t v
  have HA := hide hA
  have hl : t.es.length = v.len := h.len
  have HT := hide (TbBlk.new w t v)
  have HLD := hide (load_tb w.heap.size t v _ HT.out)
  have HC := hide (checkT_yes hm v _ (h.keep hA (Nat.le_refl _)))
  have HE := hide (h.keep hA (Nat.le_refl _))
  have z6 : v.len = 12 := by rw [← hl]; exact hm.len
  have HM := hide hm
  clear h hA hm
  obtain ⟨va, vl, vc⟩ := v
  simp only at hl z6
  subst z6
  have HL := hide hl
  clear hl
  unfold Tb.val
  go_enter Try.func13, Try.ntmps13
  go_wp2_with (refine wpList_load _ rfl 24 (.tmp 1) rfl (.pointer (some ⟨w.heap.size, 0, none⟩)) (t.val ⟨va, 12, vc⟩) rfl HLD.out ?_)
  refine HC.out.mono ?_
  rintro e w1 ⟨rfl, hb1⟩
  have HB1 := hide (rBelow HA.out hb1)
  have HE1 := hide (HE.out.keep hb1 (Nat.le_refl _))
  have hBz := below_alloc w1 (.cells #[.int .i64 0, .int .i64 0, .int .i64 0, .int .i64 0] 58)
  have d3 := ((HT.out.keep hb1).keep hBz).c3
  have HZ : Hid (EnBlk (w1.alloc (.cells #[.int .i64 0, .int .i64 0, .int .i64 0, .int .i64 0] 58)) w1.heap.size (eldE t 0)) := EnBlk.new w1 En.zero
  have HZB := hide hBz
  clear hb1 HE HT HLD HC hBz
  go_wp2_with fail
  generalize w1.alloc (.cells #[.int .i64 0, .int .i64 0, .int .i64 0, .int .i64 0] 58) = Wz at *
  clear d3
  go_loopw [12] (fun iv wr => ∃ i : Nat, i ≤ 12 ∧ iv = .int .i64 (i : Nat) ∧ Hid (EnBlk wr w1.heap.size (eldE t i)) ∧ Hid (Below w1.heap.size w1 wr)) (fun iv _ => 12 - (intOf iv).toNat)
  case atStart => exact ⟨0, Nat.zero_le _, rfl, HZ, HZB⟩
  case round =>
    obtain ⟨i, hi, rfl, hox, hbr⟩ := hrel
    rename World => wo
    rcases Nat.lt_or_ge i 12 with hlt | hge
    · have i1 : ((i : Nat) : Int) < 12 := by omega
      obtain ⟨b, off, ha, hat⟩ := (HE1.out.keep hbr.out (Nat.le_refl _)).at' i hlt
      replace ha : va = some ⟨b, off, none⟩ := ha
      subst ha
      obtain ⟨x, hx⟩ : ∃ x, x = t.en i := ⟨_, rfl⟩
      have hat' : EnAt wo b (off + i * 4) x := by rw [hx]; exact hat
      have c0 := hat'.c0
      have c1 := hat'.c1
      have c2 := hat'.c2
      have c3 := hat'.c3
      have HX := hide hx
      obtain ⟨z, hz⟩ : ∃ z, z = eldE t i := ⟨_, rfl⟩
      have HZE := hide hz
      have hoz : EnBlk wo w1.heap.size z := by rw [hz]; exact hox.out
      have hB4 := below_alloc wo (.cells #[.int .i64 x.tx, .int .i64 x.st, .int .i64 x.last, .int .i64 x.com] 58)
      have HX4 := hide (EnBlk.new wo x)
      have HBR := hide (rBelow hbr.out hB4)
      have HO4 := hide (hoz.keep hB4)
      have HLT : Hid (w1.heap.size < wo.heap.size) := hoz.lt
      have HS4 : Hid ((wo.alloc (.cells #[.int .i64 x.tx, .int .i64 x.st, .int .i64 x.last, .int .i64 x.com] 58)).heap.size = wo.heap.size + 1) := by show _ = _; simp
      clear hat hat' hx hB4 hox hz hoz
      generalize hW4 : wo.alloc (.cells #[.int .i64 x.tx, .int .i64 x.st, .int .i64 x.last, .int .i64 x.com] 58) = W4 at *
      have g1 : W4.cell? ⟨wo.heap.size, 1, none⟩ = some (.int .i64 x.st) := HX4.out.at.c1
      have g3 : W4.cell? ⟨wo.heap.size, 3, none⟩ = some (.int .i64 x.com) := HX4.out.at.c3
      have m0 : W4.cell? ⟨w1.heap.size, 0, none⟩ = some (.int .i64 z.tx) := HO4.out.at.c0
      have m3 : W4.cell? ⟨w1.heap.size, 3, none⟩ = some (.int .i64 z.com) := HO4.out.at.c3
      by_cases h2 : x.st = 2
      · have q1 : (x.st != 2) = false := by simp [h2]
        by_cases h3 : z.tx = 0
        · have HN : Hid (eldE t (i + 1) = x) := by show _ = _; rw [HX.out]; exact eldE_new HM.out hlt (by rw [← HX.out]; exact h2) (.inl (by rw [← HZE.out]; exact h3))
          have q2 : (z.tx == 0) = true := by simp [h3]
          obtain ⟨W5, hst, e5, f5, s5⟩ := HO4.out.store x
          have HO5 : Hid (EnBlk W5 w1.heap.size (eldE t (i + 1))) := by show EnBlk _ _ _; rw [HN.out]; exact e5
          have HB5 : Hid (Below w1.heap.size w1 W5) := HBR.out.trans (f5.below HBR.out.size (fun k hk => by omega))
          have HST := hide hst
          have HLX := hide (load_en wo.heap.size 0 x W4 HX4.out.at)
          clear h2 h3 hst e5 f5 s5 HN HZE
          go_wp2_with (first | refine wpList_load _ rfl 58 (.tmp 5) rfl (.pointer (some ⟨wo.heap.size, 0, none⟩)) x.val rfl HLX.out ?_ | refine wpList_store _ rfl rfl 58 (.tmp 3) (.tmp 29) rfl (.pointer (some ⟨w1.heap.size, 0, none⟩)) x.val rfl rfl W5 HST.out ?_)
          go_roundw
          case rel => exact ⟨i + 1, by omega, by go_num, HO5, HB5⟩
          case measure => simp only [intOf]; omega
        · have q2 : (z.tx == 0) = false := by simp [h3]
          by_cases h4 : x.com < z.com
          · have HN : Hid (eldE t (i + 1) = x) := by show _ = _; rw [HX.out]; exact eldE_new HM.out hlt (by rw [← HX.out]; exact h2) (.inr (by rw [← HZE.out, ← HX.out]; exact h4))
            obtain ⟨W5, hst, e5, f5, s5⟩ := HO4.out.store x
            have HO5 : Hid (EnBlk W5 w1.heap.size (eldE t (i + 1))) := by show EnBlk _ _ _; rw [HN.out]; exact e5
            have HB5 : Hid (Below w1.heap.size w1 W5) := HBR.out.trans (f5.below HBR.out.size (fun k hk => by omega))
            have HST := hide hst
            have HLX := hide (load_en wo.heap.size 0 x W4 HX4.out.at)
            clear h2 h3 hst e5 f5 s5 HN HZE
            go_wp2_with (first | refine wpList_load _ rfl 58 (.tmp 5) rfl (.pointer (some ⟨wo.heap.size, 0, none⟩)) x.val rfl HLX.out ?_ | refine wpList_store _ rfl rfl 58 (.tmp 3) (.tmp 29) rfl (.pointer (some ⟨w1.heap.size, 0, none⟩)) x.val rfl rfl W5 HST.out ?_)
            go_roundw
            case rel => exact ⟨i + 1, by omega, by go_num, HO5, HB5⟩
            case measure => simp only [intOf]; omega
          · have HO5 : Hid (EnBlk W4 w1.heap.size (eldE t (i + 1))) := by
              show EnBlk _ _ _
              rw [eldE_old HM.out hlt (.inr (fun k => k.elim (fun k => h3 (by rw [HZE.out]; exact k)) (fun k => h4 (by rw [HZE.out, HX.out]; exact k)))), ← HZE.out]
              exact HO4.out
            clear h2 h3 HZE HO4
            go_wp2_with fail
            go_roundw
            case rel => exact ⟨i + 1, by omega, by go_num, HO5, HBR⟩
            case measure => simp only [intOf]; omega
      · have q1 : (x.st != 2) = true := by simp [h2]
        have HO5 : Hid (EnBlk W4 w1.heap.size (eldE t (i + 1))) := by
          show EnBlk _ _ _
          rw [eldE_old HM.out hlt (.inl (by rw [← HX.out]; exact h2)), ← HZE.out]
          exact HO4.out
        clear h2 HZE HO4
        go_wp2_with fail
        go_roundw
        case rel => exact ⟨i + 1, by omega, by go_num, HO5, HBR⟩
        case measure => simp only [intOf]; omega
    · have i1 : ¬ ((i : Nat) : Int) < 12 := by omega
      have e : i = t.es.length := by rw [HL.out]; omega
      have g0 : wo.cell? ⟨w1.heap.size, 0, none⟩ = some (.int .i64 (eldestT t)) := by
        rw [← eldE_end, ← e]
        exact hox.out.at.c0
      clear hox e
      go_wp2_with fail
      go_ret
      exact ⟨rfl, rBelow HB1.out hbr.out⟩

end Go.Proofs.Ytdbgbldmjgonjaa
