/-
  The document's Of of layer 16. (Written by gen_vwf.py.)
-/
import Derived.Test.YtehmemfeagjagaaVwE
import Derived.Deep.Cut
namespace Go.Proofs.Ytehmemfeagjagaa
open Go.RowKit
set_option maxRecDepth 100000
set_option linter.unusedVariables false

/-- What Of tells: a view with numbers of its own. -/
def OfTold (w : World) (o : Option Vw) (mk : Value → Bool → Value) (e : Ending) (w' : World) : Prop :=
  Below w.heap.size w w' ∧ ∃ (v : Vw) (s' : Sl) (ok : Bool), e = .returned (mk (vwV v s') ok) ∧ Gi (fun k => w.heap.size ≤ k) w' s' v.act ∧ ((o = some v ∧ ok = true) ∨ (o = none ∧ v = Vw.zero ∧ ok = false))
theorem gi_nil (D : Nat → Prop) (w : World) : Gi D w Sl.nil [] := ⟨rfl, fun _ => rfl, Nat.le_refl _, Nat.zero_le _, fun _ h => (by cases h), fun i hi => absurd hi (Nat.not_lt_zero _)⟩
theorem OfTold.no {w w' : World} {o : Option Vw} {mk : Value → Bool → Value} (h : o = none) (hb : Below w.heap.size w w') : OfTold w o mk (.returned (mk (.agg #[.int .i64 0, .int .i64 0, .slice none 0 0]) false)) w' :=
  ⟨hb, Vw.zero, Sl.nil, false, rfl, gi_nil _ _, .inr ⟨h, rfl, rfl⟩⟩
/-- A view is laid into its box. -/
theorem stVw {w : World} {p : Nat} {v : Vw} {s : Sl} (k : VwBlk w p v s) (v' : Vw) (s' : Sl) : ∃ W, (Instr.storeAt 25 (.pointer (some ⟨p, 0, none⟩)) (vwV v' s')).run Try.prog w = .ok () W ∧ VwBlk W p v' s' ∧ Frm (fun k => k = p) w W ∧ W.heap.size = w.heap.size := by
  have c0 := k.c0
  have c1 := k.c1
  have c2 := k.c2
  have f0 := k.fz
  refine ⟨((w.setCell ⟨p, 0, none⟩ (.int .i64 v'.self)).setCell ⟨p, 1, none⟩ (.int .i64 v'.next)).setCell ⟨p, 2, none⟩ s'.val, by simp [go_sem, Instr.storeAt, stored, c0, c1, c2, f0, vwV, Sl.val], ?_, (((Frm.refl (fun k => k = p) w).setCell (p := ⟨p, 0, none⟩) rfl _).setCell (p := ⟨p, 1, none⟩) rfl _).setCell (p := ⟨p, 2, none⟩) rfl _, by simp⟩
  unfold VwBlk at k ⊢
  have h1 := heap_setCell_same w p 0 _ 25 (.int .i64 v'.self) k
  have h2 := heap_setCell_same _ p 1 _ 25 (.int .i64 v'.next) h1
  rw [heap_setCell_same _ p 2 _ 25 s'.val h2]
  rfl

theorem vw_results2 {fn : Func} {x : Nat} {y : Nat} (hr : fn.results = #[.cell x 25, .tmp y]) {W : World} {g : Nat} {v : Vw} {s : Sl} (h : VwBlk W g v s) (tmps : Array Value) (vy : Value) (hy : tmps.getD y undef = vy) (ht : tmps.getD x undef = .pointer (some ⟨g, 0, none⟩)) : (results fn tmps).run Try.prog W = .ok (.tuple #[vwV v s, vy]) W := by
  have c0 := h.c0
  have c1 := h.c1
  have c2 := h.c2
  rw [Array.getD_eq_getD_getElem?] at ht hy
  unfold Sl.val at c2
  unfold results
  rw [hr]
  simp [go_sem, ht, hy, c0, c1, c2, vwV, Sl.val]

/-- What stands between two rounds. -/
structure OfI (w wr : World) (me next : Int) (live : List Int) (i : Nat) (s8 : Sl) : Prop where
  box : VwBlk wr (w.heap.size + 1) ⟨me, next, actsV me next (live.take i)⟩ s8
  own : OwnN wr s8 (actsV me next (live.take i))
  home : ∀ k, s8.blk = some k → w.heap.size + 2 ≤ k
  res : VwBlk wr w.heap.size Vw.zero Sl.nil
  below : Below w.heap.size w wr
  pos : ∀ j, j < i → 1 ≤ live.getD j 0
theorem OfI.skip {w wr w' : World} {me next : Int} {live : List Int} {i : Nat} {s8 : Sl} (h : OfI w wr me next live i s8) (hb : Below wr.heap.size wr w') (hi : i < live.length) (hp : 1 ≤ live.getD i 0) (hs : next ≤ live.getD i 0 ∨ live.getD i 0 = me ∨ live.getD i 0 ∈ actsV me next (live.take i)) : OfI w w' me next live (i + 1) s8 := by
  have e : actsV me next (live.take (i + 1)) = actsV me next (live.take i) := by rw [actsV_take me next hi]; exact if_pos hs
  refine ⟨by rw [e]; exact h.box.keep hb, by rw [e]; exact Own.frame h.own (fun k hk => hb.block k (Own.lt h.own hk)), h.home, h.res.keep hb, rBelow h.below hb, fun j hj => ?_⟩
  by_cases e2 : j = i
  · rw [e2]; exact hp
  · exact h.pos j (by omega)
theorem OfI.more {w wr w' : World} {me next : Int} {live : List Int} {i : Nat} {s8 s9 : Sl} (h : OfI w wr me next live i s8) {acc : List Int} (ha : acc = actsV me next (live.take i)) {t : Int} (ht : t = live.getD i 0) (hi : i < live.length) (hp : 1 ≤ t) (hs : ¬ (next ≤ t ∨ t = me ∨ t ∈ acc))
    (hb : VwBlk w' (w.heap.size + 1) ⟨me, next, acc.take (atV acc t) ++ t :: acc.drop (atV acc t)⟩ s9) (ho : OwnN w' s9 (acc.take (atV acc t) ++ t :: acc.drop (atV acc t))) (hh : ∀ k, s9.blk = some k → wr.heap.size ≤ k) (hf : Frm (fun k => k = w.heap.size + 1) wr w') : OfI w w' me next live (i + 1) s9 := by
  have e : actsV me next (live.take (i + 1)) = acc.take (atV acc t) ++ t :: acc.drop (atV acc t) := by
    rw [actsV_take me next hi, ← ha, ← ht]
    exact if_neg hs
  refine ⟨by rw [e]; exact hb, by rw [e]; exact ho, fun k hk => ?_, h.res.frm hf (by omega), h.below.trans (hf.below h.below.size (fun k hk => by rw [hk]; exact Nat.le_succ _)), fun j hj => ?_⟩
  · have h1 := hh k hk
    have h2 := h.box.lt
    omega
  · by_cases e2 : j = i
    · rw [e2, ← ht]; exact hp
    · exact h.pos j (by omega)

set_option maxHeartbeats 16000000 in
set_option maxRecDepth 100000 in
theorem rof_any {D : Nat → Prop} (w : World) (s : Sl) (live : List Int) (h : Gi D w s live) (hlen : s.len ≤ 200) (me next : Int) :
    Calls Try.prog 9 #[.int .i64 me, .int .i64 next, s.val] w (OfTold w (ofV me next live) (fun x ok => .tuple #[x, .bool ok])) := by
  obtain ⟨a, len, cap⟩ := s
  have hl : len ≤ 200 := hlen
  have HL : Hid (live.length = len) := h.len
  have H := hide h
  obtain ⟨o, ho⟩ : ∃ o, o = ofV me next live := ⟨_, rfl⟩
  rw [← ho]
  have HO := hide ho
  have hA1 := below_alloc w (.cells #[.int .i64 0, .int .i64 0, .slice none 0 0] 25)
  have hA2 := below_alloc (w.alloc (.cells #[.int .i64 0, .int .i64 0, .slice none 0 0] 25)) (.cells #[.int .i64 me, .int .i64 next, .slice none 0 0] 25)
  have hI : OfI w ((w.alloc (.cells #[.int .i64 0, .int .i64 0, .slice none 0 0] 25)).alloc (.cells #[.int .i64 me, .int .i64 next, .slice none 0 0] 25)) me next live 0 Sl.nil := by
    have b8 := vwBlk_new (w.alloc (.cells #[.int .i64 0, .int .i64 0, .slice none 0 0] 25)) ⟨me, next, []⟩ Sl.nil
    rw [alloc_size] at b8
    exact ⟨b8, Own.nil _ _ _, fun k hk => (by cases hk), (vwBlk_new w Vw.zero Sl.nil).keep hA2, rBelow hA1 hA2, fun j hj => absurd hj (Nat.not_lt_zero _)⟩
  have HI := hide hI
  clear h hlen ho hA1 hA2 hI
  unfold Sl.val
  simp only
  go_enter Try.func9, Try.ntmps9
  go_wp2_with fail
  go_loopw [9] (fun iv wr => ∃ (i : Nat) (s8 : Sl), i ≤ len ∧ iv = .int .i64 (i : Nat) ∧ Hid (OfI w wr me next live i s8)) (fun iv _ => len - (intOf iv).toNat)
  case atStart => exact ⟨0, Sl.nil, Nat.zero_le _, rfl, HI⟩
  case round =>
    obtain ⟨i, s8, hi, rfl, hoi⟩ := hrel
    clear HI
    rcases Nat.lt_or_ge i len with hlt | hge
    · have i1 : ((i : Nat) : Int) < ((len : Nat) : Int) := by omega
      have HGW := hide (H.out.below hoi.out.below (Nat.le_refl _))
      obtain ⟨bb, oo, ha, c0⟩ := HGW.out.cell i hlt
      replace ha : a = some ⟨bb, oo, none⟩ := ha
      subst ha
      obtain ⟨t, ht⟩ : ∃ t, t = live.getD i 0 := ⟨_, rfl⟩
      rw [← ht] at c0
      have HT := hide ht
      have HIL : Hid (i < live.length) := by show _ < _; rw [HL.out]; exact hlt
      clear ht HGW
      by_cases hlow : t < 1
      · obtain ⟨W, hst, hk, hf, hz⟩ := stVw hoi.out.res Vw.zero Sl.nil
        have HST := hide hst
        have HOT : Hid (OfTold w o (fun x ok => .tuple #[x, .bool ok]) (.returned (.tuple #[.agg #[.int .i64 0, .int .i64 0, .slice none 0 0], .bool false])) W) := by
          refine OfTold.no (mk := fun x ok => .tuple #[x, .bool ok]) ?_ (hoi.out.below.trans (hf.below hoi.out.below.size (fun k hk => by rw [hk]; exact Nat.le_refl _)))
          rw [HO.out]
          exact ofV_low (x := t) (by rw [HT.out]; exact mem_getD0 HIL.out) hlow
        have HKW := hide hk
        unfold Vw.zero Sl.nil vwV Sl.val at HST
        simp only at HST
        clear hst hk hf hz hoi HO
        go_wp2_with (first | refine wpList_store _ rfl rfl 25 (.tmp 6) (.tmp 27) rfl (.pointer (some ⟨w.heap.size, 0, none⟩)) _ rfl rfl W HST.out ?_)
        refine bodyPost_ret (vw_results2 rfl HKW.out _ _ rfl rfl) rfl ?_
        exact HOT.out
      · have HP : Hid (1 ≤ t) := by show _ ≤ _; omega
        by_cases hn : next ≤ t
        · have HN := hide (hoi.out.skip (Below.refl _ _) HIL.out (by rw [← HT.out]; exact HP.out) (.inl (by rw [← HT.out]; exact hn)))
          have hn' : t ≥ next := hn
          clear hoi hn
          go_wp2_with fail
          go_roundw
          case rel => exact ⟨i + 1, s8, by omega, by go_num, HN⟩
          case measure => simp only [intOf]; omega
        · have hn' : ¬ t ≥ next := hn
          by_cases hse : t = me
          · have HN := hide (hoi.out.skip (Below.refl _ _) HIL.out (by rw [← HT.out]; exact HP.out) (.inr (.inl (by rw [← HT.out]; exact hse))))
            have bse : (t == me) = true := by rw [hse]; exact beq_self_eq_true _
            clear hoi hn hse
            go_wp2_with fail
            go_roundw
            case rel => exact ⟨i + 1, s8, by omega, by go_num, HN⟩
            case measure => simp only [intOf]; omega
          · have bse : (t == me) = false := beq_eq_false_iff_ne.2 hse
            obtain ⟨acc, hac⟩ : ∃ acc, acc = actsV me next (live.take i) := ⟨_, rfl⟩
            have HAC := hide hac
            have hown := hoi.out.own
            have hbox := hoi.out.box
            rw [← hac] at hown hbox
            have hle : acc.length ≤ len := by
              rw [hac]
              have := actsV_len me next (live.take i)
              rw [List.length_take] at this
              omega
            have hl8 := hown.len
            have HIN := hide (rin_any (D := fun _ => True) wr s8 acc (hown.gi (fun _ _ => trivial) (by omega)) t)
            have HOW := hide hown
            have HBX := hide hbox
            have b0 := hbox.c0
            have b2 := hbox.c2
            obtain ⟨c, hc⟩ : ∃ c, c = acc.contains t := ⟨_, rfl⟩
            rw [← hc] at HIN
            have HC := hide hc
            obtain ⟨s8a, s8n, s8c⟩ := s8
            unfold Sl.val at HIN b2
            simp only at HIN b0 b2 hl8
            have HL8 := hide hl8
            have HN8 : Hid (s8n ≤ 200) := by show _ ≤ _; omega
            clear hac hown hbox hc hle hl8
            go_wp2_with fail
            refine HIN.out.mono ?_
            rintro e w2 ⟨rfl, hb2⟩
            have HB2 := hide hb2
            clear hb2 HIN b0 b2 c0
            cases c with
            | true =>
              have HN := hide (hoi.out.skip HB2.out HIL.out (by rw [← HT.out]; exact HP.out) (.inr (.inr (by rw [← HT.out, ← HAC.out]; simpa using HC.out.symm))))
              clear hoi hn HOW HBX
              go_wp2_with fail
              go_roundw
              case rel => exact ⟨i + 1, ⟨s8a, s8n, s8c⟩, by omega, by go_num, HN⟩
              case measure => simp only [intOf]; omega
            | false =>
              have HNO : Hid (¬ (next ≤ t ∨ t = me ∨ t ∈ acc)) := by
                rintro (e | e | e)
                · omega
                · exact hse e
                · have := HC.out
                  rw [show acc.contains t = true by simpa using e] at this
                  cases this
              have HO2 : Hid (OwnN w2 ⟨s8a, s8n, s8c⟩ acc) := Own.frame HOW.out (fun k hk => HB2.out.block k (Own.lt HOW.out hk))
              have HX2 := hide (HBX.out.keep HB2.out)
              have HA : Hid (atV acc t ≤ s8n) := by show _ ≤ _; rw [← HL8.out]; exact atV_le acc t
              obtain ⟨ay, hay⟩ : ∃ ay, ay = atV acc t := ⟨_, rfl⟩
              rw [← hay] at HA
              have HAY := hide hay
              have b2 := HX2.out.c2
              unfold Sl.val at b2
              simp only at b2
              clear hn hse hay HOW HBX
              go_wp2_with fail
              go_loopw [11] (fun av wz => wz = w2 ∧ ∃ k : Nat, k ≤ ay ∧ av = .int .i64 (k : Nat)) (fun av _ => ay - (intOf av).toNat)
              case atStart => exact ⟨rfl, 0, Nat.zero_le _, rfl⟩
              case round =>
                rename World => wo
                obtain ⟨hwo, k, hk, rfl⟩ := hrel
                subst hwo
                have ha8 := HA.out
                have hn8 := HN8.out
                rcases Nat.lt_or_ge k s8n with hks | hks
                · have j1 : ((k : Nat) : Int) < ((s8n : Nat) : Int) := by omega
                  obtain ⟨g8, o8, hs8⟩ := HO2.out.pos (by show 0 < s8n; omega)
                  have d0 := HO2.out.cellAt hs8 (i := k) hks
                  replace hs8 : s8a = some ⟨g8, o8, none⟩ := hs8
                  subst hs8
                  obtain ⟨y, hy⟩ : ∃ y, y = acc.getD k 0 := ⟨_, rfl⟩
                  rw [← hy] at d0
                  rcases Nat.lt_or_ge k ay with hka | hka
                  · have j2 : y < t := by rw [hy]; exact atV_lt (by rw [← HAY.out]; exact hka)
                    clear hy
                    go_wp2_with fail
                    go_roundw
                    case rel => exact ⟨trivial, k + 1, by omega, by go_num⟩
                    case measure => simp only [intOf]; omega
                  · have hke : k = ay := by omega
                    have j2 : ¬ y < t := by
                      rw [hy, hke, HAY.out]
                      exact atV_ge (by rw [← HAY.out, HL8.out, ← hke]; exact hks)
                    subst hke
                    clear hy
                    go_upto_region 12 with fail
                    refine Pl.region_is (ops := Pl.find 12 ((Try.f9.body).getD .skip)) (by kernel_rfl) ?_
                    refine rof12 (D := fun _ => True) _ (w.heap.size + 1) ⟨me, next, acc⟩ ⟨(some ⟨g8, o8, none⟩), s8n, s8c⟩ HX2.out (HO2.out.gi (fun _ _ => trivial) (by have := HN8.out; show s8n ≤ _; omega)) (by have := HN8.out; show s8n + 1 ≤ _; omega) k HA.out t (by rfl) (by rfl) (by rfl) (by rfl) (by rfl) ?_
                    intro q s9 w9 hb9 ho9 hh9 hl9 hf9
                    simp only [Act.put, List.setIfInBounds_toArray, List.set_cons_zero, List.set_cons_succ]
                    have HN : Hid (OfI w w9 me next live (i + 1) s9) := by
                      have hb9' := hb9
                      have ho9' := ho9
                      rw [HAY.out] at hb9' ho9'
                      have hI2 : OfI w wo me next live i ⟨(some ⟨g8, o8, none⟩), s8n, s8c⟩ := ⟨by rw [← HAC.out]; exact HX2.out, by rw [← HAC.out]; exact HO2.out, hoi.out.home, hoi.out.res.keep HB2.out, rBelow hoi.out.below HB2.out, hoi.out.pos⟩
                      exact hI2.more HAC.out HT.out HIL.out HP.out HNO.out hb9' ho9' hh9 hf9
                    clear hb9 ho9 hh9 hl9 hf9 hoi HX2 HO2
                    go_wp2_with fail
                    go_roundw
                    case rel => exact ⟨i + 1, s9, by omega, by go_num, HN⟩
                    case measure => simp only [intOf]; omega
                · have j1 : ¬ ((k : Nat) : Int) < ((s8n : Nat) : Int) := by omega
                  have hke : k = ay := by omega
                  subst hke
                  go_upto_region 12 with fail
                  refine Pl.region_is (ops := Pl.find 12 ((Try.f9.body).getD .skip)) (by kernel_rfl) ?_
                  refine rof12 (D := fun _ => True) _ (w.heap.size + 1) ⟨me, next, acc⟩ ⟨s8a, s8n, s8c⟩ HX2.out (HO2.out.gi (fun _ _ => trivial) (by have := HN8.out; show s8n ≤ _; omega)) (by have := HN8.out; show s8n + 1 ≤ _; omega) k HA.out t (by rfl) (by rfl) (by rfl) (by rfl) (by rfl) ?_
                  intro q s9 w9 hb9 ho9 hh9 hl9 hf9
                  simp only [Act.put, List.setIfInBounds_toArray, List.set_cons_zero, List.set_cons_succ]
                  have HN : Hid (OfI w w9 me next live (i + 1) s9) := by
                    have hb9' := hb9
                    have ho9' := ho9
                    rw [HAY.out] at hb9' ho9'
                    have hI2 : OfI w wo me next live i ⟨s8a, s8n, s8c⟩ := ⟨by rw [← HAC.out]; exact HX2.out, by rw [← HAC.out]; exact HO2.out, hoi.out.home, hoi.out.res.keep HB2.out, rBelow hoi.out.below HB2.out, hoi.out.pos⟩
                    exact hI2.more HAC.out HT.out HIL.out HP.out HNO.out hb9' ho9' hh9 hf9
                  clear hb9 ho9 hh9 hl9 hf9 hoi HX2 HO2
                  go_wp2_with fail
                  go_roundw
                  case rel => exact ⟨i + 1, s9, by omega, by go_num, HN⟩
                  case measure => simp only [intOf]; omega
    · have i1 : ¬ ((i : Nat) : Int) < ((len : Nat) : Int) := by omega
      have hie : i = len := by omega
      have HTK : Hid (live.take i = live) := List.take_of_length_le (by rw [HL.out]; exact hge)
      have hbox := hoi.out.box
      have hown := hoi.out.own
      rw [HTK.out] at hbox hown
      obtain ⟨acc, hac⟩ : ∃ acc, acc = actsV me next live := ⟨_, rfl⟩
      rw [← hac] at hbox hown
      have HAC := hide hac
      have hl8 : acc.length = s8.len := hown.len
      have hal : acc.length ≤ 200 := by
        rw [hac]
        have := actsV_len me next live
        have := HL.out
        omega
      have HGI := hide (hown.gi (D := fun k => w.heap.size + 2 ≤ k) (fun k hk => hoi.out.home k hk) (by omega))
      have HM := hide (rmayV_any wr s8 ⟨me, next, acc⟩ HGI.out)
      have HPOS : Hid (∀ x ∈ live, 1 ≤ x) := by
        intro x hx
        obtain ⟨j, hj, e⟩ := List.mem_iff_getElem.1 hx
        have := hoi.out.pos j (by rw [HL.out] at hj; omega)
        rw [← e]
        simpa [List.getD, hj] using this
      have HBX := hide hbox
      have b0 := hbox.c0
      have b1 := hbox.c1
      have b2 := hbox.c2
      obtain ⟨m, hm⟩ : ∃ m, m = decide (MayV ⟨me, next, acc⟩) := ⟨_, rfl⟩
      rw [← hm] at HM
      have HMM := hide hm
      obtain ⟨s8a, s8n, s8c⟩ := s8
      unfold vwV Sl.val at HM
      unfold Sl.val at b2
      simp only at HM b0 b1 b2
      clear hac hbox hown hl8 hal hm
      go_wp2_with fail
      refine HM.out.mono ?_
      rintro e w2 ⟨rfl, hb2⟩
      have HB2 := hide hb2
      have HR2 := hide (hoi.out.res.keep hb2)
      have HX2 := hide (HBX.out.keep hb2)
      have HBL := hide (rBelow hoi.out.below hb2)
      have HG3 := hide (HGI.out.below hb2 (Nat.le_refl _))
      clear hb2 HM b0 b1 b2 hoi HBX HGI
      cases m with
      | false =>
        obtain ⟨W, hst, hk, hf, hz⟩ := stVw HR2.out Vw.zero Sl.nil
        have HST := hide hst
        have HOT : Hid (OfTold w o (fun x ok => .tuple #[x, .bool ok]) (.returned (.tuple #[.agg #[.int .i64 0, .int .i64 0, .slice none 0 0], .bool false])) W) := by
          refine OfTold.no (mk := fun x ok => .tuple #[x, .bool ok]) ?_ (HBL.out.trans (hf.below HBL.out.size (fun k hk => by rw [hk]; exact Nat.le_refl _)))
          rw [HO.out]
          exact ofV_not (fun e => by rw [← HAC.out] at e; have := HMM.out; rw [decide_eq_true e] at this; cases this)
        have HKW := hide hk
        unfold Vw.zero Sl.nil vwV Sl.val at HST
        simp only at HST
        clear hst hk hf hz HO
        go_wp2_with (first | refine wpList_store _ rfl rfl 25 (.tmp 6) (.tmp 76) rfl (.pointer (some ⟨w.heap.size, 0, none⟩)) _ rfl rfl W HST.out ?_)
        refine bodyPost_ret (vw_results2 rfl HKW.out _ _ rfl rfl) rfl ?_
        exact HOT.out
      | true =>
        have HG2W : ∀ W, Frm (fun k => k = w.heap.size) w2 W → Gi (fun k => w.heap.size ≤ k) W ⟨s8a, s8n, s8c⟩ acc := fun W hf => (HG3.out.keep (Kept.frm hf (fun k h1 e => by omega))).wide (fun k hk => by omega)
        obtain ⟨W, hst, hk, hf, hz⟩ := stVw HR2.out ⟨me, next, acc⟩ ⟨s8a, s8n, s8c⟩
        have HST := hide hst
        have HOT : Hid (OfTold w o (fun x ok => .tuple #[x, .bool ok]) (.returned (.tuple #[.agg #[.int .i64 me, .int .i64 next, .slice s8a s8n s8c], .bool true])) W) := by
          refine ⟨HBL.out.trans (hf.below HBL.out.size (fun k hk => by rw [hk]; exact Nat.le_refl _)), ⟨me, next, acc⟩, ⟨s8a, s8n, s8c⟩, true, rfl, (HG2W W hf), .inl ⟨?_, rfl⟩⟩
          rw [HO.out, HAC.out]
          exact ofV_some HPOS.out (by rw [← HAC.out]; exact of_decide_eq_true HMM.out.symm)
        have HKW := hide hk
        have b0 := HX2.out.c0
        have b1 := HX2.out.c1
        have b2 := HX2.out.c2
        unfold Sl.val at b2
        unfold vwV Sl.val at HST
        simp only at HST b0 b1 b2
        clear hst hk hf hz HO
        go_wp2_with (first | refine wpList_store _ rfl rfl 25 (.tmp 6) (.tmp 77) rfl (.pointer (some ⟨w.heap.size, 0, none⟩)) _ rfl rfl W HST.out ?_)
        refine bodyPost_ret (vw_results2 rfl HKW.out _ _ rfl rfl) rfl ?_
        exact HOT.out

end Go.Proofs.Ytehmemfeagjagaa
