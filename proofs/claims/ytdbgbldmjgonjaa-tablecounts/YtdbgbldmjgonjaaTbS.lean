/-
  The laws of counts and of room, over what the functions say.
-/
import Derived.Test.YtdbgbldmjgonjaaTbR
namespace Go.Proofs.Ytdbgbldmjgonjaa
open Go.RowKit
set_option linter.unusedVariables false

/-- Entries lie in a block of entries. -/
def Ty (w : World) (v : Sl) : Prop := ∀ k, v.blk = some k → ∃ C fr, w.heap[k]? = some (Obj.cells C 58 fr)
theorem Ty.keep {w w' : World} {v : Sl} (h : Ty w v) (hb : Below w.heap.size w w') : Ty w' v := fun k hk => by
  obtain ⟨C, fr, e⟩ := h k hk
  exact ⟨C, fr, (hb.block k (Array.getElem?_eq_some_iff.1 e).1).trans e⟩
theorem Ty.nil (w : World) : Ty w Sl.nil := fun k hk => by cases hk
theorem OwnE.ty {w : World} {v : Sl} {l : List En} (h : OwnE w v l) : Ty w v := fun k hk => by
  rcases h.2 with ⟨e, _⟩ | ⟨g, off, cur, ha, hg, _⟩
  · rw [e] at hk; cases hk
  · rw [Sl.blk, ha] at hk
    cases hk
    exact ⟨cur, _, hg⟩
theorem Ty.stay {w w' : World} {v : Sl} (h : Ty w v) (hs : StayV 3 w w') : Ty w' v := fun k hk => by
  obtain ⟨C, fr, e⟩ := h k hk
  exact ⟨C, fr, (hs k C _ fr e (by decide)).trans e⟩
theorem Ty.other {w w' : World} {v : Sl} {p : Nat} {t0 : Tb} {v0 : Sl} (h : Ty w v) (hq : TbBlk w p t0 v0) (hf : Frm (fun k => k = p) w w') : Ty w' v := fun k hk => by
  obtain ⟨C, fr, e⟩ := h k hk
  have hne : ¬ k = p := fun e2 => by
    subst e2
    unfold TbBlk at hq
    rw [e] at hq
    simp only [Option.some.injEq, Obj.cells.injEq] at hq
    exact absurd hq.2.1 (by decide)
  exact ⟨C, fr, (hf.block k (Array.getElem?_eq_some_iff.1 e).1 hne).trans e⟩
theorem Es.stay {w w' : World} {v : Sl} {l : List En} (h : Es w v l) (hT : Ty w v) (hs : StayV 3 w w') : Es w' v l := by
  refine ⟨h.len, h.nil, h.le, h.big, fun j hj => ?_⟩
  obtain ⟨b, off, ha, hu⟩ := h.at' j hj
  obtain ⟨C, fr, e⟩ := hT b (by rw [Sl.blk, ha]; rfl)
  have he := hs b C _ fr e (by decide)
  have k : ∀ {o : Nat} {x : Value}, w.cell? ⟨b, o, Option.none⟩ = some x → w'.cell? ⟨b, o, Option.none⟩ = some x := fun {o x} hc => by
    rw [← hc]
    unfold World.cell?
    rw [he]
  exact ⟨b, off, ha, ⟨k hu.c0, k hu.c1, k hu.c2, k hu.c3⟩⟩
theorem TbBlk.stay {w w' : World} {p : Nat} {t : Tb} {v : Sl} (h : TbBlk w p t v) (hs : StayV 3 w w') : TbBlk w' p t v := (hs p _ _ _ h (by decide)).trans h
theorem Bx.stay {w w' : World} {p : Nat} {t : Tb} {v : Sl} (h : Bx w p t v) (hT : Ty w v) (hs : StayV 3 w w') : Bx w' p t v := ⟨h.blk.stay hs, h.es.stay hT hs⟩
theorem OwnsV.otherT {w w' : World} {base : Nat} {v : Value} {vs : List Value} {p : Nat} {t0 : Tb} {v0 : Sl} (h : OwnsV 3 w base v vs) (hq : TbBlk w p t0 v0) (hf : Frm (fun k => k = p) w w') : OwnsV 3 w' base v vs := by
  have hne := h.ne (show w.heap[p]? = some _ from hq) (by decide)
  refine ⟨h.1, ?_⟩
  rcases h.2 with hn | ⟨g, cap, cur, hv, hbg, hg, rest⟩
  · exact .inl hn
  · refine .inr ⟨g, cap, cur, hv, hbg, ?_, rest⟩
    have hgp : ¬ g = p := fun e => hne (by rw [hv, e]; rfl)
    exact (hf.block g (Array.getElem?_eq_some_iff.1 hg).1 hgp).trans hg

/-- What is told of a table, and where its entries lie. -/
def TbSays (t : Tb) (v : Sl) (w : World) (mk : Value → Value) (e : Ending) (w' : World) : Prop := ∃ s : Sl, e = .returned (mk (t.val s)) ∧ Es w' s t.es ∧ (Ty w v → Ty w' s) ∧ Below w.heap.size w w'
theorem TbSays.told {t : Tb} {v : Sl} {w : World} {mk : Value → Value} {e : Ending} {w' : World} (h : TbSays t v w mk e w') : TbTold t w mk e w' := by
  obtain ⟨s, h1, h2, _, h3⟩ := h
  exact ⟨s, h1, h2, h3⟩
structure TableSS : Prop where
  first : ∀ w, Calls Try.prog 19 #[] w (TbSays firstT Sl.nil w id)
  check : CheckTS
  enc : EncTS
  dec : DecTS
  find : FindTS
  live : LiveTS
  eld : EldTS
  ent : ∀ t v tx w, Es w v t.es → v.len ≤ 100 → Calls Try.prog 21 #[t.val v, .int .i64 tx] w (TbSays (enterL t tx).1 v w (fun x => .tuple #[x, .int .i64 (enterL t tx).2.1, .int .i64 (enterL t tx).2.2]))
  wri : ∀ t v tx c w, Es w v t.es → v.len ≤ 100 → Calls Try.prog 22 #[t.val v, .int .i64 tx, .int .i64 c] w (TbSays (writeL t tx c).1 v w (fun x => .tuple #[x, .int .i64 (writeL t tx c).2]))
  com : ∀ t v tx w, Es w v t.es → v.len ≤ 100 → Calls Try.prog 23 #[t.val v, .int .i64 tx] w (TbSays (commitL t tx).1 v w (fun x => .tuple #[x, .int .i64 (commitL t tx).2.1, .int .i64 (commitL t tx).2.2]))
  lea : ∀ t v tx w, Es w v t.es → v.len ≤ 100 → Calls Try.prog 24 #[t.val v, .int .i64 tx] w (TbSays (leaveL t tx).1 v w (fun x => .tuple #[x, .int .i64 (leaveL t tx).2]))
  same : SameTS
theorem TableSS.all (H : TableSS) : TableS where
  first := fun w => (H.first w).mono (fun _ _ k => k.told)
  check := H.check
  enc := H.enc
  dec := H.dec
  find := H.find
  live := H.live
  eld := H.eld
  ent := fun t v tx w h k => (H.ent t v tx w h k).mono (fun _ _ k => k.told)
  wri := fun t v tx c w h k => (H.wri t v tx c w h k).mono (fun _ _ k => k.told)
  com := fun t v tx w h k => (H.com t v tx w h k).mono (fun _ _ k => k.told)
  lea := fun t v tx w h k => (H.lea t v tx w h k).mono (fun _ _ k => k.told)
  same := H.same

/-- Pairs of bytes lie behind a slice. -/
structure Prs (w : World) (a : Option Addr) (len : Nat) : Prop where
  big : len ≤ 9223372036854775807
  at' : ∀ j, j < len → ∃ b off, a = some ⟨b, off, none⟩ ∧ ∃ x y : Nat, x < 256 ∧ y < 256 ∧ w.cell? ⟨b, off + j * 2, none⟩ = some (.int .u8 ((x : Nat) : Int)) ∧ w.cell? ⟨b, off + j * 2 + 1, none⟩ = some (.int .u8 ((y : Nat) : Int))
theorem Prs.keep {w w' : World} {B : Nat} {a : Option Addr} {len : Nat} (h : Prs w a len) (hb : Below B w w') (hB : w.heap.size ≤ B) : Prs w' a len := by
  refine ⟨h.big, fun j hj => ?_⟩
  obtain ⟨b, off, ha, x, y, hx, hy, c, d⟩ := h.at' j hj
  exact ⟨b, off, ha, x, y, hx, hy, (hb.cell (Nat.lt_of_lt_of_le (World.block_lt_of_cell? w _ c) hB)).trans c, (hb.cell (Nat.lt_of_lt_of_le (World.block_lt_of_cell? w _ d) hB)).trans d⟩

theorem enter_err {t : Tb} {tx : Int} (h : (enterT t tx).2.2 ≠ 0) : (enterT t tx).1 = t := by
  unfold enterT at h ⊢
  by_cases h1 : tx < 1 ∨ 2147483646 < tx
  · rw [if_pos h1]
  · rw [if_neg h1] at h ⊢
    cases hf : findN t tx with
    | some _ => rfl
    | none =>
      cases hr : freeN t with
      | none => rfl
      | some i => rw [hf, hr] at h; exact absurd rfl h
theorem write_err {t : Tb} {tx c : Int} (h : (writeT t tx c).2 ≠ 0) : (writeT t tx c).1 = t := by
  unfold writeT at h ⊢
  cases hf : findN t tx with
  | none => rfl
  | some i =>
    rw [hf] at h
    simp only at h ⊢
    by_cases h1 : (t.en i).st ≠ 1 ∨ t.no = 2147483647
    · rw [if_pos h1]
    · rw [if_neg h1] at h ⊢
      by_cases h2 : c < 0 ∨ 65535 < c
      · rw [if_pos h2]
      · rw [if_neg h2] at h; exact absurd rfl h
theorem commit_err {t : Tb} {tx : Int} (h : (commitT t tx).2.2 ≠ 0) : (commitT t tx).1 = t := by
  unfold commitT at h ⊢
  cases hf : findN t tx with
  | none => rfl
  | some i =>
    rw [hf] at h
    simp only at h ⊢
    by_cases h1 : (t.en i).st ≠ 1 ∨ t.cm = 2147483647
    · rw [if_pos h1]
    · rw [if_neg h1] at h; exact absurd rfl h
theorem leave_err {t : Tb} {tx : Int} (h : (leaveT t tx).2 ≠ 0) : (leaveT t tx).1 = t := by
  unfold leaveT at h ⊢
  cases hf : findN t tx with
  | none => rfl
  | some i => rw [hf] at h; exact absurd rfl h
theorem fst_filter (tx : Int) (D : List (Int × Int)) : (D.filter (fun a => a.1 != tx)).map Prod.fst = (D.map Prod.fst).filter (fun a => a != tx) := by
  rw [List.filter_map]
  rfl
/-- The rest, while it is listed. -/
def restP (L : List Int) (tx : Int) (k : Nat) : List Int := (L.take k).filter (fun a => a != tx)
theorem restP_succ {L : List Int} {tx : Int} {k : Nat} (hk : k < L.length) : restP L tx (k + 1) = restP L tx k ++ (if L.getD k 0 = tx then [] else [L.getD k 0]) := by
  unfold restP
  rw [List.take_succ_eq_append_getElem hk, List.filter_append]
  congr 1
  have e : L.getD k 0 = L[k] := by simp [List.getD, hk]
  rw [e]
  by_cases h : L[k] = tx <;> simp [h]
theorem restP_len (L : List Int) (tx : Int) (k : Nat) : (restP L tx k).length ≤ k := by
  unfold restP
  exact Nat.le_trans (List.length_filter_le _ _) (by rw [List.length_take]; exact Nat.min_le_left _ _)
theorem restP_all (L : List Int) (tx : Int) : restP L tx L.length = L.filter (fun a => a != tx) := by unfold restP; rw [List.take_length]

/-- What stands between two rounds. -/
structure CtI (w wr : World) (p : Nat) (t : Tb) (s : Sl) (D : List (Int × Int)) (sv : Value) : Prop where
  box : Bx wr p t s
  ty : Ty wr s
  ct : Counted t D
  own : OwnsV 3 wr w.heap.size sv (kVals (D.map Prod.fst))
  below : Below w.heap.size w wr

set_option maxHeartbeats 16000000 in
set_option maxRecDepth 100000 in
theorem countsT_walk (H : TableSS) (a0 : Option Addr) (len0 cap0 : Nat) (w : World) (h : Prs w a0 len0) :
    Calls Try.prog 6 #[.slice a0 len0 cap0] w fun e w' => e = .returned (.bool true) ∧ Below w.heap.size w w' := by
  have HP := hide h
  have hbig := h.big
  have HAW := hide H.all.awake
  have HH := hide H
  have HFr := hide (H.first w)
  clear h H
  go_enter Try.func6, Try.ntmps6
  go_wp2_with fail
  refine HFr.out.mono ?_
  rintro e w1 ⟨s1, rfl, he1, ht1, hb1⟩
  simp only [id]
  obtain ⟨W1, hst1, hbx1, hbb1⟩ := bxT w1 firstT s1 he1
  have HST1 := hide hst1
  have HT1 := hide ((ht1 (Ty.nil _)).keep hbb1)
  have HB1 := hide (rBelow hb1 hbb1)
  have HX1 := hide hbx1
  have HPL : Hid (w.heap.size ≤ w1.heap.size) := hb1.size
  clear hst1 hbx1 hbb1 he1 ht1 hb1 HFr
  go_wp2_with (refine wpList_store _ rfl rfl 24 (.tmp 3) (.tmp 13) rfl (.pointer (some ⟨w1.heap.size, 0, none⟩)) (firstT.val s1) rfl rfl W1 HST1.out ?_)
  have hbd := below_alloc W1 (.cells #[] 3)
  have HI0 : Hid (CtI w (W1.alloc (.cells #[] 3)) w1.heap.size firstT s1 [] (.slice (some ⟨W1.heap.size, 0, none⟩) 0 0)) := ⟨HX1.out.keep hbd, HT1.out.keep hbd, Counted.first, (OwnsV.lit 3 W1 W1.heap.size [] (Nat.le_refl _) (by decide)).lower HB1.out.size, rBelow HB1.out hbd⟩
  clear hbd HX1 HT1 HB1 HST1
  go_loopw [4, 5] (fun svx iv wr => ∃ (i : Nat) (sv : Value) (t : Tb) (s : Sl) (D : List (Int × Int)), sv = svx ∧ i ≤ len0 ∧ i ≤ 100 ∧ D.length ≤ i ∧ iv = .int .i64 (i : Nat) ∧ Hid (CtI w wr w1.heap.size t s D sv)) (fun _ iv _ => 100 - (intOf iv).toNat)
  case atStart => exact ⟨0, _, firstT, s1, [], rfl, Nat.zero_le _, Nat.zero_le _, Nat.le_refl _, rfl, HI0⟩
  case round =>
    obtain ⟨i, sv, t, s, D, rfl, hi, hi2, hDl, rfl, hI⟩ := hrel
    rename World => wr
    rcases Nat.lt_or_ge i len0 with hlt | hge
    case inr =>
      have i1 : ¬ ((i : Nat) : Int) < ((len0 : Nat) : Int) := by omega
      go_wp2_with fail
      refine (HAW.out _).mono ?_
      rintro e w9 ⟨rfl, hb9⟩
      have HB9 := hide (rBelow hI.out.below hb9)
      clear hb9
      go_wp2_with fail
      go_ret
      exact ⟨by simp, HB9.out⟩
    rcases Nat.lt_or_ge i 100 with hlt2 | hge2
    case inr =>
      have i1 : ((i : Nat) : Int) < ((len0 : Nat) : Int) := by omega
      have i2 : ¬ ((i : Nat) : Int) < 100 := by omega
      go_wp2_with fail
      refine (HAW.out _).mono ?_
      rintro e w9 ⟨rfl, hb9⟩
      have HB9 := hide (rBelow hI.out.below hb9)
      clear hb9
      go_wp2_with fail
      go_ret
      exact ⟨by simp, HB9.out⟩
    have i1 : ((i : Nat) : Int) < ((len0 : Nat) : Int) := by omega
    have i2 : ((i : Nat) : Int) < 100 := by omega
    obtain ⟨b, off, ha, x, y, hx, hy, px, py⟩ := (HP.out.keep hI.out.below (Nat.le_refl _)).at' i hlt
    subst ha
    obtain ⟨tx, htx⟩ : ∃ tx, tx = 1 + ((y : Nat) : Int) % 20 := ⟨_, rfl⟩
    have HTX := hide htx
    clear htx
    have hr4 : x % 4 = 0 ∨ x % 4 = 1 ∨ x % 4 = 2 ∨ x % 4 = 3 := by omega
    rcases hr4 with hr4 | hr4 | hr4 | hr4
    case inl =>
      have r4 : ((x : Nat) : Int) % 4 = 0 := by omega
      have HXp := hide hI.out.box
      have HTs := hide hI.out.ty
      have HO := hide hI.out.own
      have HB := hide hI.out.below
      have HCt := hide hI.out.ct
      have HPQ : Hid (w1.heap.size < wr.heap.size) := hI.out.box.blk.lt
      obtain ⟨W2, hst2, hbx2, hbb2⟩ := bxT wr t s hI.out.box.es
      have HST2 := hide hst2
      have px2 := (hbb2.cell (World.block_lt_of_cell? wr _ px)).trans px
      clear hI
      have a0 := HXp.out.blk.c0
      have a1 := HXp.out.blk.c1
      have a2 := HXp.out.blk.c2
      have a3 := HXp.out.blk.c3
      replace HXp := hide (HXp.out.keep hbb2)
      replace HTs := hide (HTs.out.keep hbb2)
      replace HO := hide (HO.out.keep hbb2 (Nat.le_refl _))
      replace HB := hide (rBelow HB.out hbb2)
      have HXq := hide hbx2
      clear hst2 hbx2 hbb2
      have pc0 := HXp.out.blk.c0
      have pc1 := HXp.out.blk.c1
      have pc2 := HXp.out.blk.c2
      have pc3 := HXp.out.blk.c3
      have HCl := HH.out.ent t s tx W2 HXp.out.es (HXp.out.may HCt.out.may)
      rw [enterL_yes HCt.out.may] at HCl
      have hok : (enterT t tx).2.2 = 0 → Counted (enterT t tx).1 D := fun he => HCt.out.enter tx
      have herr := @enter_err t tx 
      generalize (enterT t tx).2.1 = an at *
      generalize (enterT t tx).2.2 = ae at *
      generalize (enterT t tx).1 = ta at *
      have HCl := hide HCl
      have HOk := hide hok
      have HErr := hide herr
      clear hok herr
      go_wp2_with (first | refine wpList_store _ rfl rfl 24 (.tmp 7) (.tmp 33) rfl (.pointer (some ⟨wr.heap.size, 0, none⟩)) (t.val s) rfl rfl W2 HST2.out ?_)
      rw [← HTX.out]
      refine HCl.out.mono ?_
      rintro e w3 ⟨sq, rfl, heq, htq, hbq⟩
      have htq2 := htq HTs.out
      clear a0 a1 a2 a3 pc0 pc1 pc2 pc3 px py px2
      replace HXp := hide (HXp.out.keep hbq)
      replace HXq := hide (HXq.out.keep hbq)
      replace HTs := hide (HTs.out.keep hbq)
      replace HO := hide (HO.out.keep hbq (Nat.le_refl _))
      replace HB := hide (rBelow HB.out hbq)
      have HTq := hide htq2
      obtain ⟨W4, hst4, hbx4, hfr4⟩ := HXq.out.lay ta sq heq
      have HST4 := hide hst4
      replace HXp := hide (HXp.out.other HXq.out.blk hfr4 (by have := HPQ.out; omega))
      replace HTs := hide (HTs.out.other HXq.out.blk hfr4)
      replace HTq := hide (HTq.out.other HXq.out.blk hfr4)
      replace HO := hide (HO.out.otherT HXq.out.blk hfr4)
      replace HB := hide (HB.out.trans (hfr4.below HB.out.size (fun k hk => by have h1 := HPL.out; have h2 := HPQ.out; omega)))
      replace HXq := hide hbx4
      clear hst4 hbx4 hfr4 heq htq htq2 hbq
      clear HCl
      by_cases hez : ae = 0
      case pos =>
        subst hez
        have HCT : Hid (Counted ta D) := HOk.out rfl
        have hDn : D.length ≤ i + 1 := by omega
        obtain ⟨sv2, hsv2⟩ : ∃ sv2, sv2 = sv := ⟨_, rfl⟩
        rw [← hsv2] at HO ⊢
        clear hsv2 HOk HErr
        have qc0 := HXq.out.blk.c0
        have qc1 := HXq.out.blk.c1
        have qc2 := HXq.out.blk.c2
        have qc3 := HXq.out.blk.c3
        obtain ⟨W8, hst8, hbx8, hfr8⟩ := HXp.out.lay ta sq HXq.out.es
        have HST8 := hide hst8
        replace HXq := hide (HXq.out.other HXp.out.blk hfr8 (by have := HPQ.out; omega))
        replace HTs := hide (HTs.out.other HXp.out.blk hfr8)
        replace HTq := hide (HTq.out.other HXp.out.blk hfr8)
        replace HO := hide (HO.out.otherT HXp.out.blk hfr8)
        replace HB := hide (HB.out.trans (hfr8.below HB.out.size (fun k hk => by have h1 := HPL.out; have h2 := HPQ.out; omega)))
        replace HXp := hide hbx8
        clear hst8 hbx8 hfr8
        have HEl := eld_yes HH.out.all HCT.out.may sq W8 HXp.out.es
        rw [HCT.out.eldest] at HEl
        have HCN : Hid (CtI w W8 w1.heap.size ta sq D sv2) := ⟨HXp.out, HTq.out, HCT.out, HO.out, HB.out⟩
        obtain ⟨L2, hL2⟩ : ∃ L2, L2 = (D).map Prod.fst := ⟨_, rfl⟩
        have HO2 := HO.out
        rw [← hL2] at HEl HO2
        obtain ⟨va2, vc2, hv2, hvs2, _, _⟩ := HO2.vs (kVals_oneT _)
        have hkl : (kVals L2).length = L2.length := by simp [kVals]
        rw [hkl] at hv2 hvs2
        have hks2 := ks_of_vsT hvs2
        subst hv2
        clear hL2 HO2 hvs2 hkl
        have d0 := HXp.out.blk.c0
        have d1 := HXp.out.blk.c1
        have d2 := HXp.out.blk.c2
        have d3 := HXp.out.blk.c3
        cases L2 with
        | nil =>
          have HEl := hide HEl
          simp only [List.length_nil]
          simp only [List.length_nil] at HCN hks2
          clear hks2
          go_wp2_with (first | refine wpList_store _ rfl rfl 24 (.tmp 7) (.tmp 75) rfl (.pointer (some ⟨wr.heap.size, 0, none⟩)) (ta.val sq) rfl rfl W4 HST4.out ?_ | refine wpList_store _ rfl rfl 24 (.tmp 3) (.tmp 114) rfl (.pointer (some ⟨w1.heap.size, 0, none⟩)) (ta.val sq) rfl rfl W8 HST8.out ?_)
          refine HEl.out.mono ?_
          rintro e w9 ⟨rfl, hb9⟩
          have HC9 : Hid (CtI w w9 w1.heap.size ta sq D (.slice va2 0 vc2)) := ⟨HCN.out.box.keep hb9, HCN.out.ty.keep hb9, HCN.out.ct, HCN.out.own.keep hb9 (Nat.le_refl _), rBelow HCN.out.below hb9⟩
          clear hb9 HEl HCN
          go_wp2_with fail
          go_roundw
          case rel => exact ⟨i + 1, _, ta, sq, D, rfl, by omega, by omega, hDn, by go_num, HC9⟩
          case measure => simp only [intOf]; omega
        | cons x0 r2 =>
          obtain ⟨kb, koff, hka, hk0⟩ := hks2.2 0 (by simp)
          subst hka
          simp only [Nat.add_zero, List.getD_cons_zero] at hk0
          have HEl := hide HEl
          have j1 : (0 : Int) < (((x0 :: r2).length : Nat) : Int) := by
            have : 0 < (x0 :: r2).length := by simp
            omega
          have j2 : 0 < (x0 :: r2).length := by simp
          clear hks2
          generalize (x0 :: r2).length = n2 at *
          go_wp2_with (first | refine wpList_store _ rfl rfl 24 (.tmp 7) (.tmp 75) rfl (.pointer (some ⟨wr.heap.size, 0, none⟩)) (ta.val sq) rfl rfl W4 HST4.out ?_ | refine wpList_store _ rfl rfl 24 (.tmp 3) (.tmp 114) rfl (.pointer (some ⟨w1.heap.size, 0, none⟩)) (ta.val sq) rfl rfl W8 HST8.out ?_)
          refine HEl.out.mono ?_
          rintro e w9 ⟨rfl, hb9⟩
          have HC9 : Hid (CtI w w9 w1.heap.size ta sq D (.slice (some ⟨kb, koff, none⟩) n2 vc2)) := ⟨HCN.out.box.keep hb9, HCN.out.ty.keep hb9, HCN.out.ct, HCN.out.own.keep hb9 (Nat.le_refl _), rBelow HCN.out.below hb9⟩
          clear hb9 HEl HCN
          go_wp2_with fail
          go_roundw
          case rel => exact ⟨i + 1, _, ta, sq, D, rfl, by omega, by omega, hDn, by go_num, HC9⟩
          case measure => simp only [intOf]; omega
      have e1 : (ae != 0) = true := by simp; exact hez
      have e2 : (ae == 0) = false := by simp; exact hez
      have e3 : ¬ ae = 0 := hez
      have hta := HErr.out hez
      have HCT : Hid (Counted ta D) := by show Counted ta D; rw [hta]; exact HCt.out
      subst hta
      have hDn : D.length ≤ i + 1 := by omega
      obtain ⟨sv2, hsv2⟩ : ∃ sv2, sv2 = sv := ⟨_, rfl⟩
      rw [← hsv2] at HO ⊢
      clear hsv2 HOk HErr
      have pc0 := HXp.out.blk.c0
      have pc1 := HXp.out.blk.c1
      have pc2 := HXp.out.blk.c2
      have pc3 := HXp.out.blk.c3
      have qc0 := HXq.out.blk.c0
      have qc1 := HXq.out.blk.c1
      have qc2 := HXq.out.blk.c2
      have qc3 := HXq.out.blk.c3
      have HSm := hide (same_yes ta sq s W4 HXq.out.es HXp.out.es)
      go_wp2_with (first | refine wpList_store _ rfl rfl 24 (.tmp 7) (.tmp 75) rfl (.pointer (some ⟨wr.heap.size, 0, none⟩)) (ta.val sq) rfl rfl W4 HST4.out ?_)
      refine HSm.out.mono ?_
      rintro e w7 ⟨rfl, hb7⟩
      clear pc0 pc1 pc2 pc3 qc0 qc1 qc2 qc3
      replace HXp := hide (HXp.out.keep hb7)
      replace HXq := hide (HXq.out.keep hb7)
      replace HTs := hide (HTs.out.keep hb7)
      replace HTq := hide (HTq.out.keep hb7)
      replace HO := hide (HO.out.keep hb7 (Nat.le_refl _))
      replace HB := hide (rBelow HB.out hb7)
      clear hb7 HSm
      have qc0 := HXq.out.blk.c0
      have qc1 := HXq.out.blk.c1
      have qc2 := HXq.out.blk.c2
      have qc3 := HXq.out.blk.c3
      obtain ⟨W8, hst8, hbx8, hfr8⟩ := HXp.out.lay ta sq HXq.out.es
      have HST8 := hide hst8
      replace HXq := hide (HXq.out.other HXp.out.blk hfr8 (by have := HPQ.out; omega))
      replace HTs := hide (HTs.out.other HXp.out.blk hfr8)
      replace HTq := hide (HTq.out.other HXp.out.blk hfr8)
      replace HO := hide (HO.out.otherT HXp.out.blk hfr8)
      replace HB := hide (HB.out.trans (hfr8.below HB.out.size (fun k hk => by have h1 := HPL.out; have h2 := HPQ.out; omega)))
      replace HXp := hide hbx8
      clear hst8 hbx8 hfr8
      have HEl := eld_yes HH.out.all HCT.out.may sq W8 HXp.out.es
      rw [HCT.out.eldest] at HEl
      have HCN : Hid (CtI w W8 w1.heap.size ta sq D sv2) := ⟨HXp.out, HTq.out, HCT.out, HO.out, HB.out⟩
      obtain ⟨L2, hL2⟩ : ∃ L2, L2 = (D).map Prod.fst := ⟨_, rfl⟩
      have HO2 := HO.out
      rw [← hL2] at HEl HO2
      obtain ⟨va2, vc2, hv2, hvs2, _, _⟩ := HO2.vs (kVals_oneT _)
      have hkl : (kVals L2).length = L2.length := by simp [kVals]
      rw [hkl] at hv2 hvs2
      have hks2 := ks_of_vsT hvs2
      subst hv2
      clear hL2 HO2 hvs2 hkl
      have d0 := HXp.out.blk.c0
      have d1 := HXp.out.blk.c1
      have d2 := HXp.out.blk.c2
      have d3 := HXp.out.blk.c3
      cases L2 with
      | nil =>
        have HEl := hide HEl
        simp only [List.length_nil]
        simp only [List.length_nil] at HCN hks2
        clear hks2
        go_wp2_with (first | refine wpList_store _ rfl rfl 24 (.tmp 3) (.tmp 114) rfl (.pointer (some ⟨w1.heap.size, 0, none⟩)) (ta.val sq) rfl rfl W8 HST8.out ?_)
        refine HEl.out.mono ?_
        rintro e w9 ⟨rfl, hb9⟩
        have HC9 : Hid (CtI w w9 w1.heap.size ta sq D (.slice va2 0 vc2)) := ⟨HCN.out.box.keep hb9, HCN.out.ty.keep hb9, HCN.out.ct, HCN.out.own.keep hb9 (Nat.le_refl _), rBelow HCN.out.below hb9⟩
        clear hb9 HEl HCN
        go_wp2_with fail
        go_roundw
        case rel => exact ⟨i + 1, _, ta, sq, D, rfl, by omega, by omega, hDn, by go_num, HC9⟩
        case measure => simp only [intOf]; omega
      | cons x0 r2 =>
        obtain ⟨kb, koff, hka, hk0⟩ := hks2.2 0 (by simp)
        subst hka
        simp only [Nat.add_zero, List.getD_cons_zero] at hk0
        have HEl := hide HEl
        have j1 : (0 : Int) < (((x0 :: r2).length : Nat) : Int) := by
          have : 0 < (x0 :: r2).length := by simp
          omega
        have j2 : 0 < (x0 :: r2).length := by simp
        clear hks2
        generalize (x0 :: r2).length = n2 at *
        go_wp2_with (first | refine wpList_store _ rfl rfl 24 (.tmp 3) (.tmp 114) rfl (.pointer (some ⟨w1.heap.size, 0, none⟩)) (ta.val sq) rfl rfl W8 HST8.out ?_)
        refine HEl.out.mono ?_
        rintro e w9 ⟨rfl, hb9⟩
        have HC9 : Hid (CtI w w9 w1.heap.size ta sq D (.slice (some ⟨kb, koff, none⟩) n2 vc2)) := ⟨HCN.out.box.keep hb9, HCN.out.ty.keep hb9, HCN.out.ct, HCN.out.own.keep hb9 (Nat.le_refl _), rBelow HCN.out.below hb9⟩
        clear hb9 HEl HCN
        go_wp2_with fail
        go_roundw
        case rel => exact ⟨i + 1, _, ta, sq, D, rfl, by omega, by omega, hDn, by go_num, HC9⟩
        case measure => simp only [intOf]; omega
    case inr.inl =>
      have r4 : ((x : Nat) : Int) % 4 = 1 := by omega
      have HXp := hide hI.out.box
      have HTs := hide hI.out.ty
      have HO := hide hI.out.own
      have HB := hide hI.out.below
      have HCt := hide hI.out.ct
      have HPQ : Hid (w1.heap.size < wr.heap.size) := hI.out.box.blk.lt
      obtain ⟨W2, hst2, hbx2, hbb2⟩ := bxT wr t s hI.out.box.es
      have HST2 := hide hst2
      have px2 := (hbb2.cell (World.block_lt_of_cell? wr _ px)).trans px
      clear hI
      have a0 := HXp.out.blk.c0
      have a1 := HXp.out.blk.c1
      have a2 := HXp.out.blk.c2
      have a3 := HXp.out.blk.c3
      replace HXp := hide (HXp.out.keep hbb2)
      replace HTs := hide (HTs.out.keep hbb2)
      replace HO := hide (HO.out.keep hbb2 (Nat.le_refl _))
      replace HB := hide (rBelow HB.out hbb2)
      have HXq := hide hbx2
      clear hst2 hbx2 hbb2
      have pc0 := HXp.out.blk.c0
      have pc1 := HXp.out.blk.c1
      have pc2 := HXp.out.blk.c2
      have pc3 := HXp.out.blk.c3
      have HCl := HH.out.wri t s tx 7 W2 HXp.out.es (HXp.out.may HCt.out.may)
      rw [writeL_yes HCt.out.may] at HCl
      have hok : (writeT t tx 7).2 = 0 → Counted (writeT t tx 7).1 D := fun he => HCt.out.write tx 7
      have herr := @write_err t tx 7
      generalize (writeT t tx 7).2 = ae at *
      generalize (writeT t tx 7).1 = ta at *
      have HCl := hide HCl
      have HOk := hide hok
      have HErr := hide herr
      clear hok herr
      go_wp2_with (first | refine wpList_store _ rfl rfl 24 (.tmp 7) (.tmp 33) rfl (.pointer (some ⟨wr.heap.size, 0, none⟩)) (t.val s) rfl rfl W2 HST2.out ?_)
      rw [← HTX.out]
      refine HCl.out.mono ?_
      rintro e w3 ⟨sq, rfl, heq, htq, hbq⟩
      have htq2 := htq HTs.out
      clear a0 a1 a2 a3 pc0 pc1 pc2 pc3 px py px2
      replace HXp := hide (HXp.out.keep hbq)
      replace HXq := hide (HXq.out.keep hbq)
      replace HTs := hide (HTs.out.keep hbq)
      replace HO := hide (HO.out.keep hbq (Nat.le_refl _))
      replace HB := hide (rBelow HB.out hbq)
      have HTq := hide htq2
      obtain ⟨W4, hst4, hbx4, hfr4⟩ := HXq.out.lay ta sq heq
      have HST4 := hide hst4
      replace HXp := hide (HXp.out.other HXq.out.blk hfr4 (by have := HPQ.out; omega))
      replace HTs := hide (HTs.out.other HXq.out.blk hfr4)
      replace HTq := hide (HTq.out.other HXq.out.blk hfr4)
      replace HO := hide (HO.out.otherT HXq.out.blk hfr4)
      replace HB := hide (HB.out.trans (hfr4.below HB.out.size (fun k hk => by have h1 := HPL.out; have h2 := HPQ.out; omega)))
      replace HXq := hide hbx4
      clear hst4 hbx4 hfr4 heq htq htq2 hbq
      clear HCl
      by_cases hez : ae = 0
      case pos =>
        subst hez
        have HCT : Hid (Counted ta D) := HOk.out rfl
        have hDn : D.length ≤ i + 1 := by omega
        obtain ⟨sv2, hsv2⟩ : ∃ sv2, sv2 = sv := ⟨_, rfl⟩
        rw [← hsv2] at HO ⊢
        clear hsv2 HOk HErr
        have qc0 := HXq.out.blk.c0
        have qc1 := HXq.out.blk.c1
        have qc2 := HXq.out.blk.c2
        have qc3 := HXq.out.blk.c3
        obtain ⟨W8, hst8, hbx8, hfr8⟩ := HXp.out.lay ta sq HXq.out.es
        have HST8 := hide hst8
        replace HXq := hide (HXq.out.other HXp.out.blk hfr8 (by have := HPQ.out; omega))
        replace HTs := hide (HTs.out.other HXp.out.blk hfr8)
        replace HTq := hide (HTq.out.other HXp.out.blk hfr8)
        replace HO := hide (HO.out.otherT HXp.out.blk hfr8)
        replace HB := hide (HB.out.trans (hfr8.below HB.out.size (fun k hk => by have h1 := HPL.out; have h2 := HPQ.out; omega)))
        replace HXp := hide hbx8
        clear hst8 hbx8 hfr8
        have HEl := eld_yes HH.out.all HCT.out.may sq W8 HXp.out.es
        rw [HCT.out.eldest] at HEl
        have HCN : Hid (CtI w W8 w1.heap.size ta sq D sv2) := ⟨HXp.out, HTq.out, HCT.out, HO.out, HB.out⟩
        obtain ⟨L2, hL2⟩ : ∃ L2, L2 = (D).map Prod.fst := ⟨_, rfl⟩
        have HO2 := HO.out
        rw [← hL2] at HEl HO2
        obtain ⟨va2, vc2, hv2, hvs2, _, _⟩ := HO2.vs (kVals_oneT _)
        have hkl : (kVals L2).length = L2.length := by simp [kVals]
        rw [hkl] at hv2 hvs2
        have hks2 := ks_of_vsT hvs2
        subst hv2
        clear hL2 HO2 hvs2 hkl
        have d0 := HXp.out.blk.c0
        have d1 := HXp.out.blk.c1
        have d2 := HXp.out.blk.c2
        have d3 := HXp.out.blk.c3
        cases L2 with
        | nil =>
          have HEl := hide HEl
          simp only [List.length_nil]
          simp only [List.length_nil] at HCN hks2
          clear hks2
          go_wp2_with (first | refine wpList_store _ rfl rfl 24 (.tmp 7) (.tmp 84) rfl (.pointer (some ⟨wr.heap.size, 0, none⟩)) (ta.val sq) rfl rfl W4 HST4.out ?_ | refine wpList_store _ rfl rfl 24 (.tmp 3) (.tmp 114) rfl (.pointer (some ⟨w1.heap.size, 0, none⟩)) (ta.val sq) rfl rfl W8 HST8.out ?_)
          refine HEl.out.mono ?_
          rintro e w9 ⟨rfl, hb9⟩
          have HC9 : Hid (CtI w w9 w1.heap.size ta sq D (.slice va2 0 vc2)) := ⟨HCN.out.box.keep hb9, HCN.out.ty.keep hb9, HCN.out.ct, HCN.out.own.keep hb9 (Nat.le_refl _), rBelow HCN.out.below hb9⟩
          clear hb9 HEl HCN
          go_wp2_with fail
          go_roundw
          case rel => exact ⟨i + 1, _, ta, sq, D, rfl, by omega, by omega, hDn, by go_num, HC9⟩
          case measure => simp only [intOf]; omega
        | cons x0 r2 =>
          obtain ⟨kb, koff, hka, hk0⟩ := hks2.2 0 (by simp)
          subst hka
          simp only [Nat.add_zero, List.getD_cons_zero] at hk0
          have HEl := hide HEl
          have j1 : (0 : Int) < (((x0 :: r2).length : Nat) : Int) := by
            have : 0 < (x0 :: r2).length := by simp
            omega
          have j2 : 0 < (x0 :: r2).length := by simp
          clear hks2
          generalize (x0 :: r2).length = n2 at *
          go_wp2_with (first | refine wpList_store _ rfl rfl 24 (.tmp 7) (.tmp 84) rfl (.pointer (some ⟨wr.heap.size, 0, none⟩)) (ta.val sq) rfl rfl W4 HST4.out ?_ | refine wpList_store _ rfl rfl 24 (.tmp 3) (.tmp 114) rfl (.pointer (some ⟨w1.heap.size, 0, none⟩)) (ta.val sq) rfl rfl W8 HST8.out ?_)
          refine HEl.out.mono ?_
          rintro e w9 ⟨rfl, hb9⟩
          have HC9 : Hid (CtI w w9 w1.heap.size ta sq D (.slice (some ⟨kb, koff, none⟩) n2 vc2)) := ⟨HCN.out.box.keep hb9, HCN.out.ty.keep hb9, HCN.out.ct, HCN.out.own.keep hb9 (Nat.le_refl _), rBelow HCN.out.below hb9⟩
          clear hb9 HEl HCN
          go_wp2_with fail
          go_roundw
          case rel => exact ⟨i + 1, _, ta, sq, D, rfl, by omega, by omega, hDn, by go_num, HC9⟩
          case measure => simp only [intOf]; omega
      have e1 : (ae != 0) = true := by simp; exact hez
      have e2 : (ae == 0) = false := by simp; exact hez
      have e3 : ¬ ae = 0 := hez
      have hta := HErr.out hez
      have HCT : Hid (Counted ta D) := by show Counted ta D; rw [hta]; exact HCt.out
      subst hta
      have hDn : D.length ≤ i + 1 := by omega
      obtain ⟨sv2, hsv2⟩ : ∃ sv2, sv2 = sv := ⟨_, rfl⟩
      rw [← hsv2] at HO ⊢
      clear hsv2 HOk HErr
      have pc0 := HXp.out.blk.c0
      have pc1 := HXp.out.blk.c1
      have pc2 := HXp.out.blk.c2
      have pc3 := HXp.out.blk.c3
      have qc0 := HXq.out.blk.c0
      have qc1 := HXq.out.blk.c1
      have qc2 := HXq.out.blk.c2
      have qc3 := HXq.out.blk.c3
      have HSm := hide (same_yes ta sq s W4 HXq.out.es HXp.out.es)
      go_wp2_with (first | refine wpList_store _ rfl rfl 24 (.tmp 7) (.tmp 84) rfl (.pointer (some ⟨wr.heap.size, 0, none⟩)) (ta.val sq) rfl rfl W4 HST4.out ?_)
      refine HSm.out.mono ?_
      rintro e w7 ⟨rfl, hb7⟩
      clear pc0 pc1 pc2 pc3 qc0 qc1 qc2 qc3
      replace HXp := hide (HXp.out.keep hb7)
      replace HXq := hide (HXq.out.keep hb7)
      replace HTs := hide (HTs.out.keep hb7)
      replace HTq := hide (HTq.out.keep hb7)
      replace HO := hide (HO.out.keep hb7 (Nat.le_refl _))
      replace HB := hide (rBelow HB.out hb7)
      clear hb7 HSm
      have qc0 := HXq.out.blk.c0
      have qc1 := HXq.out.blk.c1
      have qc2 := HXq.out.blk.c2
      have qc3 := HXq.out.blk.c3
      obtain ⟨W8, hst8, hbx8, hfr8⟩ := HXp.out.lay ta sq HXq.out.es
      have HST8 := hide hst8
      replace HXq := hide (HXq.out.other HXp.out.blk hfr8 (by have := HPQ.out; omega))
      replace HTs := hide (HTs.out.other HXp.out.blk hfr8)
      replace HTq := hide (HTq.out.other HXp.out.blk hfr8)
      replace HO := hide (HO.out.otherT HXp.out.blk hfr8)
      replace HB := hide (HB.out.trans (hfr8.below HB.out.size (fun k hk => by have h1 := HPL.out; have h2 := HPQ.out; omega)))
      replace HXp := hide hbx8
      clear hst8 hbx8 hfr8
      have HEl := eld_yes HH.out.all HCT.out.may sq W8 HXp.out.es
      rw [HCT.out.eldest] at HEl
      have HCN : Hid (CtI w W8 w1.heap.size ta sq D sv2) := ⟨HXp.out, HTq.out, HCT.out, HO.out, HB.out⟩
      obtain ⟨L2, hL2⟩ : ∃ L2, L2 = (D).map Prod.fst := ⟨_, rfl⟩
      have HO2 := HO.out
      rw [← hL2] at HEl HO2
      obtain ⟨va2, vc2, hv2, hvs2, _, _⟩ := HO2.vs (kVals_oneT _)
      have hkl : (kVals L2).length = L2.length := by simp [kVals]
      rw [hkl] at hv2 hvs2
      have hks2 := ks_of_vsT hvs2
      subst hv2
      clear hL2 HO2 hvs2 hkl
      have d0 := HXp.out.blk.c0
      have d1 := HXp.out.blk.c1
      have d2 := HXp.out.blk.c2
      have d3 := HXp.out.blk.c3
      cases L2 with
      | nil =>
        have HEl := hide HEl
        simp only [List.length_nil]
        simp only [List.length_nil] at HCN hks2
        clear hks2
        go_wp2_with (first | refine wpList_store _ rfl rfl 24 (.tmp 3) (.tmp 114) rfl (.pointer (some ⟨w1.heap.size, 0, none⟩)) (ta.val sq) rfl rfl W8 HST8.out ?_)
        refine HEl.out.mono ?_
        rintro e w9 ⟨rfl, hb9⟩
        have HC9 : Hid (CtI w w9 w1.heap.size ta sq D (.slice va2 0 vc2)) := ⟨HCN.out.box.keep hb9, HCN.out.ty.keep hb9, HCN.out.ct, HCN.out.own.keep hb9 (Nat.le_refl _), rBelow HCN.out.below hb9⟩
        clear hb9 HEl HCN
        go_wp2_with fail
        go_roundw
        case rel => exact ⟨i + 1, _, ta, sq, D, rfl, by omega, by omega, hDn, by go_num, HC9⟩
        case measure => simp only [intOf]; omega
      | cons x0 r2 =>
        obtain ⟨kb, koff, hka, hk0⟩ := hks2.2 0 (by simp)
        subst hka
        simp only [Nat.add_zero, List.getD_cons_zero] at hk0
        have HEl := hide HEl
        have j1 : (0 : Int) < (((x0 :: r2).length : Nat) : Int) := by
          have : 0 < (x0 :: r2).length := by simp
          omega
        have j2 : 0 < (x0 :: r2).length := by simp
        clear hks2
        generalize (x0 :: r2).length = n2 at *
        go_wp2_with (first | refine wpList_store _ rfl rfl 24 (.tmp 3) (.tmp 114) rfl (.pointer (some ⟨w1.heap.size, 0, none⟩)) (ta.val sq) rfl rfl W8 HST8.out ?_)
        refine HEl.out.mono ?_
        rintro e w9 ⟨rfl, hb9⟩
        have HC9 : Hid (CtI w w9 w1.heap.size ta sq D (.slice (some ⟨kb, koff, none⟩) n2 vc2)) := ⟨HCN.out.box.keep hb9, HCN.out.ty.keep hb9, HCN.out.ct, HCN.out.own.keep hb9 (Nat.le_refl _), rBelow HCN.out.below hb9⟩
        clear hb9 HEl HCN
        go_wp2_with fail
        go_roundw
        case rel => exact ⟨i + 1, _, ta, sq, D, rfl, by omega, by omega, hDn, by go_num, HC9⟩
        case measure => simp only [intOf]; omega
    case inr.inr.inl =>
      have r4 : ((x : Nat) : Int) % 4 = 2 := by omega
      have HXp := hide hI.out.box
      have HTs := hide hI.out.ty
      have HO := hide hI.out.own
      have HB := hide hI.out.below
      have HCt := hide hI.out.ct
      have HPQ : Hid (w1.heap.size < wr.heap.size) := hI.out.box.blk.lt
      obtain ⟨W2, hst2, hbx2, hbb2⟩ := bxT wr t s hI.out.box.es
      have HST2 := hide hst2
      have px2 := (hbb2.cell (World.block_lt_of_cell? wr _ px)).trans px
      clear hI
      have a0 := HXp.out.blk.c0
      have a1 := HXp.out.blk.c1
      have a2 := HXp.out.blk.c2
      have a3 := HXp.out.blk.c3
      replace HXp := hide (HXp.out.keep hbb2)
      replace HTs := hide (HTs.out.keep hbb2)
      replace HO := hide (HO.out.keep hbb2 (Nat.le_refl _))
      replace HB := hide (rBelow HB.out hbb2)
      have HXq := hide hbx2
      clear hst2 hbx2 hbb2
      have pc0 := HXp.out.blk.c0
      have pc1 := HXp.out.blk.c1
      have pc2 := HXp.out.blk.c2
      have pc3 := HXp.out.blk.c3
      have HCl := HH.out.com t s tx W2 HXp.out.es (HXp.out.may HCt.out.may)
      rw [commitL_yes HCt.out.may] at HCl
      have hok : (commitT t tx).2.2 = 0 → Counted (commitT t tx).1 (D ++ [(tx, t.cm + 1)]) ∧ (commitT t tx).2.1 = t.cm + 1 := fun he => HCt.out.commit tx he
      have herr := @commit_err t tx 
      generalize (commitT t tx).2.1 = an at *
      generalize (commitT t tx).2.2 = ae at *
      generalize (commitT t tx).1 = ta at *
      have HCl := hide HCl
      have HOk := hide hok
      have HErr := hide herr
      clear hok herr
      go_wp2_with (first | refine wpList_store _ rfl rfl 24 (.tmp 7) (.tmp 33) rfl (.pointer (some ⟨wr.heap.size, 0, none⟩)) (t.val s) rfl rfl W2 HST2.out ?_)
      rw [← HTX.out]
      refine HCl.out.mono ?_
      rintro e w3 ⟨sq, rfl, heq, htq, hbq⟩
      have htq2 := htq HTs.out
      clear a0 a1 a2 a3 pc0 pc1 pc2 pc3 px py px2
      replace HXp := hide (HXp.out.keep hbq)
      replace HXq := hide (HXq.out.keep hbq)
      replace HTs := hide (HTs.out.keep hbq)
      replace HO := hide (HO.out.keep hbq (Nat.le_refl _))
      replace HB := hide (rBelow HB.out hbq)
      have HTq := hide htq2
      obtain ⟨W4, hst4, hbx4, hfr4⟩ := HXq.out.lay ta sq heq
      have HST4 := hide hst4
      replace HXp := hide (HXp.out.other HXq.out.blk hfr4 (by have := HPQ.out; omega))
      replace HTs := hide (HTs.out.other HXq.out.blk hfr4)
      replace HTq := hide (HTq.out.other HXq.out.blk hfr4)
      replace HO := hide (HO.out.otherT HXq.out.blk hfr4)
      replace HB := hide (HB.out.trans (hfr4.below HB.out.size (fun k hk => by have h1 := HPL.out; have h2 := HPQ.out; omega)))
      replace HXq := hide hbx4
      clear hst4 hbx4 hfr4 heq htq htq2 hbq
      clear HCl
      by_cases hez : ae = 0
      case pos =>
        subst hez
        obtain ⟨hC, hn⟩ := HOk.out rfl
        have HCT := hide hC
        subst hn
        have m0 := HCt.out.may.cm.1
        have m1 := HCt.out.may.cm.2
        have hDn : (D ++ [(tx, t.cm + 1)]).length ≤ i + 1 := by simp; omega
        have hB6 := below_alloc W4 (.cells #[.int .i64 tx] 3)
        have HV := hide (vs_one 3 W4 (.int .i64 tx) rfl)
        have HO6 := hide (HO.out.keep hB6 (Nat.le_refl _))
        have HB6 := hide (rBelow HB.out hB6)
        have HLEN : Hid ((kVals (D.map Prod.fst)).length + 1 ≤ 1000000) := by
          show _ ≤ _
          simp only [kVals, List.length_map]
          omega
        have HBA := hide hB6
        clear hB6 hC HOk HErr
        have pc0 := HXp.out.blk.c0
        have pc1 := HXp.out.blk.c1
        have pc2 := HXp.out.blk.c2
        have pc3 := HXp.out.blk.c3
        go_wp2_with (first | refine wpList_store _ rfl rfl 24 (.tmp 7) (.tmp 92) rfl (.pointer (some ⟨wr.heap.size, 0, none⟩)) (ta.val sq) rfl rfl W4 HST4.out ?_ | (at_builtin; refine wpList_append_vals oneIntT _ rfl (.tmp 102) (.tmp 104) rfl w.heap.size _ _ rfl HO6.out _ 1 1 [.int .i64 tx] rfl HV.out (fun h => by cases h) HLEN.out HB6.out.size ?_))
        intro v5 w5 ho5 hb5 hs5
        clear pc0 pc1 pc2 pc3
        replace HXp := hide ((HXp.out.keep HBA.out).stay (HTs.out.keep HBA.out) hs5)
        replace HXq := hide ((HXq.out.keep HBA.out).stay (HTq.out.keep HBA.out) hs5)
        replace HTs := hide ((HTs.out.keep HBA.out).stay hs5)
        replace HTq := hide ((HTq.out.keep HBA.out).stay hs5)
        replace HB := hide (HB6.out.trans hb5)
        have eo : kVals ((D ++ [(tx, t.cm + 1)]).map Prod.fst) = kVals (D.map Prod.fst) ++ [.int .i64 tx] := by simp [kVals]
        replace HO : Hid (OwnsV 3 w5 w.heap.size v5 (kVals ((D ++ [(tx, t.cm + 1)]).map Prod.fst))) := by show OwnsV _ _ _ _ _; rw [eo]; exact ho5
        obtain ⟨sv2, hsv2⟩ : ∃ sv2, sv2 = v5 := ⟨_, rfl⟩
        rw [← hsv2] at HO ⊢
        clear hsv2 ho5 hb5 hs5 eo HO6 HB6 HV HLEN HBA
        have qc0 := HXq.out.blk.c0
        have qc1 := HXq.out.blk.c1
        have qc2 := HXq.out.blk.c2
        have qc3 := HXq.out.blk.c3
        obtain ⟨W8, hst8, hbx8, hfr8⟩ := HXp.out.lay ta sq HXq.out.es
        have HST8 := hide hst8
        replace HXq := hide (HXq.out.other HXp.out.blk hfr8 (by have := HPQ.out; omega))
        replace HTs := hide (HTs.out.other HXp.out.blk hfr8)
        replace HTq := hide (HTq.out.other HXp.out.blk hfr8)
        replace HO := hide (HO.out.otherT HXp.out.blk hfr8)
        replace HB := hide (HB.out.trans (hfr8.below HB.out.size (fun k hk => by have h1 := HPL.out; have h2 := HPQ.out; omega)))
        replace HXp := hide hbx8
        clear hst8 hbx8 hfr8
        have HEl := eld_yes HH.out.all HCT.out.may sq W8 HXp.out.es
        rw [HCT.out.eldest] at HEl
        have HCN : Hid (CtI w W8 w1.heap.size ta sq (D ++ [(tx, t.cm + 1)]) sv2) := ⟨HXp.out, HTq.out, HCT.out, HO.out, HB.out⟩
        obtain ⟨L2, hL2⟩ : ∃ L2, L2 = ((D ++ [(tx, t.cm + 1)])).map Prod.fst := ⟨_, rfl⟩
        have HO2 := HO.out
        rw [← hL2] at HEl HO2
        obtain ⟨va2, vc2, hv2, hvs2, _, _⟩ := HO2.vs (kVals_oneT _)
        have hkl : (kVals L2).length = L2.length := by simp [kVals]
        rw [hkl] at hv2 hvs2
        have hks2 := ks_of_vsT hvs2
        subst hv2
        clear hL2 HO2 hvs2 hkl
        have d0 := HXp.out.blk.c0
        have d1 := HXp.out.blk.c1
        have d2 := HXp.out.blk.c2
        have d3 := HXp.out.blk.c3
        cases L2 with
        | nil =>
          have HEl := hide HEl
          simp only [List.length_nil]
          simp only [List.length_nil] at HCN hks2
          clear hks2
          go_wp2_with (first | refine wpList_store _ rfl rfl 24 (.tmp 3) (.tmp 114) rfl (.pointer (some ⟨w1.heap.size, 0, none⟩)) (ta.val sq) rfl rfl W8 HST8.out ?_)
          refine HEl.out.mono ?_
          rintro e w9 ⟨rfl, hb9⟩
          have HC9 : Hid (CtI w w9 w1.heap.size ta sq (D ++ [(tx, t.cm + 1)]) (.slice va2 0 vc2)) := ⟨HCN.out.box.keep hb9, HCN.out.ty.keep hb9, HCN.out.ct, HCN.out.own.keep hb9 (Nat.le_refl _), rBelow HCN.out.below hb9⟩
          clear hb9 HEl HCN
          go_wp2_with fail
          go_roundw
          case rel => exact ⟨i + 1, _, ta, sq, (D ++ [(tx, t.cm + 1)]), rfl, by omega, by omega, hDn, by go_num, HC9⟩
          case measure => simp only [intOf]; omega
        | cons x0 r2 =>
          obtain ⟨kb, koff, hka, hk0⟩ := hks2.2 0 (by simp)
          subst hka
          simp only [Nat.add_zero, List.getD_cons_zero] at hk0
          have HEl := hide HEl
          have j1 : (0 : Int) < (((x0 :: r2).length : Nat) : Int) := by
            have : 0 < (x0 :: r2).length := by simp
            omega
          have j2 : 0 < (x0 :: r2).length := by simp
          clear hks2
          generalize (x0 :: r2).length = n2 at *
          go_wp2_with (first | refine wpList_store _ rfl rfl 24 (.tmp 3) (.tmp 114) rfl (.pointer (some ⟨w1.heap.size, 0, none⟩)) (ta.val sq) rfl rfl W8 HST8.out ?_)
          refine HEl.out.mono ?_
          rintro e w9 ⟨rfl, hb9⟩
          have HC9 : Hid (CtI w w9 w1.heap.size ta sq (D ++ [(tx, t.cm + 1)]) (.slice (some ⟨kb, koff, none⟩) n2 vc2)) := ⟨HCN.out.box.keep hb9, HCN.out.ty.keep hb9, HCN.out.ct, HCN.out.own.keep hb9 (Nat.le_refl _), rBelow HCN.out.below hb9⟩
          clear hb9 HEl HCN
          go_wp2_with fail
          go_roundw
          case rel => exact ⟨i + 1, _, ta, sq, (D ++ [(tx, t.cm + 1)]), rfl, by omega, by omega, hDn, by go_num, HC9⟩
          case measure => simp only [intOf]; omega
      have e1 : (ae != 0) = true := by simp; exact hez
      have e2 : (ae == 0) = false := by simp; exact hez
      have e3 : ¬ ae = 0 := hez
      have hta := HErr.out hez
      have HCT : Hid (Counted ta D) := by show Counted ta D; rw [hta]; exact HCt.out
      subst hta
      have hDn : D.length ≤ i + 1 := by omega
      obtain ⟨sv2, hsv2⟩ : ∃ sv2, sv2 = sv := ⟨_, rfl⟩
      rw [← hsv2] at HO ⊢
      clear hsv2 HOk HErr
      have pc0 := HXp.out.blk.c0
      have pc1 := HXp.out.blk.c1
      have pc2 := HXp.out.blk.c2
      have pc3 := HXp.out.blk.c3
      have qc0 := HXq.out.blk.c0
      have qc1 := HXq.out.blk.c1
      have qc2 := HXq.out.blk.c2
      have qc3 := HXq.out.blk.c3
      have HSm := hide (same_yes ta sq s W4 HXq.out.es HXp.out.es)
      go_wp2_with (first | refine wpList_store _ rfl rfl 24 (.tmp 7) (.tmp 92) rfl (.pointer (some ⟨wr.heap.size, 0, none⟩)) (ta.val sq) rfl rfl W4 HST4.out ?_)
      refine HSm.out.mono ?_
      rintro e w7 ⟨rfl, hb7⟩
      clear pc0 pc1 pc2 pc3 qc0 qc1 qc2 qc3
      replace HXp := hide (HXp.out.keep hb7)
      replace HXq := hide (HXq.out.keep hb7)
      replace HTs := hide (HTs.out.keep hb7)
      replace HTq := hide (HTq.out.keep hb7)
      replace HO := hide (HO.out.keep hb7 (Nat.le_refl _))
      replace HB := hide (rBelow HB.out hb7)
      clear hb7 HSm
      have qc0 := HXq.out.blk.c0
      have qc1 := HXq.out.blk.c1
      have qc2 := HXq.out.blk.c2
      have qc3 := HXq.out.blk.c3
      obtain ⟨W8, hst8, hbx8, hfr8⟩ := HXp.out.lay ta sq HXq.out.es
      have HST8 := hide hst8
      replace HXq := hide (HXq.out.other HXp.out.blk hfr8 (by have := HPQ.out; omega))
      replace HTs := hide (HTs.out.other HXp.out.blk hfr8)
      replace HTq := hide (HTq.out.other HXp.out.blk hfr8)
      replace HO := hide (HO.out.otherT HXp.out.blk hfr8)
      replace HB := hide (HB.out.trans (hfr8.below HB.out.size (fun k hk => by have h1 := HPL.out; have h2 := HPQ.out; omega)))
      replace HXp := hide hbx8
      clear hst8 hbx8 hfr8
      have HEl := eld_yes HH.out.all HCT.out.may sq W8 HXp.out.es
      rw [HCT.out.eldest] at HEl
      have HCN : Hid (CtI w W8 w1.heap.size ta sq D sv2) := ⟨HXp.out, HTq.out, HCT.out, HO.out, HB.out⟩
      obtain ⟨L2, hL2⟩ : ∃ L2, L2 = (D).map Prod.fst := ⟨_, rfl⟩
      have HO2 := HO.out
      rw [← hL2] at HEl HO2
      obtain ⟨va2, vc2, hv2, hvs2, _, _⟩ := HO2.vs (kVals_oneT _)
      have hkl : (kVals L2).length = L2.length := by simp [kVals]
      rw [hkl] at hv2 hvs2
      have hks2 := ks_of_vsT hvs2
      subst hv2
      clear hL2 HO2 hvs2 hkl
      have d0 := HXp.out.blk.c0
      have d1 := HXp.out.blk.c1
      have d2 := HXp.out.blk.c2
      have d3 := HXp.out.blk.c3
      cases L2 with
      | nil =>
        have HEl := hide HEl
        simp only [List.length_nil]
        simp only [List.length_nil] at HCN hks2
        clear hks2
        go_wp2_with (first | refine wpList_store _ rfl rfl 24 (.tmp 3) (.tmp 114) rfl (.pointer (some ⟨w1.heap.size, 0, none⟩)) (ta.val sq) rfl rfl W8 HST8.out ?_)
        refine HEl.out.mono ?_
        rintro e w9 ⟨rfl, hb9⟩
        have HC9 : Hid (CtI w w9 w1.heap.size ta sq D (.slice va2 0 vc2)) := ⟨HCN.out.box.keep hb9, HCN.out.ty.keep hb9, HCN.out.ct, HCN.out.own.keep hb9 (Nat.le_refl _), rBelow HCN.out.below hb9⟩
        clear hb9 HEl HCN
        go_wp2_with fail
        go_roundw
        case rel => exact ⟨i + 1, _, ta, sq, D, rfl, by omega, by omega, hDn, by go_num, HC9⟩
        case measure => simp only [intOf]; omega
      | cons x0 r2 =>
        obtain ⟨kb, koff, hka, hk0⟩ := hks2.2 0 (by simp)
        subst hka
        simp only [Nat.add_zero, List.getD_cons_zero] at hk0
        have HEl := hide HEl
        have j1 : (0 : Int) < (((x0 :: r2).length : Nat) : Int) := by
          have : 0 < (x0 :: r2).length := by simp
          omega
        have j2 : 0 < (x0 :: r2).length := by simp
        clear hks2
        generalize (x0 :: r2).length = n2 at *
        go_wp2_with (first | refine wpList_store _ rfl rfl 24 (.tmp 3) (.tmp 114) rfl (.pointer (some ⟨w1.heap.size, 0, none⟩)) (ta.val sq) rfl rfl W8 HST8.out ?_)
        refine HEl.out.mono ?_
        rintro e w9 ⟨rfl, hb9⟩
        have HC9 : Hid (CtI w w9 w1.heap.size ta sq D (.slice (some ⟨kb, koff, none⟩) n2 vc2)) := ⟨HCN.out.box.keep hb9, HCN.out.ty.keep hb9, HCN.out.ct, HCN.out.own.keep hb9 (Nat.le_refl _), rBelow HCN.out.below hb9⟩
        clear hb9 HEl HCN
        go_wp2_with fail
        go_roundw
        case rel => exact ⟨i + 1, _, ta, sq, D, rfl, by omega, by omega, hDn, by go_num, HC9⟩
        case measure => simp only [intOf]; omega
    case inr.inr.inr =>
      have r4 : ((x : Nat) : Int) % 4 = 3 := by omega
      have HXp := hide hI.out.box
      have HTs := hide hI.out.ty
      have HO := hide hI.out.own
      have HB := hide hI.out.below
      have HCt := hide hI.out.ct
      have HPQ : Hid (w1.heap.size < wr.heap.size) := hI.out.box.blk.lt
      obtain ⟨W2, hst2, hbx2, hbb2⟩ := bxT wr t s hI.out.box.es
      have HST2 := hide hst2
      have px2 := (hbb2.cell (World.block_lt_of_cell? wr _ px)).trans px
      clear hI
      have a0 := HXp.out.blk.c0
      have a1 := HXp.out.blk.c1
      have a2 := HXp.out.blk.c2
      have a3 := HXp.out.blk.c3
      replace HXp := hide (HXp.out.keep hbb2)
      replace HTs := hide (HTs.out.keep hbb2)
      replace HO := hide (HO.out.keep hbb2 (Nat.le_refl _))
      replace HB := hide (rBelow HB.out hbb2)
      have HXq := hide hbx2
      clear hst2 hbx2 hbb2
      have pc0 := HXp.out.blk.c0
      have pc1 := HXp.out.blk.c1
      have pc2 := HXp.out.blk.c2
      have pc3 := HXp.out.blk.c3
      have HCl := HH.out.lea t s tx W2 HXp.out.es (HXp.out.may HCt.out.may)
      rw [leaveL_yes HCt.out.may] at HCl
      have hok : (leaveT t tx).2 = 0 → Counted (leaveT t tx).1 (D.filter (fun a => a.1 != tx)) := fun he => HCt.out.leave tx he
      have herr := @leave_err t tx 
      generalize (leaveT t tx).2 = ae at *
      generalize (leaveT t tx).1 = ta at *
      have HCl := hide HCl
      have HOk := hide hok
      have HErr := hide herr
      clear hok herr
      go_wp2_with (first | refine wpList_store _ rfl rfl 24 (.tmp 7) (.tmp 33) rfl (.pointer (some ⟨wr.heap.size, 0, none⟩)) (t.val s) rfl rfl W2 HST2.out ?_)
      rw [← HTX.out]
      refine HCl.out.mono ?_
      rintro e w3 ⟨sq, rfl, heq, htq, hbq⟩
      have htq2 := htq HTs.out
      clear a0 a1 a2 a3 pc0 pc1 pc2 pc3 px py px2
      replace HXp := hide (HXp.out.keep hbq)
      replace HXq := hide (HXq.out.keep hbq)
      replace HTs := hide (HTs.out.keep hbq)
      replace HO := hide (HO.out.keep hbq (Nat.le_refl _))
      replace HB := hide (rBelow HB.out hbq)
      have HTq := hide htq2
      obtain ⟨W4, hst4, hbx4, hfr4⟩ := HXq.out.lay ta sq heq
      have HST4 := hide hst4
      replace HXp := hide (HXp.out.other HXq.out.blk hfr4 (by have := HPQ.out; omega))
      replace HTs := hide (HTs.out.other HXq.out.blk hfr4)
      replace HTq := hide (HTq.out.other HXq.out.blk hfr4)
      replace HO := hide (HO.out.otherT HXq.out.blk hfr4)
      replace HB := hide (HB.out.trans (hfr4.below HB.out.size (fun k hk => by have h1 := HPL.out; have h2 := HPQ.out; omega)))
      replace HXq := hide hbx4
      clear hst4 hbx4 hfr4 heq htq htq2 hbq
      clear HCl
      have hOl := HO.out
      have HW4 : Hid (w.heap.size ≤ W4.heap.size) := HB.out.size
      obtain ⟨LL, hLL⟩ : ∃ LL, LL = D.map Prod.fst := ⟨_, rfl⟩
      have hLn : LL.length ≤ 100 := by rw [hLL, List.length_map]; omega
      rw [← hLL] at hOl
      obtain ⟨va2, vc2, hv2, hvs2, _, _⟩ := hOl.vs (kVals_oneT _)
      have hkl : (kVals LL).length = LL.length := by simp [kVals]
      rw [hkl] at hv2 hvs2
      have hks := hide (ks_of_vsT hvs2)
      obtain ⟨n, hn⟩ : ∃ n, n = LL.length := ⟨_, rfl⟩
      rw [← hn] at hv2 hks hLn
      subst hv2
      have HLL := hide hLL
      have HLn := hide hn
      have HR0 : Hid (OwnsV 3 (W4.alloc (.cells #[] 3)) W4.heap.size (.slice (some ⟨W4.heap.size, 0, none⟩) 0 0) (kVals (restP LL tx 0))) := OwnsV.lit 3 W4 W4.heap.size [] (Nat.le_refl _) (by decide)
      have HRB := hide (below_alloc W4 (.cells #[] 3))
      clear hOl hvs2 hkl hLL hn
      go_wp2_with (first | refine wpList_store _ rfl rfl 24 (.tmp 7) (.tmp 44) rfl (.pointer (some ⟨wr.heap.size, 0, none⟩)) (ta.val sq) rfl rfl W4 HST4.out ?_)
      go_loopw [10, 11] (fun rvx kv wq => ∃ (k : Nat) (rv : Value), rv = rvx ∧ k ≤ n ∧ kv = .int .i64 (k : Nat) ∧ Hid (OwnsV 3 wq W4.heap.size rv (kVals (restP LL tx k))) ∧ Hid (Below W4.heap.size W4 wq)) (fun _ kv _ => n - (intOf kv).toNat)
      case atStart => exact ⟨0, _, rfl, Nat.zero_le _, rfl, HR0, HRB⟩
      case round =>
        obtain ⟨k, rv, rfl, hk, rfl, hro, hrb⟩ := hrel
        rename World => wk
        rcases Nat.lt_or_ge k n with hlk | hgk
        · have k1 : ((k : Nat) : Int) < ((n : Nat) : Int) := by omega
          obtain ⟨kb, koff, hka, hkc⟩ := (hks.out.keep hrb.out (Nat.le_refl _)).2 k hlk
          subst hka
          have HSc := hide (restP_succ (L := LL) (tx := tx) (k := k) (by rw [← HLn.out]; exact hlk))
          generalize LL.getD k 0 = z at *
          by_cases hz : z = tx
          · have HR1 : Hid (OwnsV 3 wk W4.heap.size rv (kVals (restP LL tx (k + 1)))) := by show OwnsV _ _ _ _ _; rw [HSc.out, if_pos hz, List.append_nil]; exact hro.out
            have z1 : (z != tx) = false := by simp; exact hz
            clear HSc hro
            go_wp2_with fail
            go_roundw
            case rel => exact ⟨k + 1, _, rfl, by omega, by go_num, HR1, hrb⟩
            case measure => simp only [intOf]; omega
          · have z1 : (z != tx) = true := by simp; exact hz
            have z2 : (z == tx) = false := by simp; exact hz
            have hB6 := below_alloc wk (.cells #[.int .i64 z] 3)
            have HV := hide (vs_one 3 wk (.int .i64 z) rfl)
            have HO6 := hide (hro.out.keep hB6 (Nat.le_refl _))
            have HB6 := hide (rBelow hrb.out hB6)
            have hkc2 := (hB6.cell (World.block_lt_of_cell? wk _ hkc)).trans hkc
            have HLEN : Hid ((kVals (restP LL tx k)).length + 1 ≤ 1000000) := by
              show _ ≤ _
              have := restP_len LL tx k
              simp only [kVals, List.length_map]
              omega
            clear hB6 hro
            go_wp2_with (at_builtin; refine wpList_append_vals oneIntT _ rfl (.tmp 59) (.tmp 64) rfl W4.heap.size _ _ rfl HO6.out _ 1 1 [.int .i64 z] rfl HV.out (fun h => by cases h) HLEN.out HB6.out.size ?_)
            intro v5 w5 ho5 hb5 hs5
            have HR1 : Hid (OwnsV 3 w5 W4.heap.size v5 (kVals (restP LL tx (k + 1)))) := by
              show OwnsV _ _ _ _ _
              rw [HSc.out, if_neg hz]
              have eo : kVals (restP LL tx k ++ [z]) = kVals (restP LL tx k) ++ [.int .i64 z] := by simp [kVals]
              rw [eo]
              exact ho5
            have HB7 := hide (HB6.out.trans hb5)
            clear ho5 hb5 hs5 HSc HO6 HB6
            go_wp2_with fail
            go_roundw
            case rel => exact ⟨k + 1, _, rfl, by omega, by go_num, HR1, HB7⟩
            case measure => simp only [intOf]; omega
        have k1 : ¬ ((k : Nat) : Int) < ((n : Nat) : Int) := by omega
        have hkn : k = LL.length := by have := HLn.out; omega
        replace HXp := hide (HXp.out.keep hrb.out)
        replace HXq := hide (HXq.out.keep hrb.out)
        replace HTs := hide (HTs.out.keep hrb.out)
        replace HTq := hide (HTq.out.keep hrb.out)
        replace HO := hide (HO.out.keep hrb.out (Nat.le_refl _))
        replace HB := hide (rBelow HB.out hrb.out)
        by_cases hez : ae = 0
        case pos =>
          subst hez
          have HCT := hide (HOk.out rfl)
          have hDn : (D.filter (fun a => a.1 != tx)).length ≤ i + 1 := Nat.le_trans (List.length_filter_le _ _) (by omega)
          have eo : restP LL tx k = (D.filter (fun a => a.1 != tx)).map Prod.fst := by rw [hkn, restP_all, fst_filter, HLL.out]
          replace HO : Hid (OwnsV 3 wk w.heap.size rv (kVals ((D.filter (fun a => a.1 != tx)).map Prod.fst))) := by
            show OwnsV _ _ _ _ _
            rw [← eo]
            exact hro.out.lower HW4.out
          obtain ⟨sv2, hsv2⟩ : ∃ sv2, sv2 = rv := ⟨_, rfl⟩
          rw [← hsv2] at HO ⊢
          clear hsv2 hro hrb eo HOk HErr hks
          have qc0 := HXq.out.blk.c0
          have qc1 := HXq.out.blk.c1
          have qc2 := HXq.out.blk.c2
          have qc3 := HXq.out.blk.c3
          obtain ⟨W8, hst8, hbx8, hfr8⟩ := HXp.out.lay ta sq HXq.out.es
          have HST8 := hide hst8
          replace HXq := hide (HXq.out.other HXp.out.blk hfr8 (by have := HPQ.out; omega))
          replace HTs := hide (HTs.out.other HXp.out.blk hfr8)
          replace HTq := hide (HTq.out.other HXp.out.blk hfr8)
          replace HO := hide (HO.out.otherT HXp.out.blk hfr8)
          replace HB := hide (HB.out.trans (hfr8.below HB.out.size (fun k hk => by have h1 := HPL.out; have h2 := HPQ.out; omega)))
          replace HXp := hide hbx8
          clear hst8 hbx8 hfr8
          have HEl := eld_yes HH.out.all HCT.out.may sq W8 HXp.out.es
          rw [HCT.out.eldest] at HEl
          have HCN : Hid (CtI w W8 w1.heap.size ta sq (D.filter (fun a => a.1 != tx)) sv2) := ⟨HXp.out, HTq.out, HCT.out, HO.out, HB.out⟩
          obtain ⟨L2, hL2⟩ : ∃ L2, L2 = ((D.filter (fun a => a.1 != tx))).map Prod.fst := ⟨_, rfl⟩
          have HO2 := HO.out
          rw [← hL2] at HEl HO2
          obtain ⟨va2, vc2, hv2, hvs2, _, _⟩ := HO2.vs (kVals_oneT _)
          have hkl : (kVals L2).length = L2.length := by simp [kVals]
          rw [hkl] at hv2 hvs2
          have hks2 := ks_of_vsT hvs2
          subst hv2
          clear hL2 HO2 hvs2 hkl
          have d0 := HXp.out.blk.c0
          have d1 := HXp.out.blk.c1
          have d2 := HXp.out.blk.c2
          have d3 := HXp.out.blk.c3
          cases L2 with
          | nil =>
            have HEl := hide HEl
            simp only [List.length_nil]
            simp only [List.length_nil] at HCN hks2
            clear hks2
            go_wp2_with (first | refine wpList_store _ rfl rfl 24 (.tmp 3) (.tmp 114) rfl (.pointer (some ⟨w1.heap.size, 0, none⟩)) (ta.val sq) rfl rfl W8 HST8.out ?_)
            refine HEl.out.mono ?_
            rintro e w9 ⟨rfl, hb9⟩
            have HC9 : Hid (CtI w w9 w1.heap.size ta sq (D.filter (fun a => a.1 != tx)) (.slice va2 0 vc2)) := ⟨HCN.out.box.keep hb9, HCN.out.ty.keep hb9, HCN.out.ct, HCN.out.own.keep hb9 (Nat.le_refl _), rBelow HCN.out.below hb9⟩
            clear hb9 HEl HCN
            go_wp2_with fail
            go_roundw
            case rel => exact ⟨i + 1, _, ta, sq, (D.filter (fun a => a.1 != tx)), rfl, by omega, by omega, hDn, by go_num, HC9⟩
            case measure => simp only [intOf]; omega
          | cons x0 r2 =>
            obtain ⟨kb, koff, hka, hk0⟩ := hks2.2 0 (by simp)
            subst hka
            simp only [Nat.add_zero, List.getD_cons_zero] at hk0
            have HEl := hide HEl
            have j1 : (0 : Int) < (((x0 :: r2).length : Nat) : Int) := by
              have : 0 < (x0 :: r2).length := by simp
              omega
            have j2 : 0 < (x0 :: r2).length := by simp
            clear hks2
            generalize (x0 :: r2).length = n2 at *
            go_wp2_with (first | refine wpList_store _ rfl rfl 24 (.tmp 3) (.tmp 114) rfl (.pointer (some ⟨w1.heap.size, 0, none⟩)) (ta.val sq) rfl rfl W8 HST8.out ?_)
            refine HEl.out.mono ?_
            rintro e w9 ⟨rfl, hb9⟩
            have HC9 : Hid (CtI w w9 w1.heap.size ta sq (D.filter (fun a => a.1 != tx)) (.slice (some ⟨kb, koff, none⟩) n2 vc2)) := ⟨HCN.out.box.keep hb9, HCN.out.ty.keep hb9, HCN.out.ct, HCN.out.own.keep hb9 (Nat.le_refl _), rBelow HCN.out.below hb9⟩
            clear hb9 HEl HCN
            go_wp2_with fail
            go_roundw
            case rel => exact ⟨i + 1, _, ta, sq, (D.filter (fun a => a.1 != tx)), rfl, by omega, by omega, hDn, by go_num, HC9⟩
            case measure => simp only [intOf]; omega
        have e1 : (ae != 0) = true := by simp; exact hez
        have e2 : (ae == 0) = false := by simp; exact hez
        have e3 : ¬ ae = 0 := hez
        have hta := HErr.out hez
        have HCT : Hid (Counted ta D) := by show Counted ta D; rw [hta]; exact HCt.out
        subst hta
        have hDn : D.length ≤ i + 1 := by omega
        clear HOk HErr hro hrb hks
        have pc0 := HXp.out.blk.c0
        have pc1 := HXp.out.blk.c1
        have pc2 := HXp.out.blk.c2
        have pc3 := HXp.out.blk.c3
        have qc0 := HXq.out.blk.c0
        have qc1 := HXq.out.blk.c1
        have qc2 := HXq.out.blk.c2
        have qc3 := HXq.out.blk.c3
        have HSm := hide (same_yes ta sq s wk HXq.out.es HXp.out.es)
        go_wp2_with fail
        refine HSm.out.mono ?_
        rintro e w7 ⟨rfl, hb7⟩
        clear pc0 pc1 pc2 pc3 qc0 qc1 qc2 qc3
        replace HXp := hide (HXp.out.keep hb7)
        replace HXq := hide (HXq.out.keep hb7)
        replace HTs := hide (HTs.out.keep hb7)
        replace HTq := hide (HTq.out.keep hb7)
        replace HO := hide (HO.out.keep hb7 (Nat.le_refl _))
        replace HB := hide (rBelow HB.out hb7)
        clear hb7 HSm
        obtain ⟨sv2, hsv2⟩ : ∃ sv2, sv2 = Value.slice va2 n vc2 := ⟨_, rfl⟩
        rw [← hsv2] at HO ⊢
        clear hsv2
        have qc0 := HXq.out.blk.c0
        have qc1 := HXq.out.blk.c1
        have qc2 := HXq.out.blk.c2
        have qc3 := HXq.out.blk.c3
        obtain ⟨W8, hst8, hbx8, hfr8⟩ := HXp.out.lay ta sq HXq.out.es
        have HST8 := hide hst8
        replace HXq := hide (HXq.out.other HXp.out.blk hfr8 (by have := HPQ.out; omega))
        replace HTs := hide (HTs.out.other HXp.out.blk hfr8)
        replace HTq := hide (HTq.out.other HXp.out.blk hfr8)
        replace HO := hide (HO.out.otherT HXp.out.blk hfr8)
        replace HB := hide (HB.out.trans (hfr8.below HB.out.size (fun k hk => by have h1 := HPL.out; have h2 := HPQ.out; omega)))
        replace HXp := hide hbx8
        clear hst8 hbx8 hfr8
        have HEl := eld_yes HH.out.all HCT.out.may sq W8 HXp.out.es
        rw [HCT.out.eldest] at HEl
        have HCN : Hid (CtI w W8 w1.heap.size ta sq D sv2) := ⟨HXp.out, HTq.out, HCT.out, HO.out, HB.out⟩
        obtain ⟨L2, hL2⟩ : ∃ L2, L2 = (D).map Prod.fst := ⟨_, rfl⟩
        have HO2 := HO.out
        rw [← hL2] at HEl HO2
        obtain ⟨va2, vc2, hv2, hvs2, _, _⟩ := HO2.vs (kVals_oneT _)
        have hkl : (kVals L2).length = L2.length := by simp [kVals]
        rw [hkl] at hv2 hvs2
        have hks2 := ks_of_vsT hvs2
        subst hv2
        clear hL2 HO2 hvs2 hkl
        have d0 := HXp.out.blk.c0
        have d1 := HXp.out.blk.c1
        have d2 := HXp.out.blk.c2
        have d3 := HXp.out.blk.c3
        cases L2 with
        | nil =>
          have HEl := hide HEl
          simp only [List.length_nil]
          simp only [List.length_nil] at HCN hks2
          clear hks2
          go_wp2_with (first | refine wpList_store _ rfl rfl 24 (.tmp 3) (.tmp 114) rfl (.pointer (some ⟨w1.heap.size, 0, none⟩)) (ta.val sq) rfl rfl W8 HST8.out ?_)
          refine HEl.out.mono ?_
          rintro e w9 ⟨rfl, hb9⟩
          have HC9 : Hid (CtI w w9 w1.heap.size ta sq D (.slice va2 0 vc2)) := ⟨HCN.out.box.keep hb9, HCN.out.ty.keep hb9, HCN.out.ct, HCN.out.own.keep hb9 (Nat.le_refl _), rBelow HCN.out.below hb9⟩
          clear hb9 HEl HCN
          go_wp2_with fail
          go_roundw
          case rel => exact ⟨i + 1, _, ta, sq, D, rfl, by omega, by omega, hDn, by go_num, HC9⟩
          case measure => simp only [intOf]; omega
        | cons x0 r2 =>
          obtain ⟨kb, koff, hka, hk0⟩ := hks2.2 0 (by simp)
          subst hka
          simp only [Nat.add_zero, List.getD_cons_zero] at hk0
          have HEl := hide HEl
          have j1 : (0 : Int) < (((x0 :: r2).length : Nat) : Int) := by
            have : 0 < (x0 :: r2).length := by simp
            omega
          have j2 : 0 < (x0 :: r2).length := by simp
          clear hks2
          generalize (x0 :: r2).length = n2 at *
          go_wp2_with (first | refine wpList_store _ rfl rfl 24 (.tmp 3) (.tmp 114) rfl (.pointer (some ⟨w1.heap.size, 0, none⟩)) (ta.val sq) rfl rfl W8 HST8.out ?_)
          refine HEl.out.mono ?_
          rintro e w9 ⟨rfl, hb9⟩
          have HC9 : Hid (CtI w w9 w1.heap.size ta sq D (.slice (some ⟨kb, koff, none⟩) n2 vc2)) := ⟨HCN.out.box.keep hb9, HCN.out.ty.keep hb9, HCN.out.ct, HCN.out.own.keep hb9 (Nat.le_refl _), rBelow HCN.out.below hb9⟩
          clear hb9 HEl HCN
          go_wp2_with fail
          go_roundw
          case rel => exact ⟨i + 1, _, ta, sq, D, rfl, by omega, by omega, hDn, by go_num, HC9⟩
          case measure => simp only [intOf]; omega

end Go.Proofs.Ytdbgbldmjgonjaa
