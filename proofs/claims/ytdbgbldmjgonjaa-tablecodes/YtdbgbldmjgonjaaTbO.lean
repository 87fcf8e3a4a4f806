/-
  What the functions of table say; awake and none of the laws; the law of any bytes.
-/
import Derived.Test.YtdbgbldmjgonjaaTbM
import Derived.Test.YtdbgbldmjgonjaaTbN
import Derived.Test.YtdbgbldmjgonjaaTbH
namespace Go.Proofs.Ytdbgbldmjgonjaa
open Go.RowKit
set_option linter.unusedVariables false

/-! ### What the functions of table say -/
noncomputable def enterL (t : Tb) (tx : Int) : Tb × Int × Int := if mayB t then enterT t tx else (Tb.zero, -1, 1)
noncomputable def writeL (t : Tb) (tx c : Int) : Tb × Int := if mayB t then writeT t tx c else (Tb.zero, 1)
noncomputable def commitL (t : Tb) (tx : Int) : Tb × Int × Int := if mayB t then commitT t tx else (Tb.zero, 0, 1)
noncomputable def leaveL (t : Tb) (tx : Int) : Tb × Int := if mayB t then leaveT t tx else (Tb.zero, 1)
noncomputable def findL (t : Tb) (tx : Int) : Int := if mayB t then ixN (findN t tx) else -1
noncomputable def liveL (t : Tb) : List Int := if mayB t then liveT t else []
noncomputable def eldestL (t : Tb) : Int := if mayB t then eldestT t else 0
noncomputable def checkL (t : Tb) : Int := if mayB t then 0 else 1

def FirstTS : Prop := ∀ w, Calls Try.prog 19 #[] w (TbTold firstT w id)
def CheckTS : Prop := ∀ t v w, Es w v t.es → v.len ≤ 100 → Calls Try.prog 11 #[t.val v] w fun e w' => e = .returned (.int .i64 (checkL t)) ∧ Below w.heap.size w w'
def EncTS : Prop := ∀ t v w, Es w v t.es → v.len ≤ 100 → Calls Try.prog 9 #[t.val v] w fun e w' => ∃ u, e = .returned (.tuple #[u, .int .i64 (checkL t)]) ∧ Below w.heap.size w w' ∧ (mayB t = true → Owns w' w.heap.size u (pageT t)) ∧ (mayB t = false → ∃ a c, u = .slice a 0 c)
def DecTS : Prop := ∀ a len cap xs w, Came w a len cap xs → len ≤ 100000 → Calls Try.prog 15 #[.slice a len cap] w (TbTold (decT xs).1 w (fun x => .tuple #[x, .int .i64 (decT xs).2]))
def FindTS : Prop := ∀ t v tx w, Es w v t.es → v.len ≤ 100 → Calls Try.prog 14 #[t.val v, .int .i64 tx] w fun e w' => e = .returned (.int .i64 (findL t tx)) ∧ Below w.heap.size w w'
def LiveTS : Prop := ∀ t v w, Es w v t.es → v.len ≤ 100 → Calls Try.prog 12 #[t.val v] w fun e w' => ∃ s, e = .returned s ∧ OwnsV 3 w' w.heap.size s (kVals (liveL t)) ∧ Below w.heap.size w w'
def EldTS : Prop := ∀ t v w, Es w v t.es → v.len ≤ 100 → Calls Try.prog 13 #[t.val v] w fun e w' => e = .returned (.int .i64 (eldestL t)) ∧ Below w.heap.size w w'
def EntTS : Prop := ∀ t v tx w, Es w v t.es → v.len ≤ 100 → Calls Try.prog 21 #[t.val v, .int .i64 tx] w (TbTold (enterL t tx).1 w (fun x => .tuple #[x, .int .i64 (enterL t tx).2.1, .int .i64 (enterL t tx).2.2]))
def WriTS : Prop := ∀ t v tx c w, Es w v t.es → v.len ≤ 100 → Calls Try.prog 22 #[t.val v, .int .i64 tx, .int .i64 c] w (TbTold (writeL t tx c).1 w (fun x => .tuple #[x, .int .i64 (writeL t tx c).2]))
def ComTS : Prop := ∀ t v tx w, Es w v t.es → v.len ≤ 100 → Calls Try.prog 23 #[t.val v, .int .i64 tx] w (TbTold (commitL t tx).1 w (fun x => .tuple #[x, .int .i64 (commitL t tx).2.1, .int .i64 (commitL t tx).2.2]))
def LeaTS : Prop := ∀ t v tx w, Es w v t.es → v.len ≤ 100 → Calls Try.prog 24 #[t.val v, .int .i64 tx] w (TbTold (leaveL t tx).1 w (fun x => .tuple #[x, .int .i64 (leaveL t tx).2]))
def SameTS : Prop := ∀ t v u s w, Es w v t.es → Es w s u.es → v.len ≤ 100 → s.len ≤ 100 → Calls Try.prog 34 #[t.val v, u.val s] w fun e w' => e = .returned (.bool (sameT t u)) ∧ Below w.heap.size w w'
def AwakeT : Prop := ∀ w, Calls Try.prog 8 #[] w fun e w' => e = .returned (.bool true) ∧ Below w.heap.size w w'

theorem enterL_yes {t : Tb} (h : t.May) (tx : Int) : enterL t tx = enterT t tx := by unfold enterL; rw [mayB_yes h]; rfl
theorem writeL_yes {t : Tb} (h : t.May) (tx c : Int) : writeL t tx c = writeT t tx c := by unfold writeL; rw [mayB_yes h]; rfl
theorem commitL_yes {t : Tb} (h : t.May) (tx : Int) : commitL t tx = commitT t tx := by unfold commitL; rw [mayB_yes h]; rfl
theorem leaveL_yes {t : Tb} (h : t.May) (tx : Int) : leaveL t tx = leaveT t tx := by unfold leaveL; rw [mayB_yes h]; rfl
theorem findL_yes {t : Tb} (h : t.May) (tx : Int) : findL t tx = ixN (findN t tx) := by unfold findL; rw [mayB_yes h]; rfl
theorem liveL_yes {t : Tb} (h : t.May) : liveL t = liveT t := by unfold liveL; rw [mayB_yes h]; rfl
theorem eldestL_yes {t : Tb} (h : t.May) : eldestL t = eldestT t := by unfold eldestL; rw [mayB_yes h]; rfl
theorem checkL_yes {t : Tb} (h : t.May) : checkL t = 0 := by unfold checkL; rw [mayB_yes h]; rfl
theorem enterL_no {t : Tb} (h : mayB t = false) (tx : Int) : enterL t tx = (Tb.zero, -1, 1) := by unfold enterL; rw [h]; rfl
theorem writeL_no {t : Tb} (h : mayB t = false) (tx c : Int) : writeL t tx c = (Tb.zero, 1) := by unfold writeL; rw [h]; rfl
theorem commitL_no {t : Tb} (h : mayB t = false) (tx : Int) : commitL t tx = (Tb.zero, 0, 1) := by unfold commitL; rw [h]; rfl
theorem leaveL_no {t : Tb} (h : mayB t = false) (tx : Int) : leaveL t tx = (Tb.zero, 1) := by unfold leaveL; rw [h]; rfl
theorem findL_no {t : Tb} (h : mayB t = false) (tx : Int) : findL t tx = -1 := by unfold findL; rw [h]; rfl
theorem liveL_no {t : Tb} (h : mayB t = false) : liveL t = [] := by unfold liveL; rw [h]; rfl
theorem eldestL_no {t : Tb} (h : mayB t = false) : eldestL t = 0 := by unfold eldestL; rw [h]; rfl
theorem checkL_no {t : Tb} (h : mayB t = false) : checkL t = 1 := by unfold checkL; rw [h]; rfl

/-- A box of a table holds no entries. -/
theorem Es.otherT {w W : World} {p : Nat} {t0 : Tb} {v0 v : Sl} {l : List En} (h : Es w v l) (hb : TbBlk w p t0 v0) (hf : Frm (fun k => k = p) w W) : Es W v l := by
  refine ⟨h.len, h.nil, h.le, h.big, fun j hj => ?_⟩
  obtain ⟨b, off, ha, hu⟩ := h.at' j hj
  refine ⟨b, off, ha, ?_⟩
  have hne : ¬ b = p := by
    intro e
    subst e
    have c3 := hu.c3
    unfold TbBlk at hb
    generalize off + j * 4 = o at c3
    simp only [World.cell?, hb] at c3
    match o, c3 with
    | 0, c3 => simp at c3
    | o + 1, c3 => simp at c3
  have k : ∀ {o : Nat} {x : Value}, w.cell? ⟨b, o, Option.none⟩ = some x → W.cell? ⟨b, o, Option.none⟩ = some x := fun {o x} hc => (hf.cellT (p := ⟨b, o, Option.none⟩) (World.block_lt_of_cell? w _ hc) hne).trans hc
  exact ⟨k hu.c0, k hu.c1, k hu.c2, k hu.c3⟩

/-- A table laid in a box that is new. -/
theorem boxT (w : World) (t : Tb) (v : Sl) : ∃ W, (Instr.storeAt 24 (.pointer (some ⟨w.heap.size, 0, none⟩)) (t.val v)).run Try.prog (w.alloc (.cells #[.int .i64 0, .int .i64 0, .int .i64 0, .slice none 0 0] 24)) = .ok () W ∧ TbBlk W w.heap.size t v ∧ Below w.heap.size w W ∧ W.heap.size = w.heap.size + 1 := by
  obtain ⟨W, h1, h2, h3, h4⟩ := (TbBlk.new w Tb.zero Sl.nil).store t v
  have hb := below_alloc w (.cells #[.int .i64 0, .int .i64 0, .int .i64 0, .slice none 0 0] 24)
  exact ⟨W, h1, h2, hb.trans (h3.below hb.size (fun k hk => by omega)), by rw [h4]; simp [Tb.zero, Sl.nil]⟩

theorem es_few {w : World} {v : Sl} {t : Tb} (h : Es w v t.es) (hl : t.es.length = 12) : v.len ≤ 100 := by have := h.len; omega

def t5 : Tb := (enterT firstT 5).1
def t55 : Tb := (commitT t5 5).1
theorem t5_may : t5.May := enter_may first_may 5
theorem t55_may : t55.May := commit_may t5_may 5

set_option maxHeartbeats 4000000 in
set_option maxRecDepth 100000 in
theorem awakeT_any (HF : FirstTS) (HEn : EntTS) (HCo : ComTS) (HEl : EldTS) : AwakeT := by
  intro w
  have HFr := hide (HF w)
  have HE5 : Hid (∀ v w, Es w v firstT.es → Calls Try.prog 21 #[firstT.val v, .int .i64 5] w (TbTold t5 w (fun x => .tuple #[x, .int .i64 0, .int .i64 0]))) := fun v w h => by
    have := HEn firstT v 5 w h (es_few h rfl)
    rw [enterL_yes first_may, show enterT firstT 5 = (t5, 0, 0) by rfl] at this
    exact this
  have HC5 : Hid (∀ v w, Es w v t5.es → Calls Try.prog 23 #[t5.val v, .int .i64 5] w (TbTold t55 w (fun x => .tuple #[x, .int .i64 1, .int .i64 0]))) := fun v w h => by
    have := HCo t5 v 5 w h (es_few h t5_may.len)
    rw [commitL_yes t5_may, show commitT t5 5 = (t55, 1, 0) by rfl] at this
    exact this
  have HL5 : Hid (∀ v w, Es w v t55.es → Calls Try.prog 13 #[t55.val v] w fun e w' => e = .returned (.int .i64 5) ∧ Below w.heap.size w w') := fun v w h => by
    have := HEl t55 v w h (es_few h t55_may.len)
    rw [eldestL_yes t55_may, show eldestT t55 = 5 by decide] at this
    exact this
  have hn : t55.nx = 6 := by decide
  have HN := hide hn
  clear HF HEn HCo HEl hn
  generalize t55 = tb at *
  generalize t5 = ta at *
  go_enter Try.func8, Try.ntmps8
  go_wp2_with fail
  refine HFr.out.mono ?_
  rintro e w1 ⟨s1, rfl, he1, hb1⟩
  simp only [id]
  have HB1 := hide hb1
  have HEn := hide (HE5.out s1 w1 he1)
  clear hb1 he1 HFr HE5
  go_wp2_with fail
  refine HEn.out.mono ?_
  rintro e w2 ⟨s2, rfl, he2, hb2⟩
  obtain ⟨W3, hst3, hbk3, hb3, hsz3⟩ := boxT w2 ta s2
  have HB3 := hide (rBelow (rBelow HB1.out hb2) hb3)
  have HST3 := hide hst3
  have HBK3 := hide hbk3
  have HLD3 := hide (load_tb w2.heap.size ta s2 W3 hbk3)
  have HCo := hide (HC5.out s2 W3 (he2.keep hb3 (Nat.le_refl _)))
  have HG3 : Hid (w.heap.size ≤ w2.heap.size) := (rBelow HB1.out hb2).size
  clear hst3 hbk3 hb3 hsz3 he2 hb2 HEn HC5
  go_wp2_with (first | refine wpList_store _ rfl rfl 24 (.tmp 1) (.tmp 9) rfl (.pointer (some ⟨w2.heap.size, 0, none⟩)) (ta.val s2) rfl rfl W3 HST3.out ?_ | refine wpList_load _ rfl 24 (.tmp 1) rfl (.pointer (some ⟨w2.heap.size, 0, none⟩)) (ta.val s2) rfl HLD3.out ?_)
  refine HCo.out.mono ?_
  rintro e w4 ⟨s4, rfl, he4, hb4⟩
  obtain ⟨W5, hst5, hbk5, hfr5, hsz5⟩ := (HBK3.out.keep hb4).store tb s4
  have HG : Hid (w2.heap.size < W3.heap.size) := HBK3.out.lt
  have HST5 := hide hst5
  have HB5 : Hid (Below w.heap.size w W5) := (rBelow HB3.out hb4).trans (hfr5.below (rBelow HB3.out hb4).size (fun k hk => by have := HG3.out; omega))
  have c0 := hbk5.c0
  rw [HN.out] at c0
  have c1 := hbk5.c1
  have c2 := hbk5.c2
  have c3 := hbk5.c3
  have HEl := HL5.out s4 W5 (he4.otherT (HBK3.out.keep hb4) hfr5)
  unfold Tb.val at HEl
  rw [HN.out] at HEl
  have HEl := hide HEl
  clear hst5 hbk5 hfr5 hsz5 he4 hb4 HCo HL5 HST3 HLD3 HBK3
  go_wp2_with (first | refine wpList_store _ rfl rfl 24 (.tmp 1) (.tmp 15) rfl (.pointer (some ⟨w2.heap.size, 0, none⟩)) (tb.val s4) rfl rfl W5 HST5.out ?_ | fail)
  refine HEl.out.mono ?_
  rintro e w6 ⟨rfl, hb6⟩
  have HB6 := hide (rBelow HB5.out hb6)
  clear hb6
  go_wp2_with fail
  go_ret
  exact ⟨by simp, HB6.out⟩

set_option maxHeartbeats 4000000 in
set_option maxRecDepth 100000 in
/-- Nothing is told but an error. -/
theorem noneT_any (v : Sl) (w : World) (h : Es w v Tb.zero.es) : Calls Try.prog 25 #[Tb.zero.val v, .int .i64 1] w fun e w' => e = .returned (.bool true) ∧ Below w.heap.size w w' := by
  have hb := below_box w Tb.zero v
  have HB := hide hb
  have HS := rsameT_any Tb.zero v Tb.zero Sl.nil _ (h.keep hb (Nat.le_refl _)) (Es.none _)
  rw [sameT_self] at HS
  unfold Tb.val at HS ⊢
  unfold Tb.zero at HS HB ⊢
  unfold Sl.nil at HS
  simp only at HS HB ⊢
  have HS := hide HS
  clear h hb
  go_enter Try.func25, Try.ntmps25
  go_wp2_with fail
  refine HS.out.mono ?_
  rintro e w1 ⟨rfl, hb1⟩
  have HB1 := hide (rBelow HB.out hb1)
  clear hb1
  go_wp2_with fail
  go_ret
  exact ⟨by simp, HB1.out⟩

end Go.Proofs.Ytdbgbldmjgonjaa
