/-
  The landed undo's copies: own, slices.Clone, copyOf.
-/
import Derived.Test.YtpdkeghmpnanpaaUdB
namespace Go.Proofs.Ytpdkeghmpnanpaa
open Go.RowKit

theorem setUnC_eq {w : World} {g : Nat} {u : Un} {c : Value} (h : UnBlk w g u c) (c' : Value) : UnBlk (w.setCell ⟨g, 8, none⟩ c') g u c' := by
  unfold UnBlk at h ⊢
  rw [heap_setCell_same w g 8 _ 30 c' h]
  rfl

theorem setC_frm (w : World) (g o : Nat) (u : Value) : Frm (fun k => k = g) w (w.setCell ⟨g, o, none⟩ u) := Frm.setCell (F := fun k => k = g) (Frm.refl _ w) (p := ⟨g, o, none⟩) rfl _
theorem setUn_frm (w : World) (g : Nat) (u : Un) (c : Value) : Frm (fun k => k = g) w (setUn w g u c) := by
  have hb : Below 0 w (setUn w g u c) := setUn_below (Below.refl 0 w) (Nat.zero_le _) u c
  exact ⟨hb.os, hb.tape, hb.output, hb.size, fun k _ hk => setUn_other w g u c k hk⟩

theorem UnBlk.stay {w w' : World} {g : Nat} {u : Un} {c : Value} (h : UnBlk w g u c) {e : TypeId} (hs : StayV e w w') (he : 30 ≠ e) : UnBlk w' g u c := (hs _ _ _ _ h he).trans h
theorem UnBlk.frm {w w' : World} {F : Nat → Prop} {g : Nat} {u : Un} {c : Value} (h : UnBlk w g u c) (hf : Frm F w w') (hn : ¬ F g) : UnBlk w' g u c := (hf.block g h.lt hn).trans h
theorem stay_frm {w w' : World} {g : Nat} {u : Un} {c : Value} (h : UnBlk w g u c) (hf : Frm (fun k => k = g) w w') : StayV 30 w w' := fun p C t fr hp ht => hf.block p (Array.getElem?_eq_some_iff.1 hp).1 (fun e => by
  subst e
  unfold UnBlk at h
  rw [h] at hp
  simp only [Option.some.injEq, Obj.cells.injEq] at hp
  exact ht hp.2.1.symm)

theorem store_un {W : World} {g : Nat} {u0 : Un} {c0 : Value} (h : UnBlk W g u0 c0) (u : Un) (a : Option Addr) (n c : Nat) : (Instr.storeAt 30 (.pointer (some ⟨g, 0, none⟩)) (u.val (.slice a n c))).run Try.prog W = .ok () (setUn W g u (.slice a n c)) := by
  have hsf : ∀ (w : World) (a : Addr) (m : Mode) (x : Nat), (store a (.float .f64 x) m).run Try.prog w = stored Try.prog w a (.float .f64 x) m := fun w a m x => run_store Try.prog w a _ m rfl
  have c0 := h.c0
  have c1 := h.c1
  have c2 := h.c2
  have c3 := h.c3
  have c4 := h.c4
  have c5 := h.c5
  have c6 := h.c6
  have c7 := h.c7
  have c8 := h.c8
  have c9 := h.c9
  have c10 := h.c10
  have c11 := h.c11
  have f0 := h.fz
  simp [go_sem, Instr.storeAt, hsf, stored, c0, c1, c2, c3, c4, c5, c6, c7, c8, c9, c10, c11, f0, Un.val, setUn]

/-- A range's own undoing: a new box, and the undoing stored. -/
theorem box_un (w : World) (x : Ux) : ∃ W, (Instr.storeAt 30 (.pointer (some ⟨w.heap.size, 0, none⟩)) x.val).run Try.prog (w.alloc (.cells #[.int .i64 0, .int .i64 0, .int .i64 0, .int .i64 0, .int .i64 0, .int .i64 0, .float .f64 0, .bool false, .slice none 0 0, .int .i64 0, .int .i64 0, .int .i64 0] 30)) = .ok () W ∧ UnBlk W w.heap.size x.u (.slice x.a x.n x.c) ∧ Below w.heap.size w W := by
  have hz : UnBlk (w.alloc (.cells #[.int .i64 0, .int .i64 0, .int .i64 0, .int .i64 0, .int .i64 0, .int .i64 0, .float .f64 0, .bool false, .slice none 0 0, .int .i64 0, .int .i64 0, .int .i64 0] 30)) w.heap.size zeroU (.slice none 0 0) := unBlk_new w zeroU _
  exact ⟨_, store_un hz x.u x.a x.n x.c, setUn_blk hz _ _, setUn_below (below_alloc w _) (Nat.le_refl _) _ _⟩

set_option maxHeartbeats 4000000 in
set_option maxRecDepth 100000 in
theorem ownU_any (x : Ux) (w : World) (h : Fs w x.a x.n x.c x.u.row.xs) (hn : x.n ≤ 1000) :
    Calls Try.prog 31 #[x.val] w fun e w' => ∃ a c, e = .returned (x.u.val (.slice a x.n c)) ∧ OwnsV 23 w' w.heap.size (.slice a x.n c) (fVals x.u.row.xs) ∧ Fs w' a x.n c x.u.row.xs ∧ Below w.heap.size w w' := by
  have HU := hide (unBlk_new w x.u (.slice x.a x.n x.c))
  have HB : Hid (∀ A Z, Below w.heap.size w ((w.alloc A).alloc Z)) := below_two w
  have HU2 : Hid (∀ Z, UnBlk ((w.alloc (.cells #[.int .i64 x.u.tx, .int .i64 x.u.no, .int .i64 x.u.prev, .int .i64 x.u.kind, .int .i64 x.u.page, .int .i64 x.u.slot, .float .f64 x.u.row.key, .bool x.u.row.dead, .slice x.a x.n x.c, .int .i64 x.u.row.wr, .int .i64 x.u.row.cell, .int .i64 x.u.row.no] 30)).alloc Z) w.heap.size x.u (.slice x.a x.n x.c)) := fun Z => HU.out.keep (below_alloc _ Z)
  have HZ : Hid (∀ A, UnBlk ((w.alloc A).alloc (.cells #[.int .i64 0, .int .i64 0, .int .i64 0, .int .i64 0, .int .i64 0, .int .i64 0, .float .f64 0, .bool false, .slice none 0 0, .int .i64 0, .int .i64 0, .int .i64 0] 30)) (w.heap.size + 1) zeroU (.slice none 0 0)) := fun A => by
    have := unBlk_new (w.alloc A) zeroU (.slice none 0 0)
    rwa [show (w.alloc A).heap.size = w.heap.size + 1 by simp] at this
  have HV : Hid (∀ A Z, Vs ((w.alloc A).alloc Z) x.a x.n (fVals x.u.row.xs)) := fun A Z => (h.keep (HB.out A Z) (Nat.le_refl _)).vs
  have HNIL : Hid (x.a = none → x.c = 0) := h.nil
  have HFIT : Hid (∀ y ∈ x.u.row.xs, y < 18446744073709551616) := h.fit
  have HXL := hide h.len
  have HLEN : Hid (([] : List Value).length + x.n ≤ 1000000) := by show _ ≤ _; simp; omega
  clear h HU
  unfold Ux.val Un.val
  go_enter Try.func31, Try.ntmps31
  go_wp2_with (at_builtin; refine wpList_append_vals oneFlt _ rfl (.const (.slice none 0 0)) (.tmp 5) rfl w.heap.size (.slice none 0 0) [] rfl (OwnsV.nil _ _ _) _ _ _ (fVals x.u.row.xs) rfl (HV.out _ _) HNIL.out HLEN.out (HB.out _ _).size ?_)
  intro v1 w2 ho1 hb1 hs1
  have hxlen := HXL.out
  obtain ⟨a1, c1, rfl, hfs⟩ := OwnsV.fs (xs := x.u.row.xs) (n := x.n) (by simpa using ho1) HFIT.out hxlen (by omega)
  have hu := (HU2.out _).stay hs1 (by decide)
  have hz := (HZ.out _).stay hs1 (by decide)
  have HBA := hide ((HB.out _ _).trans hb1)
  have h8 := hu.c8
  have hf8 := hu.fz 8
  have hu' := setUnC_eq hu (.slice a1 x.n c1)
  have hfr := setC_frm w2 w.heap.size 8 (.slice a1 x.n c1)
  have hz' := hz.frm hfr (by omega)
  have HLD := hide (load_un w.heap.size x.u (.slice a1 x.n c1) ⟨_, _, _, rfl⟩ _ hu')
  have HST := hide (store_un hz' x.u a1 x.n c1)
  have HZ' := hide hz'
  have HO : Hid (OwnsV 23 (setUn (w2.setCell ⟨w.heap.size, 8, none⟩ (.slice a1 x.n c1)) (w.heap.size + 1) x.u (.slice a1 x.n c1)) w.heap.size (.slice a1 x.n c1) (fVals x.u.row.xs)) := by
    have h1 : OwnsV 23 w2 w.heap.size (.slice a1 x.n c1) (fVals x.u.row.xs) := by simpa using ho1
    exact (h1.stay (stay_frm hu hfr) (by decide)).stay (stay_frm hz' (setUn_frm _ _ _ _)) (by decide)
  have HBF : Hid (Below w.heap.size w (setUn (w2.setCell ⟨w.heap.size, 8, none⟩ (.slice a1 x.n c1)) (w.heap.size + 1) x.u (.slice a1 x.n c1))) := setUn_below (HBA.out.trans (hfr.below HBA.out.size (fun k hk => by rw [hk]; exact Nat.le_refl _))) (Nat.le_succ _) _ _
  clear ho1 hb1 hs1 hfs hu hz hu' hz' hfr HU2 HZ HV HNIL HLEN HB HBA hxlen
  go_wp2_with (first | refine wpList_load _ rfl 30 (.tmp 1) rfl (.pointer (some ⟨w.heap.size, 0, none⟩)) (x.u.val (.slice a1 x.n c1)) rfl HLD.out ?_ | refine wpList_store _ rfl rfl 30 (.tmp 2) (.tmp 9) rfl (.pointer (some ⟨w.heap.size + 1, 0, none⟩)) (x.u.val (.slice a1 x.n c1)) rfl rfl _ HST.out ?_)
  refine un_end1 rfl HZ'.out x.u (.slice a1 x.n c1) ⟨_, _, _, rfl⟩ (by rfl) (by rfl) ?_
  exact ⟨a1, c1, rfl, HO.out, HO.out.fsAt HFIT.out (by rw [HXL.out]; omega), HBF.out⟩

section
variable {ops : Array Oper} {rest : List Oper} {o : Oper} {a : Act} {Q : Exit → Act → World → Prop}
theorem wpList_app (w : World) (hgd : o.guard = none) (S : TypeId) (s x : Operand) (ho : o.op = .call { callee := .builtin .append, args := #[s, x], argTypes := #[S, S] }) (vs vx : Value) (hs : a.eval s = vs) (hx : a.eval x = vx) (v' : Value) (w' : World) (hrun : ∀ ty, (Builtin.append_ #[S, S] ty #[vs, vx]).run Try.prog w = .ok v' w') (hK : wpList Try.prog ops Q rest (a.put o.dst v') w') : wpList Try.prog ops Q (o :: rest) a w := by
  refine wpList_plain hgd fun K' hK' => ?_
  unfold Oper.wp
  simp [execOp, ho, resolve, invoke, builtin, hs, hx, hrun, Result.andThen]
  exact hK' _ _ hK
end

set_option maxRecDepth 100000 in
theorem nilU_eq (b off len cap : Nat) (w : World) : (binOp .eql 22 (.slice (some ⟨b, off, none⟩) len cap) (.slice none 0 0)).run Try.prog w = .ok (.bool false) w := by
  rfl

set_option maxHeartbeats 1000000 in
set_option maxRecDepth 100000 in
theorem cloneU_any (a : Option Addr) (n cap : Nat) (l : List Ux) (w : World) (h : Us w a n l) (hn : 0 < n) (hl : n ≤ 1000) :
    Calls Try.prog 40 #[.slice a n cap] w fun e w' => ∃ s : Sl, e = .returned s.val ∧ Ud w w' s l := by
  obtain ⟨s', W, hrun, hud, hb, _⟩ := Ud.copy (cap := cap) h (Below.refl _ w) hn hl
  obtain ⟨b, off, rfl, _⟩ := h.at' 0 hn
  have hnil := nilU_eq b off n cap
  have HR := hide hrun
  have HD := hide hud
  clear h hrun hud hb
  obtain ⟨sa, sl, sc⟩ := s'
  simp only [Sl.val] at HR
  go_enter Try.func40, Try.ntmps40
  go_wp2_with (at_builtin; refine wpList_app _ rfl 22 (.tmp 5) (.tmp 6) rfl _ _ rfl rfl (.slice sa sl sc) W HR.out ?_)
  go_ret
  exact ⟨⟨sa, sl, sc⟩, rfl, HD.out⟩

/-- Columns in a row of floats of one's own, or none. -/
def Typ (w : World) (x : Ux) : Prop := ∀ b off, x.a = some ⟨b, off, none⟩ → 0 < x.n → ∃ C fr, w.heap[b]? = some (Obj.cells C 23 fr)
theorem Typ.keep {w w' : World} {x : Ux} (h : Typ w x) (hb : Below w.heap.size w w') : Typ w' x := fun b off ha hn => by
  obtain ⟨C, fr, k⟩ := h b off ha hn
  exact ⟨C, fr, (hb.block b (Array.getElem?_eq_some_iff.1 k).1).trans k⟩
theorem Typ.zero (w : World) : Typ w Ux.zero := fun _ _ _ hn => absurd hn (Nat.lt_irrefl 0)
theorem Typ.owns {w : World} {base : Nat} {u : Un} {a : Option Addr} {n c : Nat} {vs : List Value} (h : OwnsV 23 w base (.slice a n c) vs) : Typ w ⟨u, a, n, c⟩ := by
  intro b off ha hn
  rcases h.2 with ⟨hv, h0⟩ | ⟨g, cp, cur, hv, _, hg, _⟩
  · simp only [Value.slice.injEq] at hv
    simp only at ha
    rw [hv.1] at ha
    cases ha
  · simp only [Value.slice.injEq] at hv
    simp only at ha
    rw [hv.1] at ha
    cases ha
    exact ⟨_, _, hg⟩
theorem Typ.turned {w W : World} {x : Ux} (h : Typ w x) {g : Nat} (hg : ∃ C fr, w.heap[g]? = some (Obj.cells C 30 fr)) (hf : Frm (fun k => k = g) w W) : Typ W x := fun b off ha hn => by
  obtain ⟨C, fr, k⟩ := h b off ha hn
  obtain ⟨C', fr', k'⟩ := hg
  refine ⟨C, fr, (hf.block b (Array.getElem?_eq_some_iff.1 k).1 (fun e => ?_)).trans k⟩
  subst e
  rw [k] at k'
  simp only [Option.some.injEq, Obj.cells.injEq] at k'
  exact absurd k'.2.1 (by decide)
/-- A row of undoings of one's own since w, its columns too. -/
def RowT (w w' : World) (s : Sl) (L : List Un) : Prop := ∃ l, Ud w w' s l ∧ uns l = L ∧ ∀ x ∈ l, Typ w' x
theorem Ud.lower {w0 w1 W : World} {s : Sl} {l : List Ux} (h : Ud w1 W s l) (ht : ∀ x ∈ l, Typ W x) (hb : Below w0.heap.size w0 w1) : Ud w0 W s l :=
  ⟨h.own, fun k hk => Nat.le_trans hb.size (h.new k hk), rBelow hb h.below, fun x hx => ⟨(h.cols x hx).fs, fun b off ha hn => .inr (ht x hx b off ha hn)⟩, h.fits⟩
theorem RowT.lower {w0 w1 W : World} {s : Sl} {L : List Un} (h : RowT w1 W s L) (hb : Below w0.heap.size w0 w1) : RowT w0 W s L := by
  obtain ⟨l, h1, h2, h3⟩ := h
  exact ⟨l, h1.lower h3 hb, h2, h3⟩
theorem RowT.keep {w0 w W : World} {s : Sl} {L : List Un} (h : RowT w0 w s L) (hb : Below w.heap.size w W) : RowT w0 W s L := by
  obtain ⟨l, h1, h2, h3⟩ := h
  exact ⟨l, h1.keep hb, h2, fun x hx => (h3 x hx).keep hb⟩
theorem uxset_get (l : List Ux) (i j : Nat) (x : Ux) (hi : i < l.length) : (l.set i x).getD j Ux.zero = if i = j then x else l.getD j Ux.zero := by
  by_cases h : i = j
  · subst h
    simp [List.getD, hi]
  · simp [List.getD, h]

theorem uns_same (l : List Ux) (i : Nat) (hi : i < l.length) (x : Ux) (hx : x.u = (l.getD i Ux.zero).u) : uns (l.set i x) = uns l := by
  rw [uns_set, hx, ← uns_get]
  have : i < (uns l).length := by rw [uns_len]; exact hi
  rw [unget this]
  exact List.set_getElem_self this

set_option maxHeartbeats 4000000 in
set_option maxRecDepth 100000 in
/-- Cells in memory of their own. -/
theorem copyOf_any (a : Option Addr) (n cap : Nat) (l : List Ux) (w : World) (h : Us w a n l) (hn : 0 < n) (hl : n ≤ 1000) (hc : ∀ u ∈ uns l, u.row.xs.length ≤ 1000) :
    Calls Try.prog 26 #[.slice a n cap] w fun e w' => ∃ s : Sl, e = .returned s.val ∧ RowT w w' s (uns l) := by
  have HCL := hide (cloneU_any a n cap l w h hn hl)
  have HC := hide hc
  have HLN := hide h.len
  clear h hc
  go_enter Try.func26, Try.ntmps26
  go_wp2_with fail
  refine HCL.out.mono ?_
  rintro e w1 ⟨⟨sa, sl, sc⟩, rfl, hd1⟩
  have hsl : sl = n := by have := hd1.len; rw [HLN.out] at this; exact this.symm
  subst hsl
  have HD1 := hide hd1
  clear hd1 HCL
  simp only [Sl.val]
  go_wp2_with fail
  go_loopw [10] (fun iv wr => ∃ i : Nat, i ≤ sl ∧ iv = .int .i64 (i : Nat) ∧ Hid (∃ lk, Ud w wr ⟨sa, sl, sc⟩ lk ∧ uns lk = uns l ∧ ∀ j, j < i → Typ wr (lk.getD j Ux.zero))) (fun iv _ => sl - (intOf iv).toNat)
  case atStart => exact ⟨0, Nat.zero_le _, rfl, l, HD1.out, rfl, fun j hj => absurd hj (Nat.not_lt_zero _)⟩
  case round =>
    obtain ⟨i, hi, rfl, hlk⟩ := hrel
    obtain ⟨lk, hud, huns, htyp⟩ := hlk.out
    have HUNS := hide huns
    have HTYP := hide htyp
    clear hlk huns htyp
    rcases Nat.lt_or_ge i sl with hlt | hge
    · have i1 : ((i : Nat) : Int) < ((sl : Nat) : Int) := by omega
      have hus := hud.us
      obtain ⟨g, off, ha, hat⟩ := hus.at' i hlt
      replace ha : sa = some ⟨g, off, none⟩ := ha
      subst ha
      have hmem := hus.mem hlt
      have hcol := hud.cols _ hmem
      have hfit := hud.fits _ hmem
      have hxl : (lk.getD i Ux.zero).u.row.xs.length ≤ 1000 := HC.out _ (by rw [← HUNS.out]; exact List.mem_map.2 ⟨_, hmem, rfl⟩)
      obtain ⟨y, hy⟩ : ∃ y, y = lk.getD i Ux.zero := ⟨_, rfl⟩
      rw [← hy] at hat hcol hfit hxl
      have HLD := hide (load_unAt g (off + i * 12) y wr hat)
      obtain ⟨W2, hst, hblk, hb2⟩ := box_un wr y
      have HST := hide hst
      have HL2 := hide (load_un wr.heap.size y.u (.slice y.a y.n y.c) ⟨_, _, _, rfl⟩ W2 hblk)
      have hyn : y.n ≤ 1000 := by have := hcol.fs.len; omega
      have HOW := hide (ownU_any y W2 (hcol.fs.keep hb2 (Nat.le_refl _)) hyn)
      have HUD2 := hide (hud.keep hb2)
      have HTYP2 : Hid (∀ j, j < i → Typ W2 (lk.getD j Ux.zero)) := fun j hj => (HTYP.out j hj).keep hb2
      have HY := hide hy
      have HFIT := hide hfit
      have HLK : Hid (i < lk.length) := by show _ < _; rw [hud.len]; exact hlt
      clear hat hcol hfit hst hblk hb2 hud hus hmem hy hxl hyn
      go_wp2_with (first | refine wpList_load _ rfl 30 (.tmp 13) rfl (.pointer (some ⟨g, off + i * 12, none⟩)) y.val rfl HLD.out ?_ | refine wpList_store _ rfl rfl 30 (.tmp 5) (.tmp 14) rfl (.pointer (some ⟨wr.heap.size, 0, none⟩)) y.val rfl rfl W2 HST.out ?_ | refine wpList_load _ rfl 30 (.tmp 5) rfl (.pointer (some ⟨wr.heap.size, 0, none⟩)) y.val rfl HL2.out ?_)
      refine HOW.out.mono ?_
      rintro e w3 ⟨a3, c3, rfl, ho3, hf3, hb3⟩
      have hud3 := HUD2.out.keep hb3
      obtain ⟨W4, hrun4, hud4, hfr4⟩ := hud3.set (g := g) (off := off) rfl i HLK.out ⟨y.u, a3, y.n, c3⟩ (Col.owns ho3 hf3) HFIT.out
      have HR4 := hide hrun4
      have hst4 : ∀ x, Typ w3 x → Typ W4 x := fun x hx => hx.turned (g := g) (by
        obtain ⟨cur, hcur⟩ := hud3.own.kind (k := g) rfl
        exact ⟨cur, _, hcur⟩) hfr4
      have HN : Hid (∃ lk', Ud w W4 ⟨some ⟨g, off, none⟩, sl, sc⟩ lk' ∧ uns lk' = uns l ∧ ∀ j, j < i + 1 → Typ W4 (lk'.getD j Ux.zero)) := by
        refine ⟨_, hud4, (uns_same lk i HLK.out _ (by rw [← HY.out])).trans HUNS.out, fun j hj => ?_⟩
        rw [uxset_get lk i j _ HLK.out]
        split
        · exact hst4 _ (Typ.owns ho3)
        · exact hst4 _ ((HTYP2.out j (by omega)).keep hb3)
      clear ho3 hf3 hb3 hud3 hrun4 hud4 hfr4 hst4 HOW HUD2 HST HL2 HLD
      go_wp2_with (refine wpList_store _ rfl rfl 30 (.tmp 19) (.tmp 18) rfl (.pointer (some ⟨g, off + i * 12, none⟩)) (Ux.val ⟨y.u, a3, y.n, c3⟩) rfl rfl W4 HR4.out ?_)
      go_roundw
      case rel => exact ⟨i + 1, by omega, by go_num, HN⟩
      case measure => simp only [intOf]; omega
    · have i1 : ¬ ((i : Nat) : Int) < ((sl : Nat) : Int) := by omega
      have HUD := hide hud
      have HALL : Hid (RowT w wr ⟨sa, sl, sc⟩ (uns l)) := ⟨lk, hud, HUNS.out, fun x hx => by
        obtain ⟨j, hj, rfl⟩ := List.getElem_of_mem hx
        have h1 := HTYP.out j (by rw [hud.len] at hj; simp only at hj; omega)
        simpa [List.getD, hj] using h1⟩
      clear hud
      go_wp2_with fail
      go_ret
      exact ⟨⟨sa, sl, sc⟩, rfl, HALL.out⟩

end Go.Proofs.Ytpdkeghmpnanpaa
