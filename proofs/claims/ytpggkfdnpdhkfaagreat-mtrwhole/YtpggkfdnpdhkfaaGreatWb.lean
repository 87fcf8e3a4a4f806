/-
  Layer 13: rows of bytes and of strings that a law makes beside an Mtr; all pages, one behind the other.
  Layer 13: what stands between two rounds of the theorem of groups: its acts.
  Layer 13: the theorem of groups: its beginning, crashes and openings.
-/
import Derived.Test.YtpggkfdnpdhkfaaGreatMd
import Derived.Test.YtpggkfdnpdhkfaaGreatWa
namespace Go.Proofs.YtpggkfdnpdhkfaaGreat
open Go.RowKit
set_option maxRecDepth 100000
set_option linter.unusedVariables false

/-- Pages, one behind the other. -/
def cat (f : Nat → List Nat) (k : Nat) : List Nat := (List.range k).flatMap f
theorem cat_succ (f : Nat → List Nat) (k : Nat) : cat f (k + 1) = cat f k ++ f k := by simp [cat, List.range_succ]
theorem cat_at {f h : Nat → List Nat} {k : Nat} (e : ∀ i, i < k → f i = h i) : cat f k = cat h k := by
  induction k with
  | zero => rfl
  | succ k ih => rw [cat_succ, cat_succ, ih (fun i hi => e i (by omega)), e k (by omega)]
theorem cat_bytes {f : Nat → List Nat} {k : Nat} (h : ∀ i, i < k → Bytes (f i)) : Bytes (cat f k) := by
  intro x hx
  obtain ⟨i, hi, hx⟩ := List.mem_flatMap.1 hx
  exact h i (List.mem_range.1 hi) x hx
theorem cat_len {f : Nat → List Nat} {k : Nat} (h : ∀ i, i < k → (f i).length = 512) : (cat f k).length = 512 * k := by
  induction k with
  | zero => rfl
  | succ k ih => rw [cat_succ, List.length_append, ih (fun i hi => h i (by omega)), h k (by omega)]; omega
/-- Pages that are read, one behind the other. -/
def readsP (P : Po) (k : Nat) : Po := (List.range k).foldl Po.letIn P
theorem readsP_succ (P : Po) (k : Nat) : readsP P (k + 1) = (readsP P k).letIn k := by
  unfold readsP
  rw [List.range_succ, List.foldl_append]
  rfl
theorem readsP_ok {P : Po} {n c : Nat} (h : P.Fine n c) : ∀ k, k ≤ n → c + 4 * k ≤ 9000 → (readsP P k).Fine n (c + 4 * k) ∧ (∀ i, i < n → (readsP P k).con i = P.con i) ∧ (readsP P k).D.sb = P.D.sb ∧ (readsP P k).D.ss = P.D.ss
  | 0, _, _ => ⟨h, fun _ _ => rfl, rfl, rfl⟩
  | k + 1, hk, hc => by
    obtain ⟨h1, h2, h3, h4⟩ := readsP_ok h k (by omega) (by omega)
    rw [readsP_succ]
    refine ⟨h1.letIn (by omega) (by omega), fun i hi => ?_, by rw [letIn_sb]; exact h3, by rw [letIn_ss]; exact h4⟩
    rw [(h1.ok.letIn (p := k) (by omega)).con i hi]
    exact h2 i hi
theorem readsP_inv {f0 : Nat → List Nat} {gs : List (List Im)} {n : Nat} {t : List Nat} {B syn : Nat} {P : Po} {c : Nat} (h : Inv f0 gs n t B syn P) (hF : P.Fine n c) (hB : B ≤ gs.length) : ∀ k, k ≤ n → c + 4 * k ≤ 9000 → Inv f0 gs n t B syn (readsP P k)
  | 0, _, _ => h
  | k + 1, hk, hc => by
    rw [readsP_succ]
    exact (readsP_inv h hF hB k (by omega) (by omega)).letIn (readsP_ok hF k (by omega) (by omega)).1.wet hB k

/-- A row that a call has made itself, beside an Mtr, is made longer. -/
theorem OM.grow {M : PoM} {A : Nat → Prop} {w0 w w' : World} {m p d : Nat} {P : Po} (S : PoolS M) (h : OM M A w0 w m p d P) {e : TypeId} {z : Nat} {v : Sl} {us : List Value} (ho : Own e z w v us) (he : e ≠ 83) (hA : ∀ k, v.blk = some k → A k ∧ w0.heap.size ≤ k) (hf : Frm (fun k => v.blk = some k) w w') : OM M (fun k => A k ∨ (w.heap.size ≤ k ∧ k < w'.heap.size)) w0 w' m p d P := by
  obtain ⟨L, X, hm, hft, hb0, hAl⟩ := h
  have hne : ∀ k, X k ∨ L.F d k → ¬ v.blk = some k := fun k hk e => (hft k hk).2 (hA k e).1
  have hmn : ¬ v.blk = some m := fun e2 => by
    obtain ⟨cur, hc⟩ := ho.kind e2
    have := hm.blk
    unfold MtBlk at this
    rw [hc] at this
    simp only [Option.some.injEq, Obj.cells.injEq] at this
    exact he this.2.1
  refine ⟨L, X, ⟨S.frm hm.pool hf hne, (hf.block m hm.blk.lt hmn).trans hm.blk, hm.off⟩, fun k hk => ⟨(hft k hk).1, fun e => ?_⟩, hb0.trans (hf.below hb0.size (fun k hk => (hA k hk).2)), fun k hk => hk.elim (fun e => Nat.lt_of_lt_of_le (hAl k e) hf.size) (fun e => e.2)⟩
  rcases e with e | e
  · exact (hft k hk).2 e
  · rcases hk with hk | hk
    · have := S.lt hm.pool _ hk
      omega
    · have := (S.dev hm.pool).lt hk
      omega

theorem infoStr : (Tryz.prog.info? 9).map (fun i => (i.zero, i.size, i.bytes)) = some (some (.string ByteArray.empty), 1, 16) := by kernel_rfl
/-- A row of strings that the call has made. -/
def OwnW (w : World) (v : Sl) (ss : List ByteArray) : Prop := Own 9 1 w v (ss.map Value.string)
theorem OwnW.len {w : World} {v : Sl} {ss : List ByteArray} (h : OwnW w v ss) : v.len = ss.length := by
  have := h.1
  rw [List.length_map] at this
  omega
theorem OwnW.at_ {w : World} {v : Sl} {ss : List ByteArray} (h : OwnW w v ss) {k : Nat} (hk : k < ss.length) : ∃ g off, v.a = some ⟨g, off, none⟩ ∧ w.cell? ⟨g, off + k, none⟩ = some (.string (ss.getD k ByteArray.empty)) := by
  rcases h.2 with ⟨h0, h00⟩ | ⟨g, off, cur, ha, _⟩
  · have := h.len
    have h1 : v.len = 0 := by rw [h0]; rfl
    omega
  · refine ⟨g, off, ha, ?_⟩
    have := h.cell ha k (.string (ss.getD k ByteArray.empty)) (by simp [List.getD, hk])
    simpa [Addr.add_lit] using this
theorem src_strW (w : World) (x : ByteArray) : Src Tryz.prog 1 78 (.slice (some ⟨w.heap.size, 0, none⟩) 1 1) 1 [.string x] (w.alloc (.cells #[.string x] 9)) := by
  refine Src.ofSlice _ Tryz.underlying78 ⟨w.heap.size, 0, none⟩ 1 1 [.string x] rfl (fun j u hj => ?_) (fun u hu => by rw [List.mem_singleton.1 hu]; rfl)
  have hb : (w.alloc (.cells #[.string x] 9)).heap[w.heap.size]? = some (.cells #[.string x] 9) := heap_alloc_new w _
  rw [Addr.add_lit, cell_of_row _ _ _ _ _ _ hb]
  simpa using hj
theorem own_strW (w : World) (v : Sl) (l : List ByteArray) (h : OwnW w v l) (x : ByteArray) (hl : v.len + 1 ≤ 1000000) (ty : TypeId) :
    ∃ v' w', (Builtin.append_ #[78, 78] ty #[v.val, .slice (some ⟨w.heap.size, 0, none⟩) 1 1]).run Tryz.prog (w.alloc (.cells #[.string x] 9)) = .ok v'.val w' ∧ OwnW w' v' (l ++ [x]) ∧ v'.len = v.len + 1 ∧ Frm (fun k => v.blk = some k) w w' ∧ (v'.blk = v.blk ∨ ∃ k, v'.blk = some k ∧ w.heap.size ≤ k) := by
  have hB := below_alloc w (.cells #[.string x] 9)
  have h1 : Own 9 1 (w.alloc (.cells #[.string x] 9)) v (l.map Value.string) := h.frame (fun k hk => hB.block k (h.lt hk))
  obtain ⟨v', w', hrun, ho, hlen, hf, hbk⟩ := own_append Tryz.underlying78 infoStr rfl (by decide) _ v (l.map Value.string) h1 (fun u hu => by obtain ⟨s, _, rfl⟩ := List.mem_map.1 hu; rfl) _ 1 [.string x] (src_strW w x) hl ty
  refine ⟨v', w', hrun, by unfold OwnW; rw [List.map_append]; exact ho, hlen, (Frm.ofBelow hB).trans hf (fun _ _ hk => hk), ?_⟩
  rcases hbk with e | ⟨e, _⟩
  · exact .inl e
  · exact .inr ⟨_, e, hB.size⟩
section
variable {ops : Array Oper} {rest : List Oper} {o : Oper} {a : Act} {Q : Exit → Act → World → Prop}
theorem wpList_append_strW (w : World) (x : ByteArray) (hgd : o.guard = none) (s y : Operand) (ho : o.op = .call { callee := .builtin .append, args := #[s, y], argTypes := #[78, 78] }) (v : Sl) (l : List ByteArray) (hs : a.eval s = v.val) (hy : a.eval y = .slice (some ⟨w.heap.size, 0, none⟩) 1 1) (h : OwnW w v l) (hl : v.len + 1 ≤ 1000000)
    (hK : ∀ v' w', OwnW w' v' (l ++ [x]) → v'.len = v.len + 1 → Frm (fun k => v.blk = some k) w w' → (v'.blk = v.blk ∨ ∃ k, v'.blk = some k ∧ w.heap.size ≤ k) → wpList Tryz.prog ops Q rest (a.put o.dst v'.val) w') : wpList Tryz.prog ops Q (o :: rest) a (w.alloc (.cells #[.string x] 9)) := by
  refine wpList_plain hgd fun K hK' => ?_
  obtain ⟨v', w', hrun, r1, r2, r3, r4⟩ := own_strW w v l h x hl o.type
  unfold Oper.wp
  simp [execOp, ho, resolve, invoke, builtin, hs, hy, hrun, Result.andThen]
  exact hK' _ _ (hK v' w' r1 r2 r3 r4)
theorem wpList_convW (w : World) (hgd : o.guard = none) (s d : TypeId) (x : Operand) (ho : o.op = .convert s d x) (u v : Value) (hu : a.eval x = u) (w' : World) (hrun : (convert s d u).run Tryz.prog w = .ok v w') (hK : wpList Tryz.prog ops Q rest (a.put o.dst v) w') : wpList Tryz.prog ops Q (o :: rest) a w := by
  refine wpList_val w hgd v w' ?_ hK
  have e : execOp a.eval o = (do pure (.value (← convert s d (a.eval x)))) := by
    unfold execOp
    rw [ho]
  rw [e, hu]
  simp [hrun]
theorem wpList_append_by (w : World) (hgd : o.guard = none) (s y : Operand) (ho : o.op = .call { callee := .builtin .append, args := #[s, y], argTypes := #[32, 32] }) (v : Sl) (xs : List Nat) (hs : a.eval s = v.val) (ya : Option Addr) (yl yc : Nat) (ys : List Nat) (hy : a.eval y = .slice ya yl yc) (h : Own 5 1 w v (vals xs)) (hc : Came w ya yl yc ys) (hl : v.len + yl ≤ 1000000)
    (hK : ∀ v' w', Own 5 1 w' v' (vals (xs ++ ys)) → v'.len = v.len + yl → Frm (fun k => v.blk = some k) w w' → (v'.blk = v.blk ∨ (v'.blk = some w.heap.size ∧ w.heap.size < w'.heap.size)) → wpList Tryz.prog ops Q rest (a.put o.dst v'.val) w') : wpList Tryz.prog ops Q (o :: rest) a w := by
  refine wpList_plain hgd fun K hK' => ?_
  obtain ⟨v', w', hrun, r1, r2, r3, r4⟩ := own_append Tryz.underlying32 info5 rfl (by decide) w v (vals xs) h (vals_one xs) (.slice ya yl yc) yl (vals ys) hc.src hl o.type
  unfold Oper.wp
  simp [execOp, ho, resolve, invoke, builtin, hs, hy, hrun, Result.andThen]
  exact hK' _ _ (hK v' w' (by rw [vals_append]; exact r1) r2 r3 r4)
end

theorem own_empty (w : World) : Own 5 1 (w.alloc (.cells #[] 5)) ⟨some ⟨w.heap.size, 0, none⟩, 0, 0⟩ (vals []) :=
  ⟨rfl, .inr ⟨w.heap.size, 0, _, rfl, heap_alloc_new w _, by simp, Nat.le_refl _, by simp, rfl⟩⟩
theorem OM.lt {M : PoM} {A : Nat → Prop} {w0 w : World} {m p d : Nat} {P : Po} (h : OM M A w0 w m p d P) {k : Nat} (hk : A k) : k < w.heap.size := by obtain ⟨_, _, _, _, _, q⟩ := h; exact q k hk
/-- Where the reading of all pages stands. -/
def TxI (M : PoM) (A : Nat → Prop) (w0 w wr : World) (m p d : Nat) (P : Po) (r k : Nat) (v : Sl) : Prop := ∃ A', (∀ i, A i → A' i) ∧ OM M A' w0 wr m p d (readsP P r) ∧ Own 5 1 wr v (vals (cat P.con k)) ∧ (∀ i, v.blk = some i → A' i ∧ w0.heap.size ≤ i) ∧ (∀ i, v.blk = some i → ¬ A i) ∧ Kept6 A w wr
theorem tx_read {M : PoM} (S : PoolS M) {A : Nat → Prop} {w0 w wr : World} {m p d : Nat} {P : Po} {k : Nat} {v : Sl} (h : TxI M A w0 w wr m p d P k k v) {c : Nat} (hF : P.Fine 4 c) (hc : c + 16 ≤ 9000) (hk : k < 4) (hbyt : Bytes (P.con k)) : Calls Tryz.prog 22 #[at0 m, .int .i64 ((k : Nat) : Int)] wr fun e w' => ∃ s : Sl, e = .returned (.tuple #[s.val, .int .i64 0]) ∧ s.len = 512 ∧ Came w' s.a s.len s.cap (P.con k) ∧ TxI M A w0 w w' m p d P (k + 1) k v := by
  obtain ⟨A', h1, h2, h3, h4, h5, h6⟩ := h
  obtain ⟨f1, f2, _⟩ := readsP_ok hF k (by omega) (by omega)
  refine (om_read S h2 f1 k hk).mono ?_
  rintro e w' ⟨⟨ho, hkp⟩, s, rfl, hown, hl⟩
  have hcon : ((readsP P k).letIn k).con k = P.con k := by rw [(f1.ok.letIn (p := k) hk).con k hk]; exact f2 k hk
  rw [hcon] at hown
  refine ⟨s, rfl, hl, hown.came hbyt, A', h1, by rw [readsP_succ]; exact ho, h3.frame (fun i hi => hkp i (h4 i hi).1 (h3.lt hi)), h4, h5, fun i hi hlt => (hkp i (h1 i hi) (h2.lt (h1 i hi))).trans (h6 i hi hlt)⟩
theorem tx_app {M : PoM} (S : PoolS M) {A : Nat → Prop} {w0 w wr w' : World} {m p d : Nat} {P : Po} {r k : Nat} {v v' : Sl} (h : TxI M A w0 w wr m p d P r k v) (ho : Own 5 1 w' v' (vals (cat P.con k ++ P.con k))) (hf : Frm (fun i => v.blk = some i) wr w') (hb : v'.blk = v.blk ∨ (v'.blk = some wr.heap.size ∧ wr.heap.size < w'.heap.size)) : TxI M A w0 w w' m p d P r (k + 1) v' := by
  obtain ⟨A', h1, h2, h3, h4, h5, h6⟩ := h
  have hs0 := h2.below.size
  refine ⟨_, fun i hi => .inl (h1 i hi), h2.grow S h3 (by decide) h4 hf, by rw [cat_succ]; exact ho, fun i hi => ?_, fun i hi hAi => ?_, fun i hi hlt => ?_⟩
  · rcases hb with e | ⟨e, hlt⟩
    · rw [e] at hi
      exact ⟨.inl (h4 i hi).1, (h4 i hi).2⟩
    · rw [e] at hi
      cases hi
      exact ⟨.inr ⟨Nat.le_refl _, hlt⟩, hs0⟩
  · rcases hb with e | ⟨e, hlt⟩
    · rw [e] at hi
      exact h5 i hi hAi
    · rw [e] at hi
      cases hi
      have := h2.lt (h1 _ hAi)
      omega
  · rw [hf.block i (h2.lt (h1 i hi)) (fun e => h5 i e hi)]
    exact h6 i hi hlt
set_option maxHeartbeats 8000000 in
theorem om_text {M : PoM} (S : PoolS M) {A : Nat → Prop} {w0 w : World} {m p d : Nat} {P : Po} (h : OM M A w0 w m p d P) {c : Nat} (hF : P.Fine 4 c) (hc : c + 16 ≤ 9000) : Calls Tryz.prog 35 #[at0 m] w fun e w' => e = .returned (.string (bstr (cat P.con 4))) ∧ OM M A w0 w' m p d (readsP P 4) ∧ Kept6 A w w' := by
  have hA : ∀ k, A k → k < w.heap.size := by obtain ⟨_, _, _, _, _, q⟩ := h; exact q
  have hw0 : w0.heap.size ≤ w.heap.size := h.below.size
  have HST : Hid (TxI M A w0 w (w.alloc (.cells #[] 5)) m p d P 0 0 ⟨some ⟨w.heap.size, 0, none⟩, 0, 0⟩) := by
    have hb := below_alloc w (.cells #[] 5)
    have hsz : (w.alloc (.cells #[] 5)).heap.size = w.heap.size + 1 := by simp
    refine ⟨_, fun i hi => .inl hi, h.more S hb, own_empty w, fun i hi => ?_, fun i hi hAi => ?_, Kept6.all hb (Nat.le_refl _)⟩
    · have e : i = w.heap.size := by simpa [Sl.blk] using hi.symm
      exact ⟨.inr (by omega), by omega⟩
    · have e : i = w.heap.size := by simpa [Sl.blk] using hi.symm
      have := hA i hAi
      omega
  have HF := hide hF
  have HC := hide hc
  have HS := hide S
  have hlen : ∀ k, k < 4 → (P.con k).length = 512 := fun k hk => by
    unfold Po.con
    cases hm : P.m k with
    | none =>
      show ((P.D.sp.drop (512 * k)).take 512).length = 512
      rw [List.length_take, List.length_drop, hF.ok.sp]
      omega
    | some s => exact (hF.ok.sh k s hm).2
  have hbyt : ∀ k, k < 4 → Bytes (P.con k) := fun k hk => by
    unfold Po.con
    cases hm : P.m k with
    | none => exact hF.wet.dev.page_bytes k
    | some s => exact (hF.wet.sh k s hm).2.2
  have HLEN := hide hlen
  have HBY := hide hbyt
  clear h hF hc S hlen hbyt hA hw0
  unfold at0 at *
  go_enter Tryz.func35, Tryz.ntmps35
  go_wp2_with fail
  go_loopw [3, 4] (fun ov iv wr => ∃ (k : Nat) (v : Sl), k ≤ 4 ∧ v.len = 512 * k ∧ iv = .int .i64 k ∧ ov = v.val ∧ Hid (TxI M A w0 w wr m p d P k k v)) (fun _ iv _ => 4 - (intOf iv).toNat)
  case atStart => exact ⟨0, _, by omega, rfl, rfl, rfl, HST⟩
  case round =>
    obtain ⟨k, ⟨va, vl, vc⟩, hk4, hvl, rfl, rfl, hI⟩ := hrel
    clear HST
    simp only at hvl
    subst hvl
    simp only [Sl.val]
    have HPG : Hid (Calls Tryz.prog 33 #[.pointer (some ⟨m, 0, none⟩)] wr fun e w' => e = .returned (.int .i64 4) ∧ w' = wr) := by
      obtain ⟨A', _, ho, _⟩ := hI.out
      exact om_pages HS.out ho (n := 4) (readsP_ok HF.out k hk4 (by have := HC.out; omega)).1.ok.sp (by omega)
    by_cases hk : k < 4
    · have i1 : ((k : Nat) : Int) < 4 := by omega
      have i2 : ((k : Nat) : Int) < 64 := by omega
      have HRD := hide (tx_read HS.out hI.out HF.out HC.out hk (HBY.out k hk))
      clear hI
      unfold at0 at HRD
      go_wp2_with fail
      refine HPG.out.mono ?_
      rintro e w' ⟨rfl, hw⟩
      obtain rfl := hw.symm
      clear hw HPG
      go_wp2_with fail
      refine HRD.out.mono ?_
      rintro e w2 ⟨⟨sa, sl, sc⟩, rfl, hsl, hcm, hI2⟩
      simp only at hsl hcm
      subst hsl
      have HCM := hide hcm
      have HI2 := hide hI2
      have HOW : Hid (Own 5 1 w2 ⟨va, 512 * k, vc⟩ (vals (cat P.con k))) := by obtain ⟨_, _, _, q, _⟩ := hI2; exact q
      clear hcm hI2 HRD
      simp only [Sl.val]
      go_wp2_with (at_builtin; refine wpList_append_by w2 rfl (.tmp 26) (.tmp 27) rfl ⟨va, 512 * k, vc⟩ (cat P.con k) rfl sa 512 sc (P.con k) rfl HOW.out HCM.out (by show 512 * k + 512 ≤ 1000000; omega) ?_)
      intro v3 w3 ho3 hl3 hf3 hb3
      have HI3 := hide (tx_app HS.out HI2.out ho3 hf3 hb3)
      clear ho3 hf3 hb3 HI2 HOW HCM
      obtain ⟨va3, vl3, vc3⟩ := v3
      simp only at hl3
      simp only [Sl.val]
      go_wp2_with fail
      go_roundw
      case rel => exact ⟨k + 1, ⟨va3, vl3, vc3⟩, by omega, by show vl3 = _; omega, by go_num, rfl, HI3⟩
      case measure => simp only [intOf]; omega
    · obtain rfl : k = 4 := by omega
      have i1 : ¬ (4 : Int) < 4 := by omega
      have HE : Hid (OM M A w0 wr m p d (readsP P 4) ∧ Kept6 A w wr) := by
        obtain ⟨A', h1, h2, _, _, _, h6⟩ := hI.out
        exact ⟨h2.less h1, h6⟩
      have HBS : Hid (Bs wr va (512 * 4) (cat P.con 4)) := by
        obtain ⟨A', h1, h2, h3, _⟩ := hI.out
        exact (h3.came (cat_bytes HBY.out)).bs
      have HCV := hide (run_string_of vc HBS.out)
      clear hI HBS
      go_wp2_with fail
      refine HPG.out.mono ?_
      rintro e w' ⟨rfl, hw⟩
      obtain rfl := hw.symm
      clear hw HPG
      go_wp2_with (refine wpList_convW _ rfl 32 9 (.tmp 29) rfl (.slice va (512 * 4) vc) _ rfl _ HCV.out ?_)
      go_ret
      exact ⟨rfl, HE.out⟩
end Go.Proofs.YtpggkfdnpdhkfaaGreat

namespace Go.Proofs.YtpggkfdnpdhkfaaGreat
open Go.RowKit
set_option maxRecDepth 100000
set_option linter.unusedVariables false

def zp : Nat → List Nat := fun _ => List.replicate 512 0
def st1 (gs : List (List Im)) (j : Nat) : ByteArray := bstr (cat (Fj zp gs j) 4)
def stl (gs : List (List Im)) (k : Nat) : List ByteArray := (List.range k).map (st1 gs)
theorem stl_len (gs : List (List Im)) (k : Nat) : (stl gs k).length = k := by simp [stl]
theorem stl_app (gs : List (List Im)) (g : List Im) {k : Nat} (h : k ≤ gs.length + 1) : stl (gs ++ [g]) k = stl gs k := by
  unfold stl
  refine List.map_congr_left (fun j hj => ?_)
  have := List.mem_range.1 hj
  unfold st1
  rw [Fj_app zp gs [g] (by omega)]
theorem stl_succ (gs : List (List Im)) (k : Nat) : stl gs (k + 1) = stl gs k ++ [st1 gs k] := by simp [stl, List.range_succ]
theorem stl_get (gs : List (List Im)) {k j : Nat} (h : j < k) : (stl gs k).getD j ByteArray.empty = st1 gs j := by simp [stl, List.getD, h]
theorem zp_len (k : Nat) : (zp k).length = 512 := List.length_replicate
/-- What stands between two rounds; half: a group is turned, and its state is not yet among the states. -/
structure WS (M : PoM) (w wr : World) (m p d c s syn : Nat) (v sv : Sl) (ss : List ByteArray) (b half : Bool) (A A1 : Nat → Prop) (P : Po) (gs : List (List Im)) (B : Nat) (t : List Nat) (l : List Ix) : Prop where
  om : OM M A w wr m p d P
  fine : P.Fine 4 c
  sb : P.D.sb ≤ s
  inv : Inv zp gs 4 t B syn P
  hB : B ≤ gs.length
  imb : ∀ g ∈ gs, ImB g
  gone : P.D.gone = b
  live : b = false → t = [] ∧ ∀ k, k < 4 → P.con k = Fj zp gs gs.length k
  gr : Gr A1 wr v l
  now : ims l = pgs (Fj zp gs gs.length) 4 0
  sub : ∀ k, A1 k → A k
  own : OwnW wr sv ss
  blk : ∀ k, sv.blk = some k → A k ∧ w.heap.size ≤ k ∧ ¬ A1 k
  ss : ss = stl gs (if half = true then gs.length else gs.length + 1)
/-- The blocks of E are apart from it, too. -/
def WG (M : PoM) (w wr : World) (m p d c s syn : Nat) (v sv : Sl) (ss : List ByteArray) (b half : Bool) (E : Nat → Prop) : Prop := ∃ A A1 P gs B t l, WS M w wr m p d c s syn v sv ss b half A A1 P gs B t l ∧ (∀ k, E k → A k) ∧ ∀ k, sv.blk = some k → ¬ E k
section
variable {M : PoM} {w wr : World} {m p d c s syn : Nat} {v sv : Sl} {ss : List ByteArray} {b half : Bool} {E : Nat → Prop}
theorem WS.act {A A1 : Nat → Prop} {P : Po} {gs : List (List Im)} {B : Nat} {t : List Nat} {l : List Ix} (h : WS M w wr m p d c s syn v sv ss b half A A1 P gs B t l) {w' : World} {Q : Po} {c' s' syn' B' : Nat} {t' : List Nat} {b' : Bool} (ho : OM M A w w' m p d Q) (hk : Kept6 A wr w') (hF : Q.Fine 4 c') (hs : Q.D.sb ≤ s') (hI : Inv zp gs 4 t' B' syn' Q) (hB : B' ≤ gs.length) (hg : Q.D.gone = b') (hl : b' = false → t' = [] ∧ ∀ k, k < 4 → Q.con k = Fj zp gs gs.length k) : WS M w w' m p d c' s' syn' v sv ss b' half A A1 Q gs B' t' l :=
  ⟨ho, hF, hs, hI, hB, h.imb, hg, hl, h.gr.keep (fun k hk' hlt => hk k (h.sub k hk') hlt), h.now, h.sub, Own.frame h.own (fun k hk' => hk k (h.blk k hk').1 (Own.lt h.own hk')), h.blk, h.ss⟩
theorem WG.below (h : WG M w wr m p d c s syn v sv ss b half E) : Below w.heap.size w wr := by
  obtain ⟨A, A1, P, gs, B, t, l, h, hE, hE2⟩ := h
  exact h.om.below
theorem WG.more (h : WG M w wr m p d c s syn v sv ss b half E) {c' s' : Nat} (h1 : c ≤ c') (h2 : s ≤ s') (h3 : c' ≤ 9000) : WG M w wr m p d c' s' syn v sv ss b half E := by
  obtain ⟨A, A1, P, gs, B, t, l, h, hE, hE2⟩ := h
  exact ⟨A, A1, P, gs, B, t, l, { h with fine := h.fine.more h1 h3, sb := Nat.le_trans h.sb h2 }, hE, hE2⟩
theorem WG.keep (S : PoolS M) (h : WG M w wr m p d c s syn v sv ss b half E) {w' : World} (hb : Below wr.heap.size wr w') : WG M w w' m p d c s syn v sv ss b half E := by
  obtain ⟨A, A1, P, gs, B, t, l, h, hE, hE2⟩ := h
  exact ⟨A, A1, P, gs, B, t, l, h.act (h.om.keep S hb) (Kept6.all hb (Nat.le_refl _)) h.fine h.sb h.inv h.hB h.gone h.live, hE, hE2⟩
theorem WG.free (h : WG M w wr m p d c s syn v sv ss b half E) : WG M w wr m p d c s syn v sv ss b half (fun _ => False) := by
  obtain ⟨A, A1, P, gs, B, t, l, h, hE, hE2⟩ := h
  exact ⟨A, A1, P, gs, B, t, l, h, fun _ e => e.elim, fun _ _ e => e⟩
theorem WG.box (S : PoolS M) (h : WG M w wr m p d c s syn v sv ss b half E) {w' : World} (hb : Below wr.heap.size wr w') : WG M w w' m p d c s syn v sv ss b half (fun k => wr.heap.size ≤ k ∧ k < w'.heap.size) := by
  obtain ⟨A, A1, P, gs, B, t, l, h, hE, hE2⟩ := h
  have hown : OwnW w' sv ss := Own.frame h.own (fun k hk => hb.block k (Own.lt h.own hk))
  refine ⟨_, A1, P, gs, B, t, l, ⟨h.om.more S hb, h.fine, h.sb, h.inv, h.hB, h.imb, h.gone, h.live, h.gr.below hb (Nat.le_refl _), h.now, fun k hk => .inl (h.sub k hk), hown, fun k hk => ⟨.inl (h.blk k hk).1, (h.blk k hk).2⟩, h.ss⟩, fun k hk => .inr hk, fun k hk e => ?_⟩
  have := Own.lt h.own hk
  omega
theorem WG.len (h : WG M w wr m p d c s syn v sv ss b false E) : sv.len = ss.length ∧ 1 ≤ ss.length ∧ syn < ss.length := by
  obtain ⟨A, A1, P, gs, B, t, l, h, hE, hE2⟩ := h
  have h1 := h.ss
  rw [if_neg (by decide)] at h1
  obtain ⟨q, _, _, q2, q3, _⟩ := h.inv.ki.ex
  refine ⟨h.own.len, ?_, ?_⟩ <;> rw [h1, stl_len] <;> omega
theorem wg_gone (S : PoolS M) (h : WG M w wr m p d c s syn v sv ss b half E) : Calls Tryz.prog 36 #[at0 d] wr fun e w' => e = .returned (.bool b) ∧ w' = wr := by
  obtain ⟨A, A1, P, gs, B, t, l, h, hE, hE2⟩ := h
  have := om_gone S h.om h.fine
  rw [h.gone] at this
  exact this
theorem sync_gone_is (D : Ds) : D.sync.gone = D.gone := by
  unfold Ds.sync
  split
  · rfl
  · exact (D.keep_ag _ _ _).2
theorem wg_sync (S : PoolS M) (h : WG M w wr m p d c s syn v sv ss b false E) : Calls Tryz.prog 16 #[at0 m] wr fun e w' => e = .returned (.tuple #[]) ∧ WG M w w' m p d c s (if b = true then syn else ss.length - 1) v sv ss b false E ∧ Kept6 E wr w' := by
  obtain ⟨A, A1, P, gs, B, t, l, h, hE, hE2⟩ := h
  have hss : ss.length - 1 = gs.length := by rw [h.ss, if_neg (by decide), stl_len, Nat.add_sub_cancel]
  refine (om_sync S h.om h.fine).mono ?_
  rintro e w' ⟨rfl, ho, hk⟩
  refine ⟨rfl, ⟨A, A1, P.syncM, gs, B, t, l, h.act ho hk h.fine.syncM (by rw [syncM_sb]; exact h.sb) (h.inv.syncM h.fine.wet.dev ?_ h.hB) h.hB ((sync_gone_is _).trans h.gone) (fun hb => ⟨(h.live hb).1, fun k hk => by rw [syncM_con]; exact (h.live hb).2 k hk⟩), hE, hE2⟩, fun k hk' hl => hk k (hE k hk') hl⟩
  cases b
  · rw [if_neg (by decide), hss]
    exact .inr ⟨h.gone, Nat.le_refl _⟩
  · rw [if_pos rfl]
    exact .inl (Nat.le_refl _)
theorem wg_check (S : PoolS M) (h : WG M w wr m p d c s syn v sv ss b half E) (hc : c + 16 ≤ 9000) (hs : s + 65536 ≤ 900000000000) : Calls Tryz.prog 18 #[at0 m] wr fun e w' => e = .returned (.tuple #[]) ∧ (∃ b', WG M w w' m p d (c + 16) (s + 65536) syn v sv ss b' half E) ∧ Kept6 E wr w' := by
  obtain ⟨A, A1, P, gs, B, t, l, h, hE, hE2⟩ := h
  have hsb := h.sb
  refine (om_check S h.om h.fine (by omega) (by omega)).mono ?_
  rintro e w' ⟨rfl, ho, hk⟩
  have hch := h.fine.chk (n := 4) (by omega) (by omega)
  obtain ⟨B', t', q1, q2, q3⟩ := h.inv.check h.fine (by omega) h.hB (fun hg => (h.live (h.gone.symm.trans hg)).2)
  refine ⟨rfl, ⟨_, A, A1, P.check 4, gs, B', t', l, h.act ho hk hch.fine ?_ q2 q1 rfl (fun hg => ?_), hE, hE2⟩, fun k hk' hl => hk k (hE k hk') hl⟩
  · rw [hch.sb]
    have := h.fine.ss
    omega
  · obtain ⟨_, e2, e3⟩ := q3 hg
    refine ⟨e2, fun k hk => ?_⟩
    rw [hch.con k hk]
    exact (h.live (h.gone.symm.trans e3)).2 k hk
theorem gone_write {Q : Po} (hq : Q.D.gone = true) (k : Nat) : (Q.write k).D.gone = true := by
  unfold Po.write
  cases Q.m k with
  | none => exact hq
  | some s =>
    simp only
    split
    · have ha : (Q.ahead s.place).D.gone = true := by
        unfold Po.ahead
        split
        · show Q.D.sync.gone = true
          rw [sync_gone_is]; exact hq
        · exact hq
      show ((Q.ahead s.place).D.write k s.b).gone = true
      cases hh : ((Q.ahead s.place).D.write k s.b).gone
      · have := (((Q.ahead s.place).D.write0 k s.b).spend_gone 4 hh).1
        have e : (Q.ahead s.place).D.gone = false := this
        rw [ha] at e
        cases e
      · rfl
    · exact hq
theorem wg_evict (S : PoolS M) (h : WG M w wr m p d c s syn v sv ss b half E) (hc : c + 4 ≤ 9000) (k : Int) (hw : (Lit.int .i64 k).wf = true) : Calls Tryz.prog 20 #[at0 m, .int .i64 k] wr fun e w' => ∃ r : Int, e = .returned (.int .i64 r) ∧ (∃ b', WG M w w' m p d (c + 4) s syn v sv ss b' half E) ∧ Kept6 E wr w' := by
  obtain ⟨A, A1, P, gs, B, t, l, h, hE, hE2⟩ := h
  refine (om_evict S h.om h.fine k hw).mono ?_
  rintro e w' ⟨⟨ho, hk⟩, rfl⟩
  obtain ⟨f1, f2, _⟩ := h.fine.evictAny hc k
  refine ⟨_, rfl, ⟨_, A, A1, P.evictAny k, gs, B, t, l, h.act ho hk f1 ?_ (h.inv.evictAny h.fine.wet h.hB k) h.hB rfl (fun hg => ?_), hE, hE2⟩, fun k hk' hl => hk k (hE k hk') hl⟩
  · have : (P.evictAny k).D.sb = P.D.sb := by
      unfold Po.evictAny
      split
      · exact write_sb P _
      · rfl
    rw [this]
    exact h.sb
  · have hb : b = false := by
      cases hb : b
      · rfl
      · exfalso
        have hg1 : P.D.gone = true := h.gone.trans hb
        have : (P.evictAny k).D.gone = true := by
          unfold Po.evictAny
          split
          · exact gone_write hg1 _
          · exact hg1
        rw [this] at hg
        cases hg
    exact ⟨(h.live hb).1, fun i hi => by rw [f2 i hi]; exact (h.live hb).2 i hi⟩
theorem Inv.armD {f0 : Nat → List Nat} {gs : List (List Im)} {n : Nat} {t : List Nat} {B syn : Nat} {P : Po} (h : Inv f0 gs n t B syn P) (k : Int) : Inv f0 gs n t B syn { P with D := P.D.arm k } := by
  unfold Ds.arm
  split
  · exact h
  · exact ⟨⟨h.ki.odd, h.ki.may, h.ki.kbs, h.ki.ex⟩, fun hg => ⟨(h.lv hg).st, (h.lv hg).sy, (h.lv hg).sp, (h.lv hg).sh⟩⟩
theorem arm_same (D : Ds) (k : Int) : (D.arm k).sp = D.sp ∧ (D.arm k).ss = D.ss ∧ (D.arm k).sb = D.sb ∧ (D.arm k).gone = D.gone := by
  unfold Ds.arm
  split <;> exact ⟨rfl, rfl, rfl, rfl⟩
theorem wf_le {k : Int} (hw : (Lit.int .i64 k).wf = true) : k ≤ 9223372036854775807 := by
  simp only [Lit.wf, show IntKind.i64.min = -9223372036854775808 by decide, show IntKind.i64.max = 9223372036854775807 by decide, Bool.and_eq_true, decide_eq_true_eq] at hw
  exact hw.2
theorem wg_arm (S : PoolS M) (h : WG M w wr m p d c s syn v sv ss b half E) (k : Int) (hw : (Lit.int .i64 k).wf = true) : Calls Tryz.prog 24 #[at0 d, .int .i64 k] wr fun e w' => e = .returned (.tuple #[]) ∧ WG M w w' m p d c s syn v sv ss b half E ∧ Kept6 E wr w' := by
  obtain ⟨A, A1, P, gs, B, t, l, h, hE, hE2⟩ := h
  refine (om_arm S h.om h.fine k).mono ?_
  rintro e w' ⟨rfl, ho, hk⟩
  obtain ⟨a1, a2, a3, a4⟩ := arm_same P.D k
  refine ⟨rfl, ⟨A, A1, _, gs, B, t, l, h.act ho hk ⟨h.fine.ok.dev a1 _, ⟨h.fine.wet.dev.arm k (wf_le hw), h.fine.wet.sh⟩, h.fine.cap, by show (P.D.arm k).ss.length ≤ _; rw [a2]; exact h.fine.ss⟩ (by show (P.D.arm k).sb ≤ s; rw [a3]; exact h.sb) (h.inv.armD k) h.hB (a4.trans h.gone) (fun hb => ⟨(h.live hb).1, fun i hi => ?_⟩), hE, hE2⟩, fun k hk' hl => hk k (hE k hk') hl⟩
  rw [Po.con_dev a1]
  exact (h.live hb).2 i hi
/-- A group is turned, and the document's pages behind it. -/
theorem wg_apply (S : PoolS M) (h : WG M w wr m p d c s syn v sv ss false false E) (hc : c + 24 ≤ 9000) {w2 : World} {v2 : Sl} {l2 : List Ix} (hb2 : Below wr.heap.size wr w2) (hg2 : GI (fun k => wr.heap.size ≤ k) wr.heap.size w2 v2 l2) (hl2 : v2.len ≤ 9) :
    ∃ r : Int, Calls Tryz.prog 13 #[at0 m, v2.val] w2 fun e w3 => e = .returned (.int .i64 r) ∧ (r ≠ 0 → WG M w w3 m p d (c + 24) s syn v sv ss false false E ∧ Kept6 E wr w3) ∧ (r = 0 → Calls Tryz.prog 37 #[v.val, v2.val] w3 fun e' w4 => ∃ v4 : Sl, e' = .returned v4.val ∧ (∃ b', WG M w w4 m p d (c + 24) s syn v4 sv ss b' true E) ∧ Kept6 E wr w4) := by
  obtain ⟨A, A1, P, gs, B, t, l, h, hE, hE2⟩ := h
  have o2 := h.om.more S hb2
  have gr2 := hg2.gr (by omega)
  obtain ⟨ht, hcon⟩ := h.live rfl
  subst ht
  refine ⟨P.applyE 4 (ims l2), (om_apply S o2 h.fine hc v2 l2 gr2 (fun k hk hlt => .inl (.inr ⟨hk.elim id id, hlt⟩))).mono ?_⟩
  rintro e' w3 ⟨rfl, o3, k3⟩
  have hsub : ∀ k, A1 k → k < wr.heap.size := fun k hk => h.om.lt (h.sub k hk)
  have g3 : Gr A1 w3 v l := (h.gr.below hb2 (Nat.le_refl _)).keep (fun k hk hlt => k3 k (.inl (h.sub k hk)) hlt)
  have hown2 : OwnW w2 sv ss := Own.frame h.own (fun k hk => hb2.block k (Own.lt h.own hk))
  have hown3 : OwnW w3 sv ss := Own.frame hown2 (fun k hk => k3 k (.inl (h.blk k hk).1) (Own.lt hown2 hk))
  have hkE : Kept6 E wr w3 := fun k hk hl => (k3 k (.inl (hE k hk)) (Nat.lt_of_lt_of_le hl hb2.size)).trans (hb2.block k hl)
  refine ⟨rfl, fun hr => ?_, fun hr => ?_⟩
  · rw [if_neg hr] at o3
    exact ⟨⟨A, A1, P, gs, B, [], l, ⟨o3.less (fun k hk => .inl hk), h.fine.more (by omega) hc, h.sb, h.inv, h.hB, h.imb, h.gone, h.live, g3, h.now, h.sub, hown3, h.blk, h.ss⟩, hE, hE2⟩, hkE⟩
  · rw [if_pos hr] at o3
    obtain ⟨hm, hpg, hss⟩ := applyE_zero hr
    obtain ⟨f1, s1, b1, c1⟩ := h.fine.apply hc hm gr2.imB hss
    have hinv := h.inv.apply h.fine h.gone h.hB hm gr2.imB hss
    have g23 : Gr (fun k => wr.heap.size ≤ k ∧ k < w2.heap.size) w3 v2 l2 := (gr2.mono (fun k hk hlt => ⟨hk.elim id id, hlt⟩)).keep (fun k hk hlt => k3 k (.inr hk) hlt)
    have hll : l.length = 4 := by have := congrArg List.length h.now; rw [ims_length, pgs_len] at this; exact this
    have hvl : v.len = 4 := by rw [← h.gr.len]; exact hll
    refine (rapply_any (fun k => (A1 k ∨ (wr.heap.size ≤ k ∧ k < w2.heap.size)) ∨ w3.heap.size ≤ k) w3 v v2 l l2 g3 g23 (by omega) (steep_ims (by rw [h.now]; exact pgs_steep _ _ _)) (fun k hk _ => .inl (.inl hk)) (fun k hk _ => .inl (.inr hk)) (fun k hk => .inr hk)).mono ?_
    rintro e' w4 ⟨v4, l4, rfl, g4, e4, hb4⟩
    have hlen : (gs ++ [ims l2]).length = gs.length + 1 := by simp
    have hF : Fj zp (gs ++ [ims l2]) (gs ++ [ims l2]).length = upd (Fj zp gs gs.length) (ims l2) := by
      have e0 : (gs ++ [ims l2])[gs.length]'(by rw [hlen]; exact Nat.lt_succ_self _) = ims l2 := by simp
      rw [hlen, Fj_succ zp (gs ++ [ims l2]) (by rw [hlen]; exact Nat.lt_succ_self _), e0, Fj_app zp gs _ (Nat.le_refl _)]
    have hs3 : ∀ k, E k → k < w3.heap.size := fun k hk => o3.lt (.inl (hE k hk))
    refine ⟨v4, rfl, ⟨_, (fun k => (A k ∨ (wr.heap.size ≤ k ∧ k < w2.heap.size)) ∨ (w3.heap.size ≤ k ∧ k < w4.heap.size)), (fun k => ((A1 k ∨ (wr.heap.size ≤ k ∧ k < w2.heap.size)) ∨ w3.heap.size ≤ k) ∧ k < w4.heap.size), P.apply 4 (ims l2), gs ++ [ims l2], B, [], l4, ⟨o3.more S hb4, f1, by rw [b1]; exact h.sb, hinv, by rw [hlen]; have := h.hB; omega, fun g hg => ?_, rfl, fun _ => ⟨rfl, fun k hk => ?_⟩, g4.mono (fun k hk hlt => ⟨hk, hlt⟩), ?_, fun k hk => ?_, Own.frame hown3 (fun k hk => hb4.block k (Own.lt hown3 hk)), fun k hk => ⟨.inl (.inl (h.blk k hk).1), (h.blk k hk).2.1, fun e => ?_⟩, ?_⟩, fun k hk => .inl (.inl (hE k hk)), hE2⟩, fun k hk hl => (hb4.block k (hs3 k hk)).trans (hkE k hk hl)⟩
    · rcases List.mem_append.1 hg with e | e
      · exact h.imb g e
      · rw [List.mem_singleton.1 e]; exact gr2.imB
    · rw [c1 k hk, hF]
      exact upd_at _ (hcon k hk)
    · rw [e4, h.now, pgs_fold _ _ hpg, hF]
    · rcases hk with ⟨(e | e) | e, hlt⟩
      · exact .inl (.inl (h.sub k e))
      · exact .inl (.inr e)
      · exact .inr ⟨e, hlt⟩
    · have hk1 := Own.lt h.own hk
      have hk3 := Own.lt hown3 hk
      rcases e with ⟨(e | e) | e, hlt⟩
      · exact (h.blk k hk).2.2 e
      · omega
      · omega
    · rw [if_pos rfl, hlen, stl_app gs _ (Nat.le_refl _), h.ss, if_neg (by decide)]
/-- The pages now, in memory. -/
theorem wg_now (h : WG M w wr m p d c s syn v sv ss b true E) : ∃ f : Nat → List Nat, (∃ b1 off, v.a = some ⟨b1, off, none⟩ ∧ v.len = 4 ∧ ∀ k, k < 4 → ∃ sa sc, wr.cell? ⟨b1, off + k * 2 + 1, none⟩ = some (.slice sa 512 sc) ∧ Bs wr sa 512 (f k)) ∧ ∀ (w' : World) (sv' : Sl), OwnW w' sv' (ss ++ [bstr (cat f 4)]) → OwnW wr sv ss → Frm (fun i => sv.blk = some i) wr w' → (sv'.blk = sv.blk ∨ ∃ i, sv'.blk = some i ∧ wr.heap.size ≤ i) → PoolS M → WG M w w' m p d c s syn v sv' (ss ++ [bstr (cat f 4)]) b false E ∧ Kept6 E wr w' := by
  obtain ⟨A, A1, P, gs, B, t, l, h, hE, hE2⟩ := h
  have hll : l.length = 4 := by have := congrArg List.length h.now; rw [ims_length, pgs_len] at this; exact this
  have hvl : v.len = 4 := by rw [← h.gr.len]; exact hll
  obtain ⟨b1, off, ha, _⟩ := h.gr.cell 0 (by omega)
  refine ⟨Fj zp gs gs.length, ⟨b1, off, ha, hvl, fun k hk => ?_⟩, fun w' sv' ho ho0 hf hb S => ?_⟩
  · obtain ⟨b2, off2, ha2, _, c1⟩ := h.gr.cell k (by omega)
    rw [ha] at ha2
    cases ha2
    have hx : (l.getD k Ix.zero).im = ⟨((0 + k : Nat) : Int), Fj zp gs gs.length (0 + k)⟩ := by rw [← ims_getD, h.now]; exact pgs_get _ 4 0 k hk
    have hbs : (l.getD k Ix.zero).bs = Fj zp gs gs.length k := by have := congrArg Im.bs hx; rw [Nat.zero_add] at this; exact this
    have hat := h.gr.at (i := k) (by omega)
    have hsl : (l.getD k Ix.zero).s.len = 512 := by
      rw [← hat.len, hbs]
      exact Fj_len (n := 4) (fun k _ => zp_len k) h.inv.ki.may _ k hk
    refine ⟨(l.getD k Ix.zero).s.a, (l.getD k Ix.zero).s.cap, ?_, ?_⟩
    · rw [← hsl]; exact c1
    · have := hat.came.bs
      rw [hbs, hsl] at this
      exact this
  · refine ⟨⟨_, A1, P, gs, B, t, l, ⟨h.om.grow S ho0 (by decide) (fun k hk => ⟨(h.blk k hk).1, (h.blk k hk).2.1⟩) hf, h.fine, h.sb, h.inv, h.hB, h.imb, h.gone, h.live, h.gr.keep (Kept6.frm hf (fun k hk e => (h.blk k e).2.2 hk)), h.now, fun k hk => .inl (h.sub k hk), ho, fun k hk => ?_, ?_⟩, fun k hk => .inl (hE k hk), fun k hk e => ?_⟩, fun k hk hl => hf.block k hl (fun e => hE2 k e hk)⟩
    · have hlt := Own.lt ho hk
      rcases hb with e | ⟨i, e, hi⟩
      · rw [e] at hk
        exact ⟨.inl (h.blk k hk).1, (h.blk k hk).2⟩
      · rw [e] at hk
        cases hk
        exact ⟨.inr ⟨hi, hlt⟩, Nat.le_trans h.om.below.size hi, fun e2 => by have := h.om.lt (h.sub _ e2); omega⟩
    · rw [if_neg (by decide), stl_succ]
      congr 1
      have := h.ss
      rw [if_pos rfl] at this
      exact this
    · rcases hb with e1 | ⟨i, e1, hi⟩
      · rw [e1] at hk
        exact hE2 k hk e
      · rw [e1] at hk
        cases hk
        have := h.om.lt (hE _ e)
        omega
end
end Go.Proofs.YtpggkfdnpdhkfaaGreat

namespace Go.Proofs.YtpggkfdnpdhkfaaGreat
open Go.RowKit
set_option maxRecDepth 100000
set_option linter.unusedVariables false

theorem kp_zero : KPok zp [] 4 0 0 (List.replicate (512 * 4) 0) := by
  refine ⟨List.length_replicate, fun pos hp => ⟨0, Nat.le_refl _, Nat.le_refl _, ?_⟩⟩
  show (List.replicate 512 0).getD (pos % 512) 0 = (List.replicate (512 * 4) 0).getD pos 0
  rw [List.getD_eq_getElem?_getD, List.getD_eq_getElem?_getD, List.getElem?_replicate, List.getElem?_replicate, if_pos (Nat.mod_lt _ (by omega)), if_pos hp]
theorem rdy_new : Rdy zp [] 4 [] 0 0 (Ds.new 4) := ⟨oddT_nil, (fun g hg => by cases hg), Nat.le_refl _, Nat.le_refl _, rfl, kp_zero, rfl, rfl, rfl, rfl, rfl, rfl⟩
section
variable {M : PoM} {w wr : World} {m p d c s syn : Nat} {v sv : Sl} {ss : List ByteArray} {b half : Bool}
theorem ownW_one (w : World) (x : ByteArray) : OwnW (w.alloc (.cells #[.string x] 9)) ⟨some ⟨w.heap.size, 0, none⟩, 1, 1⟩ [x] :=
  ⟨rfl, .inr ⟨w.heap.size, 0, _, rfl, heap_alloc_new w _, by simp, Nat.le_refl _, (by show 1 ≤ maxLen; unfold maxLen; omega), rfl⟩⟩
/-- The beginning: all pages are told. -/
theorem wg_start (S : PoolS M) {w2 : World} {f : Nat} (h1 : 1 ≤ f) (h2 : f ≤ 64) (ho : OM M (fun _ => False) w w2 m p d (Po.opened (Ds.new 4) 4 f)) {l : List Ix} (hz : ZI w2 wr v l 4) (hv : v.len ≤ 1000) : Calls Tryz.prog 35 #[at0 m] wr fun e w' => ∃ x, e = .returned (.string x) ∧ ∃ b, WG M w (w'.alloc (.cells #[.string x] 9)) m p d 544 0 0 v ⟨some ⟨w'.heap.size, 0, none⟩, 1, 1⟩ [x] b false (fun _ => False) := by
  obtain ⟨q1, q2, q3, q4⟩ := opened_new (n := 4) (f := f) (by omega) (by omega) h1 h2
  obtain ⟨r1, B', t', r2, r3, r4⟩ := rdy_new.opened (f := f) (c := 0) (Ds.Easy.new (by omega) (by omega)) (fun x hx => by cases hx) (by show (0 : Nat) ≤ _; omega) (by omega) h1 h2 (by show 0 + 65536 ≤ _; omega) (fun k _ => zp_len k) (fun g hg => by cases hg)
  have o1 := ho.more S hz.2.2
  have g1 : Gr (fun k => w2.heap.size ≤ k ∧ k < wr.heap.size) wr v l := (hz.1.gr (by omega)).mono (fun k hk hlt => ⟨hk.elim id id, hlt⟩)
  refine (om_text S o1 q1 (by omega)).mono ?_
  rintro e w' ⟨rfl, o2, k2⟩
  refine ⟨_, rfl, ?_⟩
  have hb := below_alloc w' (.cells #[.string (bstr (cat (Po.opened (Ds.new 4) 4 f).con 4))] 9)
  have hcat : cat (Po.opened (Ds.new 4) 4 f).con 4 = cat (Fj zp [] 0) 4 := cat_at (fun i hi => r1 i hi)
  obtain ⟨f1, f2, f3, f4⟩ := readsP_ok q1 4 (by omega) (by omega)
  have o3 := o2.more S hb
  have hsz : (w'.alloc (.cells #[.string (bstr (cat (Po.opened (Ds.new 4) 4 f).con 4))] 9)).heap.size = w'.heap.size + 1 := by simp
  have hlt : ∀ k, (False ∨ (w2.heap.size ≤ k ∧ k < wr.heap.size)) → k < w'.heap.size := fun k hk => o2.lt hk
  refine ⟨_, _, (fun k => w2.heap.size ≤ k ∧ k < wr.heap.size), readsP (Po.opened (Ds.new 4) 4 f) 4, [], B', t', l, ⟨o3, f1, by rw [f3, q3]; exact Nat.le_refl _, readsP_inv r3 q1 r2 4 (by omega) (by omega), r2, (fun g hg => by cases hg), rfl, fun hg => ?_, (g1.keep (fun k hk hl => k2 k (.inr hk) hl)).below hb (Nat.le_refl _), ?_, fun k hk => .inl (.inr hk), ownW_one w' _, fun k hk => ?_, ?_⟩, fun _ e => e.elim, fun _ _ e => e⟩
  · have hg0 : (Po.opened (Ds.new 4) 4 f).D.gone = false := (Calm.opened (D := Ds.new 4) ⟨rfl, rfl⟩).2
    exact ⟨(r4 hg0).2, fun k hk => by rw [f2 k hk]; exact r1 k hk⟩
  · rw [hz.2.1]
    exact pgs_at 4 0 (fun k _ _ => rfl)
  · have e : k = w'.heap.size := by simpa [Sl.blk] using hk.symm
    refine ⟨.inr (by omega), by rw [e]; exact o2.below.size, fun e2 => ?_⟩
    have := hlt k (.inr e2)
    omega
  · rw [if_neg (by decide), hcat]
    rfl

/-- A device whose power may go: what it keeps is a state from the synced one on. -/
def CG (w wr : World) (d c s syn : Nat) (sv : Sl) (ss : List ByteArray) : Prop := ∃ (A : Nat → Prop) (D : Ds) (gs : List (List Im)) (N B : Nat) (t : List Nat), OD A w wr d D ∧ D.Easy 4 c ∧ D.ss.length ≤ 65536 ∧ D.sb ≤ s ∧ N ≤ gs.length ∧ KI zp (gs.take N) 4 t B syn D ∧ B ≤ N ∧ (∀ g ∈ gs, ImB g) ∧ OwnW wr sv ss ∧ (∀ k, sv.blk = some k → A k) ∧ ss = stl gs (gs.length + 1)
def CR (w wr : World) (d s syn : Nat) (sv : Sl) (ss : List ByteArray) : Prop := ∃ (A : Nat → Prop) (D : Ds) (gs : List (List Im)) (N B : Nat) (t : List Nat), OD A w wr d D ∧ D.Easy 4 0 ∧ D.ss.length ≤ 65536 ∧ D.sb ≤ s ∧ N ≤ gs.length ∧ syn ≤ N ∧ Rdy zp (gs.take N) 4 t B syn D ∧ (∀ g ∈ gs, ImB g) ∧ OwnW wr sv ss ∧ (∀ k, sv.blk = some k → A k) ∧ ss = stl gs (gs.length + 1)
def CO (M : PoM) (w wr : World) (m p d s syn : Nat) (sv : Sl) (ss : List ByteArray) (b : Bool) : Prop := ∃ (A : Nat → Prop) (P : Po) (gs : List (List Im)) (N B : Nat) (t : List Nat), OM M A w wr m p d P ∧ P.Fine 4 528 ∧ P.D.sb ≤ s ∧ N ≤ gs.length ∧ syn ≤ N ∧ Inv zp (gs.take N) 4 t B syn P ∧ B ≤ N ∧ P.D.gone = b ∧ (∀ k, k < 4 → P.con k = Fj zp gs N k) ∧ (∀ g ∈ gs, ImB g) ∧ OwnW wr sv ss ∧ (∀ k, sv.blk = some k → A k) ∧ ss = stl gs (gs.length + 1)
theorem CG.below (h : CG w wr d c s syn sv ss) : Below w.heap.size w wr := by
  obtain ⟨A, D, gs, N, B, t, h, _⟩ := h
  exact h.below
theorem CR.below (h : CR w wr d s syn sv ss) : Below w.heap.size w wr := by
  obtain ⟨A, D, gs, N, B, t, h, _⟩ := h
  exact h.below
theorem CO.below (h : CO M w wr m p d s syn sv ss b) : Below w.heap.size w wr := by
  obtain ⟨A, P, gs, N, B, t, h, _⟩ := h
  exact h.below
theorem CG.more (h : CG w wr d c s syn sv ss) {s' : Nat} (hs : s ≤ s') : CG w wr d c s' syn sv ss := by
  obtain ⟨A, D, gs, N, B, t, h1, h2, h3, h4, h5⟩ := h
  exact ⟨A, D, gs, N, B, t, h1, h2, h3, Nat.le_trans h4 hs, h5⟩
theorem CG.up (h : CG w wr d c s syn sv ss) {c' : Nat} (hc : c ≤ c') : CG w wr d c' s syn sv ss := by
  obtain ⟨A, D, gs, N, B, t, h1, h2, h3⟩ := h
  exact ⟨A, D, gs, N, B, t, h1, h2.more hc, h3⟩
theorem CR.keep (h : CR w wr d s syn sv ss) {w' : World} (hb : Below wr.heap.size wr w') : CR w w' d s syn sv ss := by
  obtain ⟨A, D, gs, N, B, t, h1, h2, h3, h4, h5, h6, h7, h8, h9, h10⟩ := h
  exact ⟨A, D, gs, N, B, t, h1.keep hb, h2, h3, h4, h5, h6, h7, h8, Own.frame h9 (fun k hk => hb.block k (Own.lt h9 hk)), h10⟩
theorem CG.keep (h : CG w wr d c s syn sv ss) {w' : World} (hb : Below wr.heap.size wr w') : CG w w' d c s syn sv ss := by
  obtain ⟨A, D, gs, N, B, t, h1, h2, h3, h4, h5, h6, h7, h8, h9, h10⟩ := h
  exact ⟨A, D, gs, N, B, t, h1.keep hb, h2, h3, h4, h5, h6, h7, h8, Own.frame h9 (fun k hk => hb.block k (Own.lt h9 hk)), h10⟩
theorem CG.at_ (h : CG w wr d c s syn sv ss) {k : Nat} (hk : k < ss.length) : sv.len = ss.length ∧ ∃ g off, sv.a = some ⟨g, off, none⟩ ∧ wr.cell? ⟨g, off + k, none⟩ = some (.string (ss.getD k ByteArray.empty)) := by
  obtain ⟨A, D, gs, N, B, t, h1, h2, h3, h4, h5, h6, h7, h8, h9, h10⟩ := h
  exact ⟨h9.len, h9.at_ hk⟩
theorem WG.cg (S : PoolS M) {E : Nat → Prop} (h : WG M w wr m p d c s syn v sv ss b false E) : CG w wr d c s syn sv ss := by
  obtain ⟨A, A1, P, gs, B, t, l, h, _, _⟩ := h
  have hss := h.ss
  rw [if_neg (by decide)] at hss
  exact ⟨A, P.D, gs, gs.length, B, t, h.om.dev S, h.fine.wet.dev, h.fine.ss, h.sb, Nat.le_refl _, by rw [List.take_length]; exact h.inv.ki, h.hB, h.imb, h.own, fun k hk => (h.blk k hk).1, hss⟩
theorem CO.cg (S : PoolS M) (h : CO M w wr m p d s syn sv ss b) : CG w wr d 528 s syn sv ss := by
  obtain ⟨A, P, gs, N, B, t, h1, h2, h3, h4, h5, h6, h7, h8, h9, h10, h11, h12, h13⟩ := h
  exact ⟨A, P.D, gs, N, B, t, h1.dev S, h2.wet.dev, h2.ss, h3, h4, h6.ki, h7, h10, h11, h12, h13⟩
theorem cg_crash (h : CG w wr d c s syn sv ss) (hc : c ≤ 9000) (pa : Option Addr) (pl pc : Nat) (bs : List Bool) (hpat : Pat w pa pl bs) (hpl : pl ≤ 9223372036854775807) (u : Int) : Calls Tryz.prog 26 #[at0 d, .slice pa pl pc, .int .i64 u] wr fun e w' => e = .returned (.tuple #[]) ∧ CR w w' d s syn sv ss := by
  obtain ⟨A, D, gs, N, B, t, h1, h2, h3, h4, h5, h6, h7, h8, h9, h10, h11⟩ := h
  refine (od_crash h1 h2 hc pa pl pc bs hpat hpl u).mono ?_
  rintro e w' ⟨rfl, ho, hk⟩
  have hcu : D.count u ≤ D.ap.length := by
    unfold Ds.count
    rw [h2.units_is]
    split
    · omega
    · split <;> omega
  have hl : (gs.take N).length = N := by rw [List.length_take]; omega
  obtain ⟨N2, t2, n1, n2, n3⟩ := h6.rdy h2 (by rw [hl]; exact h7) bs hcu
  rw [List.take_take, Nat.min_eq_left (by omega)] at n3
  have hss : (D.crash bs (D.count u) 0).ss = D.ks ++ D.ap.take (D.count u) := by rw [Ds.crash_is]
  have hsb : (D.crash bs (D.count u) 0).sb = D.kb := by rw [Ds.crash_is]
  refine ⟨rfl, A, _, gs, N2, B, t2, ho, h2.crash bs hcu, ?_, by rw [hsb]; exact Nat.le_trans h6.kbs h4, by omega, n2, n3, h8, Own.frame h9 (fun k hk' => hk k (h10 k hk') (Own.lt h9 hk')), h10, h11⟩
  rw [hss, List.length_append, List.length_take]
  have := h2.kl
  omega
theorem cr_arm (h : CR w wr d s syn sv ss) (k : Int) (hk : k ≤ 9223372036854775807) : Calls Tryz.prog 24 #[at0 d, .int .i64 k] wr fun e w' => e = .returned (.tuple #[]) ∧ CR w w' d s syn sv ss := by
  obtain ⟨A, D, gs, N, B, t, h1, h2, h3, h4, h5, h6, h7, h8, h9, h10, h11⟩ := h
  refine (od_arm h1 h2 k).mono ?_
  rintro e w' ⟨rfl, ho, hkp⟩
  obtain ⟨a1, a2, a3, a4⟩ := arm_same D k
  exact ⟨rfl, A, _, gs, N, B, t, ho, h2.arm k hk, by rw [a2]; exact h3, by rw [a3]; exact h4, h5, h6, h7.arm k, h8, Own.frame h9 (fun i hi => hkp i (h10 i hi) (Own.lt h9 hi)), h10, h11⟩
theorem cr_open (S : PoolS M) (h : CR w wr d s syn sv ss) {f : Nat} (h1 : 1 ≤ f) (h2 : f ≤ 64) (hs : s + 65536 ≤ 900000000000) : Calls Tryz.prog 8 #[at0 d, .int .i64 ((f : Nat) : Int)] wr fun e w' => ∃ m p b, e = .returned (.tuple #[at0 m, .int .i64 0]) ∧ CO M w w' m p d (s + 65536) syn sv ss b := by
  obtain ⟨A, D, gs, N, B, t, o1, o2, o3, o4, o5, o6, o7, o8, o9, o10, o11⟩ := h
  refine (od_open S o1 o2 o3 (by omega) h1 h2 (by omega)).mono ?_
  rintro e w' ⟨m, p, rfl, ho, hk⟩
  have hby := od_bytes o1
  have hl : (gs.take N).length = N := by rw [List.length_take]; omega
  obtain ⟨q1, q2, q3⟩ := opened_ss (f := f) o2 hby o3 (by omega) h1 h2 (by omega)
  obtain ⟨r1, B', t', r2, r3, r4⟩ := o7.opened (f := f) o2 hby o3 (by omega) h1 h2 (by omega) (fun k _ => zp_len k) (fun g hg => o8 g (List.mem_of_mem_take hg))
  rw [hl] at r1 r2
  refine ⟨m, p, _, rfl, A, _, gs, N, B', t', ho, q3.more (by omega) (by omega), by rw [q2]; omega, o5, o6, r3, r2, rfl, fun k hk => ?_, o8, Own.frame o9 (fun i hi => hk i (o10 i hi) (Own.lt o9 hi)), o10, o11⟩
  rw [r1 k hk, Fj_take zp gs (Nat.le_refl _)]
theorem co_gone (S : PoolS M) (h : CO M w wr m p d s syn sv ss b) : Calls Tryz.prog 36 #[at0 d] wr fun e w' => e = .returned (.bool b) ∧ w' = wr := by
  obtain ⟨A, P, gs, N, B, t, h1, h2, h3, h4, h5, h6, h7, h8, _⟩ := h
  have := om_gone S h1 h2
  rw [h8] at this
  exact this
theorem co_text (S : PoolS M) (h : CO M w wr m p d s syn sv ss b) : ∃ k, syn ≤ k ∧ k < ss.length ∧ Calls Tryz.prog 35 #[at0 m] wr fun e w' => e = .returned (.string (ss.getD k ByteArray.empty)) ∧ CG w w' d 544 s syn sv ss := by
  obtain ⟨A, P, gs, N, B, t, h1, h2, h3, h4, h5, h6, h7, h8, h9, h10, h11, h12, h13⟩ := h
  refine ⟨N, h5, by rw [h13, stl_len]; omega, ?_⟩
  refine (om_text S h1 h2 (by omega)).mono ?_
  rintro e w' ⟨rfl, ho, hk⟩
  obtain ⟨f1, f2, f3, f4⟩ := readsP_ok h2 4 (by omega) (by omega)
  have hl : (gs.take N).length = N := by rw [List.length_take]; omega
  refine ⟨?_, A, (readsP P 4).D, gs, N, B, t, ho.dev S, f1.wet.dev, f1.ss, by rw [f3]; exact h3, h4, (readsP_inv h6 h2 (by rw [hl]; exact h7) 4 (by omega) (by omega)).ki, h7, h10, Own.frame h11 (fun i hi => hk i (h12 i hi) (Own.lt h11 hi)), h12, h13⟩
  rw [h13, stl_get gs (by omega)]
  unfold st1
  rw [cat_at (fun i hi => h9 i hi)]
end
theorem fdAg4 (b o : Nat) (w : World) : (Instr.fieldAt 50 (.pointer (some ⟨b, o, none⟩)) 4).run Tryz.prog w = .ok (.pointer (some ⟨b, o + 4, none⟩)) w := by simp [go_sem, Instr.fieldAt]
theorem fdAg3 (b o : Nat) (w : World) : (Instr.fieldAt 50 (.pointer (some ⟨b, o, none⟩)) 3).run Tryz.prog w = .ok (.pointer (some ⟨b, o + 3, none⟩)) w := by simp [go_sem, Instr.fieldAt]
theorem ixAg (b o len cap k : Nat) (hk : k < len) (w : World) : (Instr.indexAt 22 (.slice (some ⟨b, o, none⟩) len cap) (.int .i64 ((k : Nat) : Int))).run Tryz.prog w = .ok (.pointer (some ⟨b, o + k * 5, none⟩)) w := by
  simp [go_sem, Instr.indexAt]
  intro h
  omega
theorem ldPat (b o : Nat) (a : Option Addr) (l c : Nat) (w : World) (h : w.cell? ⟨b, o, none⟩ = some (.slice a l c)) : (Instr.loadAt 48 (.pointer (some ⟨b, o, none⟩))).run Tryz.prog w = .ok (.slice a l c) w := by simp [go_sem, h]

theorem entCrashM : ∀ args w, (callFunc 26 args).run Tryz.prog w = .ok (.enter 26 args) w := Pl.enters Tryz.func26 (by kernel_rfl) (by kernel_rfl)

set_option maxHeartbeats 2000000 in
set_option maxRecDepth 100000 in
theorem whole41 (w : World) (b off len cap k dv : Nat) (qa : Option Addr) (ql qc : Nat) (nn : Int) (hk : k < len) (R : World → Prop) (h0 : (fun (w' : World) => w'.cell? ⟨b, off + k * 5 + 4, none⟩ = some (.slice qa ql qc) ∧ w'.cell? ⟨b, off + k * 5 + 3, none⟩ = some (.int .i64 nn)) w) (hc : Calls Tryz.prog 26 #[.pointer (some ⟨dv, 0, none⟩), .slice qa ql qc, .int .i64 nn] w.drew fun e w2 => e = .returned (.tuple #[]) ∧ R w2) (hRS : ∀ w2, R w2 → (fun (w' : World) => w'.cell? ⟨b, off + k * 5 + 4, none⟩ = some (.slice qa ql qc) ∧ w'.cell? ⟨b, off + k * 5 + 3, none⟩ = some (.int .i64 nn)) w2)
    {Q : Exit → Act → World → Prop} {A : Act} (hsz : A.tmps.size = 264) (hdf : A.defers = []) (s2 : A.tmps.getD 2 undef = .slice (some ⟨b, off, none⟩) len cap) (s7 : A.tmps.getD 7 undef = .pointer (some ⟨dv, 0, none⟩)) (s20 : A.tmps.getD 20 undef = .int .i64 ((k : Nat) : Int))
    (hend : ∀ (u : Nat → Value) w', R w' → Q .normal (((((((((((((A).put (some 178) (u 178)).put (some 179) (u 179)).put (some 180) (u 180)).put (some 181) (u 181)).put (some 182) (u 182)).put (some 183) (u 183)).put (some 184) (u 184)).put (some 185) (u 185)).put (some 186) (u 186)).put (some 187) (u 187)).put (some 188) (u 188)).put (some 189) (u 189)) w') :
    (Code.region 41 (Pl.find 41 ((Tryz.f4.body).getD .skip)) true).wp Tryz.prog Q A w := by
  have hA := Pl.At.same (v := .int .i64 ((k : Nat) : Int)) (d := 20) (Pl.At.same (v := .pointer (some ⟨dv, 0, none⟩)) (d := 7) (Pl.At.same (v := .slice (some ⟨b, off, none⟩) len cap) (d := 2) (Pl.At.here hsz hdf) s2) s7) s20
  refine Pl.H.start (S := fun w' => w'.cell? ⟨b, off + k * 5 + 4, none⟩ = some (.slice qa ql qc) ∧ w'.cell? ⟨b, off + k * 5 + 3, none⟩ = some (.int .i64 nn)) (by kernel_rfl) hA (show (fun (w' : World) => w'.cell? ⟨b, off + k * 5 + 4, none⟩ = some (.slice qa ql qc) ∧ w'.cell? ⟨b, off + k * 5 + 3, none⟩ = some (.int .i64 nn)) w.drew from h0) ?_
  rw [show (Pl.find 41 ((Tryz.f4.body).getD .skip)).size = 12 by kernel_rfl]
  refine Pl.H.take 0 178 (.pointer (some ⟨dv, 0, none⟩)) (by kernel_rfl) (by kernel_rfl) (by kernel_rfl) (Pl.free 0 (by kernel_rfl)) (Pl.move 0 (.tmp 7) (by kernel_rfl) (by decide)) (show (fun (w' : World) => w'.cell? ⟨b, off + k * 5 + 4, none⟩ = some (.slice qa ql qc) ∧ w'.cell? ⟨b, off + k * 5 + 3, none⟩ = some (.int .i64 nn)) w.drew from h0) ?_
  refine Pl.H.take 1 179 (.slice (some ⟨b, off, none⟩) len cap) (by kernel_rfl) (by kernel_rfl) (by kernel_rfl) (Pl.free 1 (by kernel_rfl)) (Pl.move 1 (.tmp 2) (by kernel_rfl) (by decide)) (show (fun (w' : World) => w'.cell? ⟨b, off + k * 5 + 4, none⟩ = some (.slice qa ql qc) ∧ w'.cell? ⟨b, off + k * 5 + 3, none⟩ = some (.int .i64 nn)) w.drew from h0) ?_
  refine Pl.H.take 2 180 (.int .i64 ((k : Nat) : Int)) (by kernel_rfl) (by kernel_rfl) (by kernel_rfl) (Pl.free 2 (by kernel_rfl)) (Pl.move 2 (.tmp 20) (by kernel_rfl) (by decide)) (show (fun (w' : World) => w'.cell? ⟨b, off + k * 5 + 4, none⟩ = some (.slice qa ql qc) ∧ w'.cell? ⟨b, off + k * 5 + 3, none⟩ = some (.int .i64 nn)) w.drew from h0) ?_
  refine Pl.H.take 3 181 (.pointer (some ⟨b, off + k * 5, none⟩)) (by kernel_rfl) (by kernel_rfl) (by kernel_rfl) (Pl.free 3 (by kernel_rfl)) (Pl.index 3 22 (.tmp 179) (.tmp 180) _ (by kernel_rfl) (by decide) (by decide) (ixAg b off len cap k hk)) (show (fun (w' : World) => w'.cell? ⟨b, off + k * 5 + 4, none⟩ = some (.slice qa ql qc) ∧ w'.cell? ⟨b, off + k * 5 + 3, none⟩ = some (.int .i64 nn)) w.drew from h0) ?_
  refine Pl.H.take 4 182 (.pointer (some ⟨b, off + k * 5 + 4, none⟩)) (by kernel_rfl) (by kernel_rfl) (by kernel_rfl) (Pl.free 4 (by kernel_rfl)) (Pl.field 4 50 (.tmp 181) 4 _ (by kernel_rfl) (by decide) (fdAg4 b (off + k * 5))) (show (fun (w' : World) => w'.cell? ⟨b, off + k * 5 + 4, none⟩ = some (.slice qa ql qc) ∧ w'.cell? ⟨b, off + k * 5 + 3, none⟩ = some (.int .i64 nn)) w.drew from h0) ?_
  refine Pl.H.take 5 183 (.slice qa ql qc) (by kernel_rfl) (by kernel_rfl) (by kernel_rfl) (Pl.free 5 (by kernel_rfl)) (Pl.load 5 48 (.tmp 182) _ (by kernel_rfl) (by decide) (fun w' hS => ldPat b (off + k * 5 + 4) _ _ _ w' hS.1)) (show (fun (w' : World) => w'.cell? ⟨b, off + k * 5 + 4, none⟩ = some (.slice qa ql qc) ∧ w'.cell? ⟨b, off + k * 5 + 3, none⟩ = some (.int .i64 nn)) w.drew from h0) ?_
  refine Pl.H.take 6 184 (.slice (some ⟨b, off, none⟩) len cap) (by kernel_rfl) (by kernel_rfl) (by kernel_rfl) (Pl.free 6 (by kernel_rfl)) (Pl.move 6 (.tmp 2) (by kernel_rfl) (by decide)) (show (fun (w' : World) => w'.cell? ⟨b, off + k * 5 + 4, none⟩ = some (.slice qa ql qc) ∧ w'.cell? ⟨b, off + k * 5 + 3, none⟩ = some (.int .i64 nn)) w.drew from h0) ?_
  refine Pl.H.take 7 185 (.int .i64 ((k : Nat) : Int)) (by kernel_rfl) (by kernel_rfl) (by kernel_rfl) (Pl.free 7 (by kernel_rfl)) (Pl.move 7 (.tmp 20) (by kernel_rfl) (by decide)) (show (fun (w' : World) => w'.cell? ⟨b, off + k * 5 + 4, none⟩ = some (.slice qa ql qc) ∧ w'.cell? ⟨b, off + k * 5 + 3, none⟩ = some (.int .i64 nn)) w.drew from h0) ?_
  refine Pl.H.take 8 186 (.pointer (some ⟨b, off + k * 5, none⟩)) (by kernel_rfl) (by kernel_rfl) (by kernel_rfl) (Pl.free 8 (by kernel_rfl)) (Pl.index 8 22 (.tmp 184) (.tmp 185) _ (by kernel_rfl) (by decide) (by decide) (ixAg b off len cap k hk)) (show (fun (w' : World) => w'.cell? ⟨b, off + k * 5 + 4, none⟩ = some (.slice qa ql qc) ∧ w'.cell? ⟨b, off + k * 5 + 3, none⟩ = some (.int .i64 nn)) w.drew from h0) ?_
  refine Pl.H.take 9 187 (.pointer (some ⟨b, off + k * 5 + 3, none⟩)) (by kernel_rfl) (by kernel_rfl) (by kernel_rfl) (Pl.free 9 (by kernel_rfl)) (Pl.field 9 50 (.tmp 186) 3 _ (by kernel_rfl) (by decide) (fdAg3 b (off + k * 5))) (show (fun (w' : World) => w'.cell? ⟨b, off + k * 5 + 4, none⟩ = some (.slice qa ql qc) ∧ w'.cell? ⟨b, off + k * 5 + 3, none⟩ = some (.int .i64 nn)) w.drew from h0) ?_
  refine Pl.H.take 10 188 (.int .i64 nn) (by kernel_rfl) (by kernel_rfl) (by kernel_rfl) (Pl.free 10 (by kernel_rfl)) (Pl.load 10 3 (.tmp 187) _ (by kernel_rfl) (by decide) (fun w' hS => ldInt b (off + k * 5 + 3) _ w' hS.2)) (show (fun (w' : World) => w'.cell? ⟨b, off + k * 5 + 4, none⟩ = some (.slice qa ql qc) ∧ w'.cell? ⟨b, off + k * 5 + 3, none⟩ = some (.int .i64 nn)) w.drew from h0) ?_
  refine Pl.H.call 11 189 26 [(.tmp 178), (.tmp 183), (.tmp 188)] #[23, 48, 3] (by kernel_rfl) (by kernel_rfl) (by kernel_rfl) (Pl.free 11 (by kernel_rfl)) (by kernel_rfl) (by decide) entCrashM (Calls.mono (hc) ?_)
  rintro e w2 ⟨rfl, hr2⟩
  refine ⟨.tuple #[], rfl, (hRS w2 hr2), ?_⟩
  refine Pl.H.done (by kernel_rfl) (fun A' hA' => ?_)
  rw [Pl.At.ext hA' ((((((((((((hA.put 178 _).put 179 _).put 180 _).put 181 _).put 182 _).put 183 _).put 184 _).put 185 _).put 186 _).put 187 _).put 188 _).put 189 _)]
  exact hend (fun d => if d = 178 then .pointer (some ⟨dv, 0, none⟩) else if d = 179 then .slice (some ⟨b, off, none⟩) len cap else if d = 180 then .int .i64 ((k : Nat) : Int) else if d = 181 then .pointer (some ⟨b, off + k * 5, none⟩) else if d = 182 then .pointer (some ⟨b, off + k * 5 + 4, none⟩) else if d = 183 then .slice qa ql qc else if d = 184 then .slice (some ⟨b, off, none⟩) len cap else if d = 185 then .int .i64 ((k : Nat) : Int) else if d = 186 then .pointer (some ⟨b, off + k * 5, none⟩) else if d = 187 then .pointer (some ⟨b, off + k * 5 + 3, none⟩) else if d = 188 then .int .i64 nn else if d = 189 then .tuple #[] else undef) _ hr2

end Go.Proofs.YtpggkfdnpdhkfaaGreat
