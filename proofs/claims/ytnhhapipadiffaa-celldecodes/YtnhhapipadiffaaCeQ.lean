/-
  Layer 10, the landed cell: Encode.
  Layer 10, the landed cell: take.
  Layer 10, the landed cell: Decode's drawn statements; what its rounds keep.
-/
import Derived.Test.YtnhhapipadiffaaCeN
namespace Go.Proofs.Ytnhhapipadiffaa
open Go.RowKit Go.Shelf

attribute [local go_sem] Oper.semAt_some

/-- How far a page's text has come: these cells are laid. -/
structure TextI (l : List Un) (pre : List Six) (t : List Nat) : Prop where
  len : t.length = 508
  bytes : Bytes t
  mark : t.getD 0 0 = 85
  tail : ∀ x ∈ t.drop 433, x = 0
  laid : ∀ x : Six, x ∈ pre → (l.getD x.1 zeroU).inC = true ∧ pieceC t x.1 = cellB (l.getD x.1 zeroU)
  free : ∀ x : Six, x ∉ pre → pieceC t x.1 = List.replicate 72 0

def text0 : List Nat := 85 :: List.replicate 507 0

theorem TextI.start (l : List Un) : TextI l [] text0 := by
  refine ⟨by unfold text0; rw [List.length_cons, List.length_replicate], fun x hx => ?_, rfl, fun x hx => ?_, (fun x hx => by cases hx), fun x _ => ?_⟩
  · simp only [text0, List.mem_cons, List.mem_replicate] at hx
    rcases hx with rfl | ⟨_, rfl⟩ <;> decide
  · have e : text0.drop 433 = List.replicate 75 0 := rfl
    rw [e] at hx
    exact (List.mem_replicate.1 hx).2
  · have hx := x.2
    unfold pieceC text0
    rw [Nat.add_comm, List.drop_succ_cons, List.drop_replicate, List.take_replicate]
    congr 1
    omega

theorem piece_put {t : List Nat} {o : Nat} {u : Un} (ho : o + 72 ≤ t.length) (hi : u.inC = true) {a n : Nat} (h : a + n ≤ o ∨ o + 72 ≤ a) : ((putC t o u).drop a).take n = (t.drop a).take n := by
  have hc := cellB_len hi
  apply List.ext_getElem?
  intro j
  unfold putC
  simp only [List.getElem?_take, List.getElem?_drop, List.getElem?_append, List.length_take, hc]
  by_cases hj : j < n
  · rw [if_pos hj, if_pos hj]
    rcases h with h | h
    · rw [if_pos (by omega), if_pos (by omega)]
    · rw [if_neg (by omega), if_neg (by omega)]
      congr 1
      omega
  · rw [if_neg hj, if_neg hj]

theorem piece_self {t : List Nat} {o : Nat} {u : Un} (ho : o + 72 ≤ t.length) (hi : u.inC = true) : ((putC t o u).drop o).take 72 = cellB u := by
  have hc := cellB_len hi
  unfold putC
  have hl : (t.take o).length = o := by rw [List.length_take]; omega
  rw [List.drop_append_of_le_length (by omega), List.drop_of_length_le (by omega), List.nil_append, List.take_append_of_le_length (by omega), List.take_of_length_le (by omega)]

theorem TextI.room {l : List Un} {pre : List Six} {t : List Nat} (h : TextI l pre t) (x : Six) : RoomOk t (1 + 72 * x.1) (l.getD x.1 zeroU) := by
  by_cases hx : x ∈ pre
  · exact .inr (h.laid x hx).2
  · exact .inl (h.free x hx)

theorem TextI.put {l : List Un} {pre : List Six} {t : List Nat} (h : TextI l pre t) (x : Six) (hi : (l.getD x.1 zeroU).inC = true) : TextI l (pre ++ [x]) (putC t (1 + 72 * x.1) (l.getD x.1 zeroU)) := by
  have hx := x.2
  have hl := h.len
  have ho : 1 + 72 * x.1 + 72 ≤ t.length := by omega
  have hp : ∀ y : Six, y ≠ x → pieceC (putC t (1 + 72 * x.1) (l.getD x.1 zeroU)) y.1 = pieceC t y.1 := by
    intro y hy
    have hne : y.1 ≠ x.1 := fun e => hy (Subtype.ext e)
    exact piece_put ho hi (by omega)
  refine ⟨by rw [putC_len ho hi]; exact hl, putC_bytes h.bytes hi, ?_, fun z hz => ?_, fun y hy => ?_, fun y hy => ?_⟩
  · rw [← h.mark]
    have e := congrArg (fun m : List Nat => m.getD 0 0) (piece_put (t := t) (o := 1 + 72 * x.1) (u := l.getD x.1 zeroU) ho hi (a := 0) (n := 1) (by omega))
    simpa [List.getD] using e
  · refine h.tail z ?_
    have e : (putC t (1 + 72 * x.1) (l.getD x.1 zeroU)).drop 433 = t.drop 433 := by
      have := piece_put (t := t) (o := 1 + 72 * x.1) (u := l.getD x.1 zeroU) ho hi (a := 433) (n := 75) (by omega)
      rw [List.take_of_length_le (by rw [List.length_drop, putC_len ho hi]; omega), List.take_of_length_le (by rw [List.length_drop]; omega)] at this
      exact this
    rw [← e]
    exact hz
  · by_cases e : y = x
    · rw [e]
      exact ⟨hi, piece_self ho hi⟩
    · rw [hp y e]
      refine h.laid y ?_
      rcases List.mem_append.1 hy with k | k
      · exact k
      · exact absurd (List.mem_singleton.1 k) e
  · have hne : y ≠ x := fun e => hy (by rw [e]; simp)
    rw [hp y hne]
    exact h.free y (fun k => hy (List.mem_append_left _ k))

theorem uptoC_mem (x : Six) : x ∈ uptoC 6 (Nat.le_refl 6) := by
  have : x.1 ∈ (uptoC 6 (Nat.le_refl 6)).map (·.1) := by rw [uptoC_vals]; exact List.mem_range.2 x.2
  obtain ⟨y, hy, e⟩ := List.mem_map.1 this
  rw [← Subtype.ext e]
  exact hy

theorem TextI.end {l : List Un} {t : List Nat} (h : TextI l (uptoC 6 (Nat.le_refl 6)) t) (h6 : l.length = 6) : MayC l = true ∧ t = textC l := by
  have hl : ∀ i (hi : i < 6), (l.getD i zeroU).inC = true ∧ pieceC t i = cellB (l.getD i zeroU) := fun i hi => h.laid ⟨i, hi⟩ (uptoC_mem _)
  have e6 := six_form h6
  have hm : MayC l = true := by
    simp only [MayC, Bool.and_eq_true, List.all_eq_true, beq_iff_eq]
    refine ⟨fun u hu => ?_, h6⟩
    obtain ⟨i, hi, rfl⟩ := List.getElem_of_mem hu
    have := (hl i (by omega)).1
    simpa [List.getD, hi] using this
  refine ⟨hm, ?_⟩
  have ep := pieces h.len
  have ez := all_zero h.tail
  rw [List.length_drop, h.len] at ez
  rw [h.mark, ez, (hl 0 (by omega)).2, (hl 1 (by omega)).2, (hl 2 (by omega)).2, (hl 3 (by omega)).2, (hl 4 (by omega)).2, (hl 5 (by omega)).2] at ep
  rw [ep]
  unfold textC
  have ef : l.flatMap cellB = cellB (l.getD 0 zeroU) ++ cellB (l.getD 1 zeroU) ++ cellB (l.getD 2 zeroU) ++ cellB (l.getD 3 zeroU) ++ cellB (l.getD 4 zeroU) ++ cellB (l.getD 5 zeroU) := by
    conv => lhs; rw [e6]
    simp only [List.flatMap_cons, List.flatMap_nil, List.append_nil, List.append_assoc]
  rw [ef]

/-- A box with one thing in it. -/
def Box1 (w : World) (b : Nat) (t : TypeId) (v : Value) : Prop := w.heap[b]? = some (Obj.cells #[v] t (0, 0))
theorem Box1.lt {w : World} {b : Nat} {t : TypeId} {v : Value} (h : Box1 w b t v) : b < w.heap.size := (Array.getElem?_eq_some_iff.1 h).1
theorem Box1.new (w : World) (t : TypeId) (v : Value) : Box1 (w.alloc (.cells #[v] t)) w.heap.size t v := heap_alloc_new w _
theorem Box1.cell {w : World} {b : Nat} {t : TypeId} {v : Value} (h : Box1 w b t v) : w.cell? ⟨b, 0, none⟩ = some v := by rw [cell_of_row _ _ _ _ _ _ h]; rfl
theorem Box1.fz {w : World} {b : Nat} {t : TypeId} {v : Value} (h : Box1 w b t v) : w.frozen? ⟨b, 0, none⟩ = false := frozen_of_row w b _ _ _ h
theorem Box1.keep {w w' : World} {b : Nat} {t : TypeId} {v : Value} (h : Box1 w b t v) (hb : Below w.heap.size w w') : Box1 w' b t v := (hb.block b h.lt).trans h
theorem Box1.other {w w' : World} {F : Nat → Prop} {b : Nat} {t : TypeId} {v : Value} (h : Box1 w b t v) (hf : Frm F w w') (hn : ¬ F b) : Box1 w' b t v := (hf.block b h.lt hn).trans h

theorem Box1.bytes {w : World} {b : Nat} {v0 : Value} (h : Box1 w b 32 v0) (a : Option Addr) (n c : Nat) : ∃ W, (Instr.storeAt 32 (.pointer (some ⟨b, 0, none⟩)) (.slice a n c)).run Try.prog w = .ok () W ∧ Box1 W b 32 (.slice a n c) ∧ Frm (fun k => k = b) w W ∧ W.heap.size = w.heap.size := by
  have c0 := h.cell
  have f0 := h.fz
  refine ⟨w.setCell ⟨b, 0, none⟩ (.slice a n c), by simp [go_sem, Instr.storeAt, stored, c0, f0], ?_, Frm.setCell (F := fun k => k = b) (Frm.refl _ w) (p := ⟨b, 0, none⟩) rfl _, setCell_size _ _ _⟩
  unfold Box1
  rw [heap_setCell_same w b 0 _ 32 (.slice a n c) h]
  rfl
theorem Box1.errno {w : World} {b : Nat} {v0 : Value} (h : Box1 w b 33 v0) (n : Int) : ∃ W, (Instr.storeAt 33 (.pointer (some ⟨b, 0, none⟩)) (.int .i64 n)).run Try.prog w = .ok () W ∧ Box1 W b 33 (.int .i64 n) ∧ Frm (fun k => k = b) w W ∧ W.heap.size = w.heap.size := by
  have c0 := h.cell
  have f0 := h.fz
  refine ⟨w.setCell ⟨b, 0, none⟩ (.int .i64 n), by simp [go_sem, Instr.storeAt, stored, c0, f0], ?_, Frm.setCell (F := fun k => k = b) (Frm.refl _ w) (p := ⟨b, 0, none⟩) rfl _, setCell_size _ _ _⟩
  unfold Box1
  rw [heap_setCell_same w b 0 _ 33 (.int .i64 n) h]
  rfl
theorem Box1.undos {w : World} {b : Nat} {v0 : Value} (h : Box1 w b 22 v0) (a : Option Addr) (n c : Nat) : ∃ W, (Instr.storeAt 22 (.pointer (some ⟨b, 0, none⟩)) (.slice a n c)).run Try.prog w = .ok () W ∧ Box1 W b 22 (.slice a n c) ∧ Frm (fun k => k = b) w W ∧ W.heap.size = w.heap.size := by
  have c0 := h.cell
  have f0 := h.fz
  refine ⟨w.setCell ⟨b, 0, none⟩ (.slice a n c), by simp [go_sem, Instr.storeAt, stored, c0, f0], ?_, Frm.setCell (F := fun k => k = b) (Frm.refl _ w) (p := ⟨b, 0, none⟩) rfl _, setCell_size _ _ _⟩
  unfold Box1
  rw [heap_setCell_same w b 0 _ 22 (.slice a n c) h]
  rfl

/-- What is one's own stays where its blocks do. -/
theorem Owns.frame {w W : World} {b b' : Nat} {v : Value} {xs : List Nat} (h : Owns w b v xs) (hb : b' ≤ b) (hk : ∀ k, b ≤ k → k < w.heap.size → W.heap[k]? = w.heap[k]?) : Owns W b' v xs := by
  obtain ⟨h1, h2⟩ := h
  refine ⟨h1, ?_⟩
  rcases h2 with h0 | ⟨g, cap, cur, hv, hbg, hg, r⟩
  · exact .inl h0
  · exact .inr ⟨g, cap, cur, hv, Nat.le_trans hb hbg, (hk g hbg (Array.getElem?_eq_some_iff.1 hg).1).trans hg, r⟩

/-- The block for deferred calls is let go: what lies elsewhere stays. -/
theorem put_other (W : World) (D : Nat) (o : Obj) (k : Nat) (h : k ≠ D) : (W.putObj D o).heap[k]? = W.heap[k]? := World.putObj_heap_other h

/-- Between two rounds of Encode. -/
structure EnI (w : World) (v : Value) (l : List Un) (pre : List Six) (W : World) : Prop where
  below : Below w.heap.size w W
  b1 : Box1 W w.heap.size 22 v
  b2 : Box1 W (w.heap.size + 1) 32 (.slice none 0 0)
  b3 : Box1 W (w.heap.size + 2) 33 (.int .i64 0)
  bx : BoxS W (w.heap.size + 4) (.slice (some ⟨w.heap.size + 3, 0, none⟩) 508 508)
  txt : ∃ t, Blk W (w.heap.size + 3) t ∧ TextI l pre t

theorem EnI.own {w : World} {v : Value} {l : List Un} {B : Nat} (hB : w.heap.size ≤ B) : OwnFrom B (EnI w v l) := by
  intro pre W W' row h hg hr
  have hr' : ∀ r, row = some r → ∃ o : Obj, W.heap[r]? = some o ∧ o.isCells = false := fun r e => (hr r e).2
  obtain ⟨t, hb, ht⟩ := h.txt
  exact ⟨Below.grownB h.below hg (fun r e => Nat.le_trans hB (hr r e).1) h.below.size, (grown_cells hg hr' h.b1).trans h.b1, (grown_cells hg hr' h.b2).trans h.b2, (grown_cells hg hr' h.b3).trans h.b3, (grown_cells hg hr' h.bx).trans h.bx, t, (grown_cells hg hr' hb).trans hb, ht⟩

/-- A round of Encode has told an error. -/
structure EnX (w : World) (l : List Un) (c : Code) (pre : List Six) (W : World) : Prop where
  ret : c = .ret
  below : Below w.heap.size w W
  b2 : Box1 W (w.heap.size + 1) 32 (.slice none 0 0)
  b3 : Box1 W (w.heap.size + 2) 33 (.int .i64 1)
  no : ∃ x : Six, (l.getD x.1 zeroU).inC = false

theorem EnX.own {w : World} {l : List Un} {B : Nat} (hB : w.heap.size ≤ B) (c : Code) : OwnFrom B (EnX w l c) := by
  intro pre W W' row h hg hr
  have hr' : ∀ r, row = some r → ∃ o : Obj, W.heap[r]? = some o ∧ o.isCells = false := fun r e => (hr r e).2
  exact ⟨h.ret, Below.grownB h.below hg (fun r e => Nat.le_trans hB (hr r e).1) h.below.size, (grown_cells hg hr' h.b2).trans h.b2, (grown_cells hg hr' h.b3).trans h.b3, h.no⟩

set_option maxHeartbeats 4000000 in
set_option maxRecDepth 100000 in
theorem encC_six (a : Option Addr) (cap : Nat) (l : List Ux) (w : World) (h : Us w a 6 l) :
    Calls Try.prog 8 #[.slice a 6 cap] w fun e w' => ∃ v, e = .returned (.tuple #[v, .int .i64 (chk (MayC (uns l)))]) ∧ Below w.heap.size w w' ∧ (MayC (uns l) = true → Owns w' w.heap.size v (pageC (uns l))) ∧ (MayC (uns l) = false → v = .slice none 0 0) := by
  have HU := hide h
  obtain ⟨b0, o0, rfl, _⟩ := h.at' 0 (by decide)
  obtain ⟨W3, hW3⟩ : ∃ W3, W3 = ((w.alloc (.cells #[.slice (some ⟨b0, o0, none⟩) 6 cap] 22)).alloc (.cells #[.slice none 0 0] 32)).alloc (.cells #[.int .i64 0] 33) := ⟨_, rfl⟩
  have s1 : (w.alloc (.cells #[.slice (some ⟨b0, o0, none⟩) 6 cap] 22)).heap.size = w.heap.size + 1 := by simp
  have s2 : ((w.alloc (.cells #[.slice (some ⟨b0, o0, none⟩) 6 cap] 22)).alloc (.cells #[.slice none 0 0] 32)).heap.size = w.heap.size + 2 := by simp
  have s3 : W3.heap.size = w.heap.size + 3 := by rw [hW3]; simp
  have hB3 : Below w.heap.size w W3 := by rw [hW3]; exact rBelow (rBelow (below_alloc _ _) (below_alloc _ _)) (below_alloc _ _)
  have b1 : Box1 W3 w.heap.size 22 (.slice (some ⟨b0, o0, none⟩) 6 cap) := by rw [hW3]; exact ((Box1.new w _ _).keep (below_alloc _ _)).keep (below_alloc _ _)
  have b2 : Box1 W3 (w.heap.size + 1) 32 (.slice none 0 0) := by
    have := (Box1.new (w.alloc (.cells #[.slice (some ⟨b0, o0, none⟩) 6 cap] 22)) 32 (.slice none 0 0)).keep (below_alloc _ (.cells #[.int .i64 0] 33))
    rw [s1, ← hW3] at this
    exact this
  have b3 : Box1 W3 (w.heap.size + 2) 33 (.int .i64 0) := by
    have := Box1.new ((w.alloc (.cells #[.slice (some ⟨b0, o0, none⟩) 6 cap] 22)).alloc (.cells #[.slice none 0 0] 32)) 33 (.int .i64 0)
    rw [s2, ← hW3] at this
    exact this
  have hmk := make_bytes 508 (by decide) W3
  have g4 : Blk (W3.alloc (.cells (vals (List.replicate 508 0)).toArray 5)) W3.heap.size (List.replicate 508 0) := heap_alloc_new W3 _
  have B4 := below_alloc W3 (.cells (vals (List.replicate 508 0)).toArray 5)
  have s4 : (W3.alloc (.cells (vals (List.replicate 508 0)).toArray 5)).heap.size = w.heap.size + 4 := by simp [s3]
  rw [s3] at hmk g4
  generalize W3.alloc (.cells (vals (List.replicate 508 0)).toArray 5) = W4 at *
  obtain ⟨W5, hst5, g5, f5, s5⟩ := g4.set 0 85 (by rw [List.length_replicate]; decide)
  have e5 : (List.replicate 508 0).set 0 85 = text0 := rfl
  rw [e5] at g5
  rw [s4] at s5
  have b1' := (b1.keep B4).other f5 (by omega)
  have b2' := (b2.keep B4).other f5 (by omega)
  have b3' := (b3.keep B4).other f5 (by omega)
  have hB5 : Below w.heap.size w W5 := (rBelow hB3 B4).trans (f5.below (by omega) (fun k hk => by omega))
  have B6 := below_alloc W5 (.cells #[.slice (some ⟨w.heap.size + 3, 0, none⟩) 508 508] 32)
  have bx6 : BoxS (W5.alloc (.cells #[.slice (some ⟨w.heap.size + 3, 0, none⟩) 508 508] 32)) W5.heap.size (.slice (some ⟨w.heap.size + 3, 0, none⟩) 508 508) := heap_alloc_new W5 _
  have s6 : (W5.alloc (.cells #[.slice (some ⟨w.heap.size + 3, 0, none⟩) 508 508] 32)).heap.size = w.heap.size + 5 := by simp [s5]
  rw [s5] at bx6
  have HI0 : Hid (EnI w (.slice (some ⟨b0, o0, none⟩) 6 cap) (uns l) [] (W5.alloc (.cells #[.slice (some ⟨w.heap.size + 3, 0, none⟩) 508 508] 32))) := ⟨rBelow hB5 B6, b1'.keep B6, b2'.keep B6, b3'.keep B6, bx6, text0, g5.keep B6, TextI.start _⟩
  have HMk : Hid ((Instr.makeSlice 32 (.int .i64 508) (.int .i64 508)).run Try.prog W3 = .ok (.slice (some ⟨w.heap.size + 3, 0, none⟩) 508 508) W4) := hmk
  have HSt : Hid ((Instr.storeAt 5 (.pointer (some ⟨w.heap.size + 3, 0, none⟩)) (.int .u8 85)).run Try.prog W4 = .ok () W5) := hst5
  have HR := hide (rooms_any (some ⟨w.heap.size + 3, 0, none⟩) 508 508 W5)
  rw [s5] at HR
  have HS6 := hide s6
  clear h hmk s1 s2 s3 s4 hB3 b1 b2 b3 g4 B4 hst5 g5 f5 e5 b1' b2' b3' hB5 B6 bx6 s6
  generalize W5.alloc (.cells #[.slice (some ⟨w.heap.size + 3, 0, none⟩) 508 508] 32) = W6 at *
  rw [hW3] at HMk
  clear hW3
  refine (callsIn_wide (n := 3)).1 (callsIn_of_wp_marks Try.func8 rfl trivial (wpIn_wide.2 ?_) rfl)
  simp only [Try.ntmps8, List.size_toArray, List.length_cons, List.length_nil, Nat.reduceAdd, Nat.reduceSub, Array.replicate_succ, Array.replicate_zero, List.push_toArray, List.append_toArray, List.nil_append, List.cons_append]
  go_wp2_with (first | refine wpList_make _ rfl 32 (.const (.int .i64 508)) (.const (.int .i64 508)) rfl (.int .i64 508) (.int .i64 508) (.slice (some ⟨w.heap.size + 3, 0, none⟩) 508 508) rfl rfl W4 HMk.out ?_ | refine wpList_store _ rfl rfl 5 (.tmp 13) (.const (.int .u8 85)) rfl (.pointer (some ⟨w.heap.size + 3, 0, none⟩)) (.int .u8 85) rfl rfl W5 HSt.out ?_)
  refine HR.out.mono ?_
  rintro e w6 ⟨rfl, rfl⟩
  go_wp2_with fail
  refine (wpIn_wide (n := 3)).1 ?_
  refine wpIn_rangeFunc_ownG (Kp := KeptBox (w.heap.size + 4)) rfl (by decide) (gf := 30) (lb := #[.pointer (some ⟨w.heap.size + 4, 0, none⟩)]) rfl trivial (enters_of Try.func30 (by kernel_rfl) rfl)
    (rooms_stops (3 - 1) (w.heap.size + 4) (w.heap.size + 3) 508 (Nat.le_refl _) w6 HI0.out.bx) keptBox_t (keptBox_b (by rw [HS6.out]; omega)) (Below.refl _ _) (fun _ => rfl)
    (EnI w (.slice (some ⟨b0, o0, none⟩) 6 cap) (uns l)) (EnX w (uns l)) (EnI.own (by rw [HS6.out]; omega)) (EnX.own (by rw [HS6.out]; omega)) HI0.out
    (fun x => { tmps := #[.slice (some ⟨b0, o0, none⟩) 6 cap, .pointer (some ⟨w.heap.size, 0, none⟩), .pointer (some ⟨w.heap.size + 1, 0, none⟩), .pointer (some ⟨w.heap.size + 1 + 1, 0, none⟩), .slice (some ⟨w.heap.size + 3, 0, none⟩) 508 508, .int .i64 ((x.1 : Nat) : Int), .slice (some ⟨w.heap.size + 3, 1 + 72 * x.1, none⟩) 72 (508 - (1 + 72 * x.1)), undef, .slice (some ⟨b0, o0, none⟩) 6 cap, .int .i64 6, .bool false, .slice (some ⟨w.heap.size + 3, 0, none⟩) 508 508, .slice (some ⟨w.heap.size + 3, 0, none⟩) 508 508, .pointer (some ⟨w.heap.size + 3, 0, none⟩), .slice (some ⟨w.heap.size + 3, 0, none⟩) 508 508, .func (.func 30) #[] #[.pointer (some ⟨w.heap.size + 4, 0, none⟩)], .int .i64 ((x.1 : Nat) : Int), .slice (some ⟨w.heap.size + 3, 1 + 72 * x.1, none⟩) 72 (508 - (1 + 72 * x.1)), undef, undef, undef, undef, undef, undef, undef, undef, undef, undef, undef], defers := [] }) ?assign ?body ?done ?stop
  case assign =>
    intro lp x W K hK
    unfold roomV
    gi_wp2
    exact hK
  case body =>
    intro lp pre x W hI _
    have hx6 := x.2
    obtain ⟨t, hg, ht⟩ := hI.txt
    have hr := HU.out.keep hI.below (Nat.le_refl _)
    obtain ⟨b, off, hbo, hat⟩ := hr.at' x.1 hx6
    simp only [Option.some.injEq, Addr.mk.injEq, and_true] at hbo
    obtain ⟨rfl, rfl⟩ := hbo
    have hmem := hr.mem hx6
    have hcol := hr.cols _ hmem
    have hfit := hr.fits _ hmem
    have hroom := ht.room x
    rw [uns_get] at hroom
    obtain ⟨y, hye⟩ : ∃ y, y = l.getD x.1 Ux.zero := ⟨_, rfl⟩
    rw [← hye] at hat hcol hfit hroom
    have hlay := layC_any (w.heap.size + 3) (1 + 72 * x.1) (508 - (1 + 72 * x.1)) t y W hg (by rw [ht.len]; omega) (by omega) hroom hcol hfit
    have HY : Hid ((uns l).getD x.1 zeroU = y.u) := by show _ = _; rw [uns_get, hye]
    have HLay := hide hlay
    have HLD := hide (load_unAt b0 (o0 + x.1 * 12) y W hat)
    have HI := hide hI
    have HT := hide ht
    have c1 := hI.b1.cell
    have i1 : ((x.1 : Nat) : Int) < 6 := by omega
    clear hr hmem hcol hfit hroom hlay hat hg ht hye hI
    refine wpIn_block (wpIn_seq (lit_round (by kernel_rfl) (fun _ _ h => h) ?_))
    go_wp2_with (refine wpList_load _ rfl 30 (.tmp 21) rfl (.pointer (some ⟨b0, o0 + x.1 * 12, none⟩)) y.val rfl HLD.out ?_)
    refine HLay.out.mono ?_
    rintro e w2 (⟨hin, rfl, hg2, hf2⟩ | ⟨hin, rfl, hb2⟩)
    · go_wp2_with fail
      have hlt := HI.out.bx
      have hin' := hin
      rw [← HY.out] at hin' hg2
      have HE : Hid (KeepsFrom w6.heap.size W w2 ∧ KeptBox (w.heap.size + 4) W w2 ∧ EnI w (.slice (some ⟨b0, o0, none⟩) 6 cap) (uns l) (pre ++ [x]) w2) := by
        obtain ⟨tt, hgt, _⟩ := HI.out.txt
        refine ⟨(hf2.keeps (fun k _ hk => by rw [hk]; exact ⟨_, _, _, hgt⟩)).from _, hf2.block _ (Array.getElem?_eq_some_iff.1 HI.out.bx).1 (by omega), HI.out.below.trans (hf2.below HI.out.below.size (fun k hk => by omega)), HI.out.b1.other hf2 (by omega), HI.out.b2.other hf2 (by omega), HI.out.b3.other hf2 (by omega), ?_, _, hg2, HT.out.put x hin'⟩
        exact (hf2.block _ (Array.getElem?_eq_some_iff.1 HI.out.bx).1 (by omega)).trans HI.out.bx
      clear hlt hin hin' hg2 hf2
      refine wpIn_seq (lit_round (by kernel_rfl) (fun _ _ h => h) ?_)
      go_wp2_with fail
      exact wpIn_cond_false rfl (wpIn_skip HE.out)
    · go_wp2_with fail
      have b2 := HI.out.b2.keep hb2
      have b3 := HI.out.b3.keep hb2
      obtain ⟨w3, hst3, b23, hf3, hs3⟩ := b2.bytes none 0 0
      have b33 := b3.other hf3 (by omega)
      obtain ⟨w4, hst4, b34, hf4, hs4⟩ := b33.errno 1
      have b24 := b23.other hf4 (by omega)
      have hF : Frm (fun k => k = w.heap.size + 1 ∨ k = w.heap.size + 2) W w4 := ((Frm.ofBelow hb2).trans (hf3.mono (G := fun k => k = w.heap.size + 1 ∨ k = w.heap.size + 2) (fun _ _ h => .inl h)) (fun _ _ h => h)).trans (hf4.mono (G := fun k => k = w.heap.size + 1 ∨ k = w.heap.size + 2) (fun _ _ h => .inr h)) (fun _ _ h => h)
      have HE : Hid (KeepsFrom w6.heap.size W w4 ∧ EnX w (uns l) .ret (pre ++ [x]) w4) := by
        refine ⟨(hF.keeps (fun k _ hk => ?_)).from _, rfl, HI.out.below.trans (hF.below HI.out.below.size (fun k hk => by omega)), b24, b34, x, by rw [HY.out]; exact hin⟩
        rcases hk with rfl | rfl
        · exact ⟨_, _, _, HI.out.b2⟩
        · exact ⟨_, _, _, HI.out.b3⟩
      have HST3 := hide hst3
      have HST4 : Hid ((Instr.storeAt 33 (.pointer (some ⟨w.heap.size + 1 + 1, 0, none⟩)) (.int .i64 1)).run Try.prog w3 = .ok () w4) := hst4
      clear hin hb2 b2 b3 hst3 b23 hf3 hs3 b33 hst4 b34 hf4 hs4 b24 hF
      refine wpIn_seq (lit_round (by kernel_rfl) (fun _ _ h => h) ?_)
      go_wp2_with fail
      refine wpIn_cond_true rfl (wpIn_seq (lit_round (by kernel_rfl) (fun _ _ h => h) ?_))
      go_wp2_with (first | refine wpList_store _ rfl rfl 32 (.tmp 2) (.const (.slice none 0 0)) rfl (.pointer (some ⟨w.heap.size + 1, 0, none⟩)) (.slice none 0 0) rfl rfl w3 HST3.out ?_ | refine wpList_store _ rfl rfl 33 (.tmp 3) (.tmp 26) rfl (.pointer (some ⟨w.heap.size + 1 + 1, 0, none⟩)) (.int .i64 1) rfl rfl w4 HST4.out ?_)
      exact wpIn_ret HE.out
  case done =>
    intro D ys W hD hys hI hK
    subst hys
    obtain ⟨t, hg, ht⟩ := hI.txt
    obtain ⟨hm, rfl⟩ := ht.end (by rw [uns_len]; exact HU.out.len)
    have hcm := hg.came (textC_bytes hm) 0 508 508 (by rw [textC_len hm]; decide) (Nat.le_refl _) (by decide)
    rw [List.drop_zero, List.take_of_length_le (by rw [textC_len hm]; decide)] at hcm
    have HSeal := hide (seal_any (some ⟨w.heap.size + 3, 0, none⟩) 508 508 (textC (uns l)) W hcm.bs hcm.nil (by decide))
    have HI := hide hI
    have HK := hide hK
    have HM := hide hm
    have HD : Hid (w.heap.size + 5 ≤ D) := by show _ ≤ _; rw [← HS6.out]; exact hD
    clear hg ht hcm hI hK hm hD
    go_wp2_with fail
    refine HSeal.out.mono ?_
    rintro e w1 ⟨v, rfl, hown, hb1⟩
    have hown' : Owns w1 W.heap.size v (pageC (uns l)) := hown
    obtain ⟨x, c, rfl, _⟩ := hown'.cameN (pageC_bytes HM.out) (pageC_len HM.out) (by decide)
    have hDlt : D < W.heap.size := (Array.getElem?_eq_some_iff.1 HK.out).1
    have hK1 : w1.heap[D]? = some (.deferred (some [])) := (hb1.block D hDlt).trans HK.out
    obtain ⟨w3, hst3, b23, hf3, hs3⟩ := (HI.out.b2.keep hb1).bytes x 512 c
    obtain ⟨w4, hst4, b34, hf4, hs4⟩ := ((HI.out.b3.keep hb1).other hf3 (by omega)).errno 0
    have b24 := b23.other hf4 (by omega)
    have hD5 := HD.out
    have hK4 : w4.heap[D]? = some (.deferred (some [])) := (hf4.block D (by rw [hs3]; exact (Array.getElem?_eq_some_iff.1 hK1).1) (by omega)).trans ((hf3.block D (Array.getElem?_eq_some_iff.1 hK1).1 (by omega)).trans hK1)
    have hB4 : Below w.heap.size w w4 := ((rBelow HI.out.below hb1).trans (hf3.below (rBelow HI.out.below hb1).size (fun k hk => by omega))).trans (hf4.below (by rw [hs3]; exact (rBelow HI.out.below hb1).size) (fun k hk => by omega))
    have ho4 : Owns (w4.putObj D (.deferred none)) w.heap.size (.slice x 512 c) (pageC (uns l)) := by
      refine hown'.frame HI.out.below.size (fun k hk hlt => ?_)
      have hsz := HI.out.below.size
      rw [put_other _ _ _ _ (by omega), hf4.block k (by rw [hs3]; exact hlt) (by omega), hf3.block k hlt (by omega)]
    have hc2 : (w4.putObj D (.deferred none)).cell? ⟨w.heap.size + 1, 0, none⟩ = some (.slice x 512 c) := by
      have : Box1 (w4.putObj D (.deferred none)) (w.heap.size + 1) 32 (.slice x 512 c) := (put_other _ _ _ _ (by omega)).trans b24
      exact this.cell
    have hc3 : (w4.putObj D (.deferred none)).cell? ⟨w.heap.size + 1 + 1, 0, none⟩ = some (.int .i64 0) := by
      have : Box1 (w4.putObj D (.deferred none)) (w.heap.size + 2) 33 (.int .i64 0) := (put_other _ _ _ _ (by omega)).trans b34
      exact this.cell
    have HB : Hid (Below w.heap.size w (w4.putObj D (.deferred none))) := hB4.trans (belowK_b (w := w) (Nat.le_refl _) w4 D _ _ (by omega) hK4 rfl rfl)
    have HST3 := hide hst3
    have HST4 : Hid ((Instr.storeAt 33 (.pointer (some ⟨w.heap.size + 1 + 1, 0, none⟩)) (.int .i64 0)).run Try.prog w3 = .ok () w4) := hst4
    have HK4 := hide hK4
    have HO4 := hide ho4
    have HC2 := hide hc2
    have HC3 := hide hc3
    clear hown hown' hb1 hDlt hK1 hst3 b23 hf3 hs3 hst4 b34 hf4 hs4 b24 hD5 hK4 hB4 ho4 hc2 hc3 HSeal
    go_wp2_with (first | refine wpList_store _ rfl rfl 32 (.tmp 2) (.tmp 28) rfl (.pointer (some ⟨w.heap.size + 1, 0, none⟩)) (.slice x 512 c) rfl rfl w3 HST3.out ?_ | refine wpList_store _ rfl rfl 33 (.tmp 3) (.const (.int .i64 0)) rfl (.pointer (some ⟨w.heap.size + 1 + 1, 0, none⟩)) (.int .i64 0) rfl rfl w4 HST4.out ?_)
    refine ⟨by simp, .inl ⟨_, _, rfl, run_takeDeferred HK4.out, ?_⟩⟩
    have hc2 := HC2.out
    have hc3 := HC3.out
    refine ⟨.tuple #[.slice x 512 c, .int .i64 0], by simp [results, Try.f8, go_sem, hc2, hc3], _, ?_, HB.out, fun _ => HO4.out, fun hn => ?_⟩
    · rw [HM.out]; rfl
    · rw [HM.out] at hn; cases hn
  case stop =>
    intro D c pre W hD _ hX hK
    obtain rfl := hX.ret
    refine wpIn_ret ?_
    have hD5 : w.heap.size + 5 ≤ D := by rw [← HS6.out]; exact hD
    have hc2 : (W.putObj D (.deferred none)).cell? ⟨w.heap.size + 1, 0, none⟩ = some (.slice none 0 0) := by
      have : Box1 (W.putObj D (.deferred none)) (w.heap.size + 1) 32 (.slice none 0 0) := (put_other _ _ _ _ (by omega)).trans hX.b2
      exact this.cell
    have hc3 : (W.putObj D (.deferred none)).cell? ⟨w.heap.size + 1 + 1, 0, none⟩ = some (.int .i64 1) := by
      have : Box1 (W.putObj D (.deferred none)) (w.heap.size + 2) 33 (.int .i64 1) := (put_other _ _ _ _ (by omega)).trans hX.b3
      exact this.cell
    obtain ⟨x, hx⟩ := hX.no
    have hm : MayC (uns l) = false := mayC_no (u := (uns l).getD x.1 zeroU) (by
      have : x.1 < (uns l).length := by rw [uns_len, HU.out.len]; exact x.2
      simp [List.getD, this]) hx
    refine ⟨by simp, .inl ⟨_, _, rfl, run_takeDeferred hK, ?_⟩⟩
    refine ⟨.tuple #[.slice none 0 0, .int .i64 1], by simp [results, Try.f8, go_sem, hc2, hc3], _, ?_, hX.below.trans (belowK_b (w := w) (Nat.le_refl _) W D _ _ (by omega) hK rfl rfl), fun hn => ?_, fun _ => rfl⟩
    · rw [hm]; rfl
    · rw [hm] at hn; cases hn

set_option maxHeartbeats 4000000 in
set_option maxRecDepth 100000 in
theorem encC_holds : EncC := by
  intro a len cap l w h hl
  by_cases h6 : len = 6
  · subst h6
    exact encC_six a cap l w h
  · have hm : MayC (uns l) = false := by
      unfold MayC
      rw [uns_len, h.len, show (len == 6) = false by simpa using h6, Bool.and_false]
    have i1 : (((len : Nat) : Int) != 6) = true := by simp; omega
    have i2 : ¬ ((len : Nat) : Int) = 6 := by omega
    rw [hm]
    have HB := hide (rBelow (rBelow (below_alloc w (.cells #[.slice a len cap] 22)) (below_alloc _ (.cells #[.slice none 0 0] 32))) (below_alloc _ (.cells #[.int .i64 1] 33)))
    clear h hm
    go_enter Try.func8, Try.ntmps8
    go_wp2_with fail
    refine bodyPost_ret (v := .tuple #[.slice none 0 0, .int .i64 1]) (by simp [results, Try.f8, go_sem]) rfl ?_
    exact ⟨_, rfl, HB.out, (fun h => by cases h), fun _ => rfl⟩

end Go.Proofs.Ytnhhapipadiffaa

namespace Go.Proofs.Ytnhhapipadiffaa
open Go.RowKit

theorem conv_u8C (v : Nat) (hv : v < 256) (w : World) : (convert 5 3 (.int .u8 ((v : Nat) : Int))).run Try.prog w = .ok (.int .i64 ((v : Nat) : Int)) w := by
  have : IntKind.i64.wrap ((v : Nat) : Int) = ((v : Nat) : Int) := by rw [IntKind.wrap_i64]; omega
  simp [go_sem, this]

set_option maxHeartbeats 2000000 in
set_option maxRecDepth 100000 in
theorem tk1 (w0 w : World) (g o cap n : Nat) (hc : w0.cell? ⟨g, o, none⟩ = some (.int .u8 ((n : Nat) : Int))) (hn : n < 256) (hcap : 72 ≤ cap) (hW : Below w0.heap.size w0 w)
    {Q : Exit → Act → World → Prop} {A : Act} (hsz : A.tmps.size = 33) (hdf : A.defers = []) (s0 : A.tmps.getD 0 undef = .slice (some ⟨g, o, none⟩) 72 cap)
    (hend : ∀ (u : Nat → Value) w', Below w0.heap.size w0 w' → w'.heap.size = w.heap.size → w'.heap = w.heap → Q .normal (((((((((A).put (some 6) (u 6)).put (some 7) (u 7)).put (some 8) (u 8)).put (some 9) (u 9)).put (some 10) (u 10)).put (some 11) (u 11)).put (some 4) (.int .i64 ((n : Nat) : Int))).put (some 5) (.slice (some ⟨g, o + 1, none⟩) 71 (cap - 1))) w') :
    (Code.region 1 (Pl.find 1 ((Try.f23.body).getD .skip)) true).wp Try.prog Q A w := by
  have hS0 : Below w0.heap.size w0 w.drew := hW.drew
  have hA := Pl.At.same (v := .slice (some ⟨g, o, none⟩) 72 cap) (d := 0) (Pl.At.here hsz hdf) s0
  have hlt := World.block_lt_of_cell? _ _ hc
  have hsl : ∀ w, (Instr.sliceAt 32 (.slice (some ⟨g, o, none⟩) 72 cap) (some (.int .i64 1)) none none).run Try.prog w = .ok (.slice (some ⟨g, o + 1, none⟩) 71 (cap - 1)) w := by
    intro w
    have h := slice_from (some ⟨g, o, none⟩) 72 cap 1 (by omega) w
    have e : fromA (some ⟨g, o, none⟩) cap 1 = some ⟨g, o + 1, none⟩ := by unfold fromA; rw [if_neg (by omega)]; rfl
    rw [e] at h
    exact h
  refine Pl.H.start (S := fun w' => Below w0.heap.size w0 w') (by kernel_rfl) hA hS0 ?_
  rw [show (Pl.find 1 ((Try.f23.body).getD .skip)).size = 8 by kernel_rfl]
  refine Pl.H.take 0 6 (.slice (some ⟨g, o, none⟩) 72 cap) (by kernel_rfl) (by kernel_rfl) (by kernel_rfl) (Pl.free 0 (by kernel_rfl)) (Pl.move 0 (.tmp 0) (by kernel_rfl) (by decide)) hS0 ?_
  refine Pl.H.take 1 7 (.pointer (some ⟨g, o, none⟩)) (by kernel_rfl) (by kernel_rfl) (by kernel_rfl) (Pl.free 1 (by kernel_rfl)) (Pl.index 1 32 (.tmp 6) (.const (.int .i64 0)) _ (by kernel_rfl) (by decide) (by decide) (index_byte g o 72 cap 0 (by decide))) hS0 ?_
  refine Pl.H.take 2 8 (.int .u8 ((n : Nat) : Int)) (by kernel_rfl) (by kernel_rfl) (by kernel_rfl) (Pl.free 2 (by kernel_rfl)) (Pl.load 2 5 (.tmp 7) _ (by kernel_rfl) (by decide) (fun w' hS => load_byte g o n w' ((hS.cell (p := ⟨g, o, none⟩) hlt).trans hc))) hS0 ?_
  refine Pl.H.take 3 9 (.int .i64 ((n : Nat) : Int)) (by kernel_rfl) (by kernel_rfl) (by kernel_rfl) (Pl.free 3 (by kernel_rfl)) (Pl.convV 3 5 3 (.tmp 8) (.int .u8 ((n : Nat) : Int)) _ (by kernel_rfl) (by decide) rfl (fun w' _ => conv_u8C n hn w')) hS0 ?_
  refine Pl.H.take 4 10 (.slice (some ⟨g, o, none⟩) 72 cap) (by kernel_rfl) (by kernel_rfl) (by kernel_rfl) (Pl.free 4 (by kernel_rfl)) (Pl.move 4 (.tmp 0) (by kernel_rfl) (by decide)) hS0 ?_
  refine Pl.H.take 5 11 (.slice (some ⟨g, o + 1, none⟩) 71 (cap - 1)) (by kernel_rfl) (by kernel_rfl) (by kernel_rfl) (Pl.free 5 (by kernel_rfl)) (Pl.slice 5 32 (.tmp 10) (some (.const (.int .i64 1))) none _ (by kernel_rfl) (by decide) (by decide) (by decide) hsl) hS0 ?_
  refine Pl.H.take 6 4 (.int .i64 ((n : Nat) : Int)) (by kernel_rfl) (by kernel_rfl) (by kernel_rfl) (Pl.free 6 (by kernel_rfl)) (Pl.assign 6 (.tmp 9) (by kernel_rfl) (by decide)) hS0 ?_
  refine Pl.H.take 7 5 (.slice (some ⟨g, o + 1, none⟩) 71 (cap - 1)) (by kernel_rfl) (by kernel_rfl) (by kernel_rfl) (Pl.free 7 (by kernel_rfl)) (Pl.assign 7 (.tmp 11) (by kernel_rfl) (by decide)) hS0 ?_
  refine Pl.H.done (by kernel_rfl) (fun A' hA' => ?_)
  rw [Pl.At.ext hA' ((((((((hA.put 6 _).put 7 _).put 8 _).put 9 _).put 10 _).put 11 _).put 4 _).put 5 _)]
  exact hend (fun d => if d = 6 then .slice (some ⟨g, o, none⟩) 72 cap else if d = 7 then .pointer (some ⟨g, o, none⟩) else if d = 8 then .int .u8 ((n : Nat) : Int) else if d = 9 then .int .i64 ((n : Nat) : Int) else if d = 10 then .slice (some ⟨g, o, none⟩) 72 cap else if d = 11 then .slice (some ⟨g, o + 1, none⟩) 71 (cap - 1) else undef) _ hS0 rfl rfl

/-- What take tells. -/
def TakeTold (c : List Nat) (w : World) (e : Ending) (w' : World) : Prop :=
  Below w.heap.size w w' ∧ ((cellR c = none ∧ e = .returned (.tuple #[Ux.zero.val, .int .i64 4])) ∨ (∃ x : Ux, cellR c = some x.u ∧ x.u.fits ∧ e = .returned (.tuple #[x.val, .int .i64 0]) ∧ ∀ w0, Col w0 w' x))

set_option maxHeartbeats 4000000 in
set_option maxRecDepth 100000 in
theorem takeC_any (g o cap : Nat) (c : List Nat) (w : World) (hc : Came w (some ⟨g, o, none⟩) 72 cap c) (hcap : 100 ≤ cap) :
    Calls Try.prog 23 #[.slice (some ⟨g, o, none⟩) 72 cap] w (TakeTold c w) := by
  have HC := hide hc
  have hcl := hc.bs.1
  have hcb : Bytes c := hc.bs.2.1
  have h0 := hc.bs.at 0 (by decide)
  rw [Nat.add_zero] at h0
  obtain ⟨n, hn⟩ : ∃ n, n = c.getD 0 0 := ⟨_, rfl⟩
  rw [← hn] at h0
  have hn256 : n < 256 := by rw [hn]; exact getD_lt hcb 0
  have HN := hide hn
  have HZ := hide (unBlk_new w zeroU (.slice none 0 0))
  have HW := hide (below_alloc w (.cells #[.int .i64 0, .int .i64 0, .int .i64 0, .int .i64 0, .int .i64 0, .int .i64 0, .float .f64 0, .bool false, .slice none 0 0, .int .i64 0, .int .i64 0, .int .i64 0] 30))
  have HCL := hide hcl
  have HCB := hide hcb
  have HC0 := hide h0
  clear hc hcl hcb hn h0
  unfold zeroU zeroR at HZ
  simp only at HZ
  go_enter Try.func23, Try.ntmps23
  go_wp2_with fail
  generalize w.alloc (.cells #[.int .i64 0, .int .i64 0, .int .i64 0, .int .i64 0, .int .i64 0, .int .i64 0, .float .f64 0, .bool false, .slice none 0 0, .int .i64 0, .int .i64 0, .int .i64 0] 30) = W1 at *
  refine Pl.region_is (ops := Pl.find 1 ((Try.f23.body).getD .skip)) (by kernel_rfl) ?_
  refine tk1 w W1 g o cap n HC0.out hn256 (by omega) HW.out (by rfl) (by rfl) (by rfl) ?_
  intro u1 w1 hb1 hs1 hh1
  have HZ1 : Hid (UnBlk w1 w.heap.size ⟨0, 0, 0, 0, 0, 0, ⟨0, false, [], 0, 0, 0⟩⟩ (.slice none 0 0)) := by
    show w1.heap[w.heap.size]? = _
    rw [hh1]
    exact HZ.out
  have HW1 := hide hb1
  clear hb1 hs1 hh1 HZ HW HC0
  simp only [Act.put, List.setIfInBounds_toArray, List.set_cons_zero, List.set_cons_succ]
  by_cases h71 : 71 < n
  · have i1 : (71 : Int) < ((n : Nat) : Int) := by omega
    have HR : Hid (cellR c = none) := by
      show _ = _
      unfold cellR
      rw [← HN.out, if_neg (by omega), if_pos h71]
    have HST := hide (zero_st w1 w.heap.size _ _ HZ1.out)
    have HSB := hide (setUn_blk HZ1.out zeroU (.slice none 0 0))
    have HSW := hide (setUn_below HW1.out (Nat.le_refl _) zeroU (.slice none 0 0))
    generalize setUn w1 w.heap.size zeroU (.slice none 0 0) = WE at *
    go_wp2_with (refine wpList_store _ rfl rfl 30 (.tmp 2) (.tmp 23) rfl (.pointer (some ⟨w.heap.size, 0, none⟩)) (.agg #[.int .i64 0, .int .i64 0, .int .i64 0, .int .i64 0, .int .i64 0, .int .i64 0, .float .f64 0, .bool false, .slice none 0 0, .int .i64 0, .int .i64 0, .int .i64 0]) rfl rfl WE HST.out ?_)
    refine bodyPost_ret (un_results2 rfl HSB.out _ (.int .i64 4) rfl rfl ⟨_, _, _, rfl⟩) rfl ?_
    exact ⟨HSW.out, .inl ⟨HR.out, rfl⟩⟩
  · have hn71 : n ≤ 71 := by omega
    have i1 : ((n : Nat) : Int) ≤ 71 := by omega
    have hbs : Bs w1 (some ⟨g, o + 1 + n, none⟩) (71 - n) (c.drop (1 + n)) := by
      have hb := (HC.out.keep HW1.out (Nat.le_refl _)).bs
      refine ⟨by rw [List.length_drop, HCL.out]; omega, fun x hx => HCB.out x (List.mem_of_mem_drop hx), fun i hi => ⟨g, o + 1 + n, rfl, ?_⟩⟩
      have := hb.at (1 + n + i) (by omega)
      rw [show o + 1 + n + i = o + (1 + n + i) by omega, this]
      simp [List.getD]
    have HNo := hide (noughtsC_any w1 (some ⟨g, o + 1 + n, none⟩) (71 - n) (cap - 1 - n) (c.drop (1 + n)) hbs (by omega))
    clear hbs
    go_wp2_with fail
    cases hz : zerosB (c.drop (1 + n))
    · rw [hz] at HNo
      refine HNo.out.mono ?_
      rintro e w2 ⟨rfl, hw⟩
      obtain rfl := hw
      have HR : Hid (cellR c = none) := by
        show _ = _
        unfold cellR
        rw [← HN.out]
        by_cases h0 : n = 0
        · rw [if_pos h0]
          rw [h0] at hz
          rw [hz]
          rfl
        · rw [if_neg h0, if_neg h71, hz]
          cases decU ((c.drop 1).take n) <;> rfl
      have HST := hide (zero_st w2 w.heap.size _ _ HZ1.out)
      have HSB := hide (setUn_blk HZ1.out zeroU (.slice none 0 0))
      have HSW := hide (setUn_below HW1.out (Nat.le_refl _) zeroU (.slice none 0 0))
      clear HNo hz
      generalize setUn w2 w.heap.size zeroU (.slice none 0 0) = WE at *
      go_wp2_with (refine wpList_store _ rfl rfl 30 (.tmp 2) (.tmp 23) rfl (.pointer (some ⟨w.heap.size, 0, none⟩)) (.agg #[.int .i64 0, .int .i64 0, .int .i64 0, .int .i64 0, .int .i64 0, .int .i64 0, .float .f64 0, .bool false, .slice none 0 0, .int .i64 0, .int .i64 0, .int .i64 0]) rfl rfl WE HST.out ?_)
      refine bodyPost_ret (un_results2 rfl HSB.out _ (.int .i64 4) rfl rfl ⟨_, _, _, rfl⟩) rfl ?_
      exact ⟨HSW.out, .inl ⟨HR.out, rfl⟩⟩
    · rw [hz] at HNo
      refine HNo.out.mono ?_
      rintro e w2 ⟨rfl, hw⟩
      obtain rfl := hw
      have HZS := hide hz
      clear HNo hz
      by_cases h0 : n = 0
      · have HR : Hid (cellR c = some zeroU) := by
          show _ = _
          have hz := HZS.out
          rw [h0] at hz
          unfold cellR
          rw [← HN.out, if_pos h0, hz]
          rfl
        have HST := hide (zero_st w2 w.heap.size _ _ HZ1.out)
        have HSB := hide (setUn_blk HZ1.out zeroU (.slice none 0 0))
        have HSW := hide (setUn_below HW1.out (Nat.le_refl _) zeroU (.slice none 0 0))
        have j0 : ((n : Nat) : Int) = 0 := by omega
        generalize setUn w2 w.heap.size zeroU (.slice none 0 0) = WE at *
        go_wp2_with (refine wpList_store _ rfl rfl 30 (.tmp 2) (.tmp 26) rfl (.pointer (some ⟨w.heap.size, 0, none⟩)) (.agg #[.int .i64 0, .int .i64 0, .int .i64 0, .int .i64 0, .int .i64 0, .int .i64 0, .float .f64 0, .bool false, .slice none 0 0, .int .i64 0, .int .i64 0, .int .i64 0]) rfl rfl WE HST.out ?_)
        refine bodyPost_ret (un_results2 rfl HSB.out _ (.int .i64 0) rfl rfl ⟨_, _, _, rfl⟩) rfl ?_
        exact ⟨HSW.out, .inr ⟨Ux.zero, HR.out, zeroU_fits, rfl, fun w0 => Col.zero _ _⟩⟩
      · have j0 : ¬ ((n : Nat) : Int) = 0 := by omega
        have hcm : Came w2 (some ⟨g, o + 1, none⟩) n (cap - 1) ((c.drop 1).take n) := by
          have hb := (HC.out.keep HW1.out (Nat.le_refl _)).bs
          refine ⟨⟨by rw [List.length_take, List.length_drop, HCL.out]; omega, fun x hx => HCB.out x (List.mem_of_mem_drop (List.mem_of_mem_take hx)), fun i hi => ⟨g, o + 1, rfl, ?_⟩⟩, (fun e => by cases e), by omega, by omega⟩
          have := hb.at (1 + i) (by omega)
          rw [show o + 1 + i = o + (1 + i) by omega, this]
          simp [List.getD, hi, Nat.add_comm 1 i]
        have HD := hide (decodeU_any _ _ _ _ w2 hcm (by omega))
        have HRR : Hid (cellR c = decU ((c.drop 1).take n)) := by
          show _ = _
          unfold cellR
          rw [← HN.out, if_neg h0, if_neg h71, HZS.out]
          cases decU ((c.drop 1).take n) <;> rfl
        clear hcm
        go_wp2_with fail
        refine HD.out.mono ?_
        rintro e w3 ⟨hb3, hn3, hy3⟩
        have hW3 := rBelow HW1.out hb3
        have hz3 := HZ1.out.keep hb3
        cases hd : decU ((c.drop 1).take n) with
        | none =>
          obtain rfl := hn3 hd
          have HR : Hid (cellR c = none) := HRR.out.trans hd
          have HST := hide (zero_st w3 w.heap.size _ _ hz3)
          have HSB := hide (setUn_blk hz3 zeroU (.slice none 0 0))
          have HSW := hide (setUn_below hW3 (Nat.le_refl _) zeroU (.slice none 0 0))
          clear hb3 hn3 hy3 hW3 hz3 hd HD
          generalize setUn w3 w.heap.size zeroU (.slice none 0 0) = WE at *
          go_wp2_with (refine wpList_store _ rfl rfl 30 (.tmp 2) (.tmp 31) rfl (.pointer (some ⟨w.heap.size, 0, none⟩)) (.agg #[.int .i64 0, .int .i64 0, .int .i64 0, .int .i64 0, .int .i64 0, .int .i64 0, .float .f64 0, .bool false, .slice none 0 0, .int .i64 0, .int .i64 0, .int .i64 0]) rfl rfl WE HST.out ?_)
          refine bodyPost_ret (un_results2 rfl HSB.out _ (.int .i64 4) rfl rfl ⟨_, _, _, rfl⟩) rfl ?_
          exact ⟨HSW.out, .inl ⟨HR.out, rfl⟩⟩
        | some v =>
          obtain ⟨hfit, a, len, cp, rfl, hfs, how⟩ := hy3 v hd
          have HR : Hid (cellR c = some v) := HRR.out.trans hd
          have HST := hide (st_un w3 w.heap.size _ _ hz3 v a len cp)
          have HSB := hide (setUn_blk hz3 v (.slice a len cp))
          have HSW := hide (setUn_below hW3 (Nat.le_refl _) v (.slice a len cp))
          have how' := how.setUn hz3 v (.slice a len cp)
          have HCo : Hid (∀ w0, Col w0 (setUn w3 w.heap.size v (.slice a len cp)) ⟨v, a, len, cp⟩) := fun w0 => Col.owns how' (how'.fsO hfit.row.xs)
          have HFit := hide hfit
          clear hb3 hn3 hy3 hW3 hz3 hd HD hfs how how' hfit
          generalize setUn w3 w.heap.size v (.slice a len cp) = WE at *
          go_wp2_with (refine wpList_store _ rfl rfl 30 (.tmp 2) (.tmp 31) rfl (.pointer (some ⟨w.heap.size, 0, none⟩)) (v.val (.slice a len cp)) rfl rfl WE HST.out ?_)
          refine bodyPost_ret (un_results2 rfl HSB.out _ (.int .i64 0) rfl rfl ⟨_, _, _, rfl⟩) rfl ?_
          exact ⟨HSW.out, .inr ⟨⟨v, a, len, cp⟩, HR.out, HFit.out, rfl, HCo.out⟩⟩

end Go.Proofs.Ytnhhapipadiffaa

namespace Go.Proofs.Ytnhhapipadiffaa
open Go.RowKit

theorem enters23 : ∀ args w, (callFunc 23 args).run Try.prog w = .ok (.enter 23 args) w := Pl.enters Try.func23 (by kernel_rfl) (by kernel_rfl)

theorem load_undos (b : Nat) (a : Option Addr) (n c : Nat) (w : World) (h : w.cell? ⟨b, 0, none⟩ = some (.slice a n c)) : (Instr.loadAt 22 (.pointer (some ⟨b, 0, none⟩))).run Try.prog w = .ok (.slice a n c) w := by simp [go_sem, h]
theorem load_errno (b : Nat) (k : Int) (w : World) (h : w.cell? ⟨b, 0, none⟩ = some (.int .i64 k)) : (Instr.loadAt 33 (.pointer (some ⟨b, 0, none⟩))).run Try.prog w = .ok (.int .i64 k) w := by simp [go_sem, h]

set_option maxHeartbeats 2000000 in
set_option maxRecDepth 100000 in
/-- l[i], e = take(room), within a round. -/
theorem dc14 (lp m : Nat) (W : World) (lb eb r i : Nat) (hi : i < 6) (v : Value) (hS0 : W.cell? ⟨lb, 0, none⟩ = some (.slice (some ⟨r, 0, none⟩) 6 6))
    {Q : Exit → Act → World → Prop} {A : Act} (hsz : A.tmps.size = 50) (hdf : A.defers = []) (s5 : A.tmps.getD 5 undef = .pointer (some ⟨eb, 0, none⟩)) (s6 : A.tmps.getD 6 undef = .pointer (some ⟨lb, 0, none⟩)) (s7 : A.tmps.getD 7 undef = .int .i64 ((i : Nat) : Int)) (s8 : A.tmps.getD 8 undef = v) (hq : ∀ a w, ¬ Q .outgrown a w)
    (hcall : Calls Try.prog 23 #[v] W.drew fun e w' => ∃ (y : Ux) (k : Int) (w2 w3 : World), e = .returned (.tuple #[y.val, .int .i64 k]) ∧ w'.cell? ⟨lb, 0, none⟩ = some (.slice (some ⟨r, 0, none⟩) 6 6) ∧
      (Instr.storeAt 30 (.pointer (some ⟨r, 0 + i * 12, none⟩)) y.val).run Try.prog w' = .ok () w2 ∧ w2.cell? ⟨lb, 0, none⟩ = some (.slice (some ⟨r, 0, none⟩) 6 6) ∧
      (Instr.storeAt 33 (.pointer (some ⟨eb, 0, none⟩)) (.int .i64 k)).run Try.prog w2 = .ok () w3 ∧ w3.cell? ⟨lb, 0, none⟩ = some (.slice (some ⟨r, 0, none⟩) 6 6) ∧
      ∀ u : Nat → Value, Q .normal (((((((((A).put (some 40) (u 40)).put (some 41) (u 41)).put (some 39) (u 39)).put (some 42) (u 42)).put (some 38) (u 38)).put (some 43) (u 43)).put (some 44) (u 44)).put (some 45) (u 45)) w3) :
    (Code.region 14 (Pl.findR 14 ((Try.f10.body).getD .skip)) true).wpIn (Fence.wide.inRound lp) m Try.prog Q A W := by
  have hA := Pl.At.same (v := v) (d := 8) (Pl.At.same (v := .int .i64 ((i : Nat) : Int)) (d := 7) (Pl.At.same (v := .pointer (some ⟨lb, 0, none⟩)) (d := 6) (Pl.At.same (v := .pointer (some ⟨eb, 0, none⟩)) (d := 5) (Pl.At.here hsz hdf) s5) s6) s7) s8
  have hS1 : W.drew.cell? ⟨lb, 0, none⟩ = some (.slice (some ⟨r, 0, none⟩) 6 6) := hS0
  refine Pl.H.startR (S := fun w' => w'.cell? ⟨lb, 0, none⟩ = some (.slice (some ⟨r, 0, none⟩) 6 6)) (by kernel_rfl) (by kernel_rfl) hq hA ?_
  rw [show (Pl.findR 14 ((Try.f10.body).getD .skip)).size = 10 by kernel_rfl]
  refine Pl.H.take 1 40 (.int .i64 ((i : Nat) : Int)) (by kernel_rfl) (by kernel_rfl) (by kernel_rfl) (Pl.free 1 (by kernel_rfl)) (Pl.move 1 (.tmp 7) (by kernel_rfl) (by decide)) hS1 ?_
  refine Pl.H.take 2 41 v (by kernel_rfl) (by kernel_rfl) (by kernel_rfl) (Pl.free 2 (by kernel_rfl)) (Pl.move 2 (.tmp 8) (by kernel_rfl) (by decide)) hS1 ?_
  refine Pl.H.take 0 39 (.slice (some ⟨r, 0, none⟩) 6 6) (by kernel_rfl) (by kernel_rfl) (by kernel_rfl) (Pl.free 0 (by kernel_rfl)) (Pl.load 0 22 (.tmp 6) _ (by kernel_rfl) (by decide) (fun w' hS => load_undos lb _ 6 6 w' hS)) hS1 ?_
  refine Pl.H.call 3 42 23 [(.tmp 41)] #[32] (by kernel_rfl) (by kernel_rfl) (by kernel_rfl) (Pl.free 3 (by kernel_rfl)) (by kernel_rfl) (by decide) enters23 (Calls.mono hcall ?_)
  rintro e w1 ⟨y, k, w2, w3, rfl, hS2, hst2, hS3, hst3, hS4, hend⟩
  refine ⟨.tuple #[y.val, .int .i64 k], rfl, hS2, ?_⟩
  refine Pl.H.take 4 38 (.tuple #[y.val, .int .i64 k]) (by kernel_rfl) (by kernel_rfl) (by kernel_rfl) (Pl.free 4 (by kernel_rfl)) (Pl.move 4 (.tmp 42) (by kernel_rfl) (by decide)) hS2 ?_
  refine Pl.H.take 5 43 y.val (by kernel_rfl) (by kernel_rfl) (by kernel_rfl) (Pl.free 5 (by kernel_rfl)) (Pl.extr 5 (.tmp 38) 0 _ (by kernel_rfl) (by decide) (fun w => rfl)) hS2 ?_
  refine Pl.H.take 6 44 (.int .i64 k) (by kernel_rfl) (by kernel_rfl) (by kernel_rfl) (Pl.free 6 (by kernel_rfl)) (Pl.extr 6 (.tmp 38) 1 _ (by kernel_rfl) (by decide) (fun w => rfl)) hS2 ?_
  refine Pl.H.take 7 45 (.pointer (some ⟨r, 0 + i * 12, none⟩)) (by kernel_rfl) (by kernel_rfl) (by kernel_rfl) (Pl.free 7 (by kernel_rfl)) (Pl.index 7 22 (.tmp 39) (.tmp 40) _ (by kernel_rfl) (by decide) (by decide) (index_un r 0 6 6 i hi)) hS2 ?_
  refine Pl.H.store 8 w2 (by kernel_rfl) (by kernel_rfl) (by kernel_rfl) (Pl.free 8 (by kernel_rfl)) (Pl.storeV 8 30 (.tmp 45) (.tmp 43) _ (by kernel_rfl) (by decide) (by decide) hst2) hS3 ?_
  refine Pl.H.store 9 w3 (by kernel_rfl) (by kernel_rfl) (by kernel_rfl) (Pl.free 9 (by kernel_rfl)) (Pl.storeV 9 33 (.tmp 5) (.tmp 44) _ (by kernel_rfl) (by decide) (by decide) hst3) hS4 ?_
  refine Pl.H.done (by kernel_rfl) (fun A' hA' => ?_)
  rw [Pl.At.ext hA' ((((((((hA.put 40 _).put 41 _).put 39 _).put 42 _).put 38 _).put 43 _).put 44 _).put 45 _)]
  exact hend (fun d => if d = 40 then .int .i64 ((i : Nat) : Int) else if d = 41 then v else if d = 39 then .slice (some ⟨r, 0, none⟩) 6 6 else if d = 42 then .tuple #[y.val, .int .i64 k] else if d = 38 then .tuple #[y.val, .int .i64 k] else if d = 43 then y.val else if d = 44 then .int .i64 k else if d = 45 then .pointer (some ⟨r, 0 + i * 12, none⟩) else undef)

set_option maxHeartbeats 2000000 in
set_option maxRecDepth 100000 in
/-- return nil, e, within a round. -/
theorem dc16 (lp m : Nat) (W w2 w3 : World) (eb p q : Nat) (k : Int) (h1 : W.cell? ⟨eb, 0, none⟩ = some (.int .i64 k)) (h2 : w2.cell? ⟨eb, 0, none⟩ = some (.int .i64 k)) (h3 : w3.cell? ⟨eb, 0, none⟩ = some (.int .i64 k))
    (hst2 : (Instr.storeAt 22 (.pointer (some ⟨p, 0, none⟩)) (.slice none 0 0)).run Try.prog W.drew = .ok () w2) (hst3 : (Instr.storeAt 33 (.pointer (some ⟨q, 0, none⟩)) (.int .i64 k)).run Try.prog w2 = .ok () w3)
    {Q : Exit → Act → World → Prop} {A : Act} (hsz : A.tmps.size = 50) (hdf : A.defers = []) (s2 : A.tmps.getD 2 undef = .pointer (some ⟨p, 0, none⟩)) (s3 : A.tmps.getD 3 undef = .pointer (some ⟨q, 0, none⟩)) (s5 : A.tmps.getD 5 undef = .pointer (some ⟨eb, 0, none⟩)) (hq : ∀ a w, ¬ Q .outgrown a w)
    (hend : Q .normal ((A).put (some 48) (.int .i64 k)) w3) :
    (Code.region 16 (Pl.findR 16 ((Try.f10.body).getD .skip)) true).wpIn (Fence.wide.inRound lp) m Try.prog Q A W := by
  have hA := Pl.At.same (v := .pointer (some ⟨eb, 0, none⟩)) (d := 5) (Pl.At.same (v := .pointer (some ⟨q, 0, none⟩)) (d := 3) (Pl.At.same (v := .pointer (some ⟨p, 0, none⟩)) (d := 2) (Pl.At.here hsz hdf) s2) s3) s5
  have hS1 : W.drew.cell? ⟨eb, 0, none⟩ = some (.int .i64 k) := h1
  refine Pl.H.startR (S := fun w' => w'.cell? ⟨eb, 0, none⟩ = some (.int .i64 k)) (by kernel_rfl) (by kernel_rfl) hq hA ?_
  rw [show (Pl.findR 16 ((Try.f10.body).getD .skip)).size = 3 by kernel_rfl]
  refine Pl.H.take 0 48 (.int .i64 k) (by kernel_rfl) (by kernel_rfl) (by kernel_rfl) (Pl.free 0 (by kernel_rfl)) (Pl.load 0 33 (.tmp 5) _ (by kernel_rfl) (by decide) (fun w' hS => load_errno eb k w' hS)) hS1 ?_
  refine Pl.H.store 1 w2 (by kernel_rfl) (by kernel_rfl) (by kernel_rfl) (Pl.free 1 (by kernel_rfl)) (Pl.storeV 1 22 (.tmp 2) (.const (.slice none 0 0)) _ (by kernel_rfl) (by decide) (by decide) hst2) h2 ?_
  refine Pl.H.store 2 w3 (by kernel_rfl) (by kernel_rfl) (by kernel_rfl) (Pl.free 2 (by kernel_rfl)) (Pl.storeV 2 33 (.tmp 3) (.tmp 48) _ (by kernel_rfl) (by decide) (by decide) hst3) h3 ?_
  refine Pl.H.done (by kernel_rfl) (fun A' hA' => ?_)
  rw [Pl.At.ext hA' (hA.put 48 _)]
  exact hend

set_option maxHeartbeats 2000000 in
set_option maxRecDepth 100000 in
/-- return nil, e, where no sum fits. -/
theorem dc7 (W w2 w3 : World) (eb p q : Nat) (k : Int) (h1 : W.cell? ⟨eb, 0, none⟩ = some (.int .i64 k)) (h2 : w2.cell? ⟨eb, 0, none⟩ = some (.int .i64 k)) (h3 : w3.cell? ⟨eb, 0, none⟩ = some (.int .i64 k))
    (hst2 : (Instr.storeAt 22 (.pointer (some ⟨p, 0, none⟩)) (.slice none 0 0)).run Try.prog W.drew = .ok () w2) (hst3 : (Instr.storeAt 33 (.pointer (some ⟨q, 0, none⟩)) (.int .i64 k)).run Try.prog w2 = .ok () w3)
    {Q : Exit → Act → World → Prop} {A : Act} (hsz : A.tmps.size = 50) (hdf : A.defers = []) (s2 : A.tmps.getD 2 undef = .pointer (some ⟨p, 0, none⟩)) (s3 : A.tmps.getD 3 undef = .pointer (some ⟨q, 0, none⟩)) (s5 : A.tmps.getD 5 undef = .pointer (some ⟨eb, 0, none⟩))
    (hend : Q .normal ((A).put (some 22) (.int .i64 k)) w3) :
    (Code.region 7 (Pl.find 7 ((Try.f10.body).getD .skip)) true).wp Try.prog Q A W := by
  have hA := Pl.At.same (v := .pointer (some ⟨eb, 0, none⟩)) (d := 5) (Pl.At.same (v := .pointer (some ⟨q, 0, none⟩)) (d := 3) (Pl.At.same (v := .pointer (some ⟨p, 0, none⟩)) (d := 2) (Pl.At.here hsz hdf) s2) s3) s5
  have hS1 : W.drew.cell? ⟨eb, 0, none⟩ = some (.int .i64 k) := h1
  refine Pl.H.start (S := fun w' => w'.cell? ⟨eb, 0, none⟩ = some (.int .i64 k)) (by kernel_rfl) hA hS1 ?_
  rw [show (Pl.find 7 ((Try.f10.body).getD .skip)).size = 3 by kernel_rfl]
  refine Pl.H.take 0 22 (.int .i64 k) (by kernel_rfl) (by kernel_rfl) (by kernel_rfl) (Pl.free 0 (by kernel_rfl)) (Pl.load 0 33 (.tmp 5) _ (by kernel_rfl) (by decide) (fun w' hS => load_errno eb k w' hS)) hS1 ?_
  refine Pl.H.store 1 w2 (by kernel_rfl) (by kernel_rfl) (by kernel_rfl) (Pl.free 1 (by kernel_rfl)) (Pl.storeV 1 22 (.tmp 2) (.const (.slice none 0 0)) _ (by kernel_rfl) (by decide) (by decide) hst2) h2 ?_
  refine Pl.H.store 2 w3 (by kernel_rfl) (by kernel_rfl) (by kernel_rfl) (Pl.free 2 (by kernel_rfl)) (Pl.storeV 2 33 (.tmp 3) (.tmp 22) _ (by kernel_rfl) (by decide) (by decide) hst3) h3 ?_
  refine Pl.H.done (by kernel_rfl) (fun A' hA' => ?_)
  rw [Pl.At.ext hA' (hA.put 22 _)]
  exact hend

theorem cell_cells {w : World} {p : Addr} {v : Value} (h : w.cell? p = some v) : ∃ C t fr, w.heap[p.block]? = some (Obj.cells C t fr) := by
  unfold World.cell? at h
  split at h
  · rename_i C t fr hb
    exact ⟨_, _, _, hb⟩
  · cases h

/-- Columns stay where nothing but other things turn. -/
theorem Col.turned {w0 w W : World} {x : Ux} (h : Col w0 w x) (hs : ∀ (k : Nat) (C : Array Value) (t : TypeId) (fr : Nat × Nat), w.heap[k]? = some (Obj.cells C t fr) → (k < w0.heap.size ∨ t = 23) → W.heap[k]? = w.heap[k]?) : Col w0 W x := by
  have hsame : ∀ b off, x.a = some ⟨b, off, none⟩ → 0 < x.n → W.heap[b]? = w.heap[b]? := by
    intro b off ha hn
    obtain ⟨b', off', ha', hc, _, _⟩ := h.fs.at 0 hn
    rw [ha'] at ha
    cases ha
    obtain ⟨C, t, fr, hb⟩ := cell_cells hc
    rcases h.home b off ha' hn with k | ⟨C', fr', k⟩
    · exact hs b C t fr hb (.inl k)
    · exact hs b C' _ fr' k (.inr rfl)
  refine ⟨h.fs.same hsame, fun b off ha hn => ?_⟩
  rcases h.home b off ha hn with k | ⟨C, fr, k⟩
  · exact .inl k
  · exact .inr ⟨C, fr, (hsame b off ha hn).trans k⟩

theorem Ud.turned {w0 w W : World} {s : Sl} {l : List Ux} (h : Ud w0 w s l) (hb : Below w0.heap.size w0 W) (hs : ∀ (k : Nat) (C : Array Value) (t : TypeId) (fr : Nat × Nat), w.heap[k]? = some (Obj.cells C t fr) → (k < w0.heap.size ∨ t = 23 ∨ t = 30) → W.heap[k]? = w.heap[k]?) : Ud w0 W s l := by
  refine ⟨h.own.frame (fun k hk => ?_), h.new, hb, fun x hx => (h.cols x hx).turned (fun k C t fr hk ho => hs k C t fr hk (ho.elim .inl (fun e => .inr (.inl e)))), h.fits⟩
  obtain ⟨cur, hcur⟩ := h.own.kind hk
  exact hs k cur _ _ hcur (.inr (.inr rfl))

/-- A box of another kind turns: a row of undoings stays. -/
theorem Ud.other {w0 w W : World} {s : Sl} {l : List Ux} (h : Ud w0 w s l) {b : Nat} {t : TypeId} {v : Value} (hx : Box1 w b t v) (hb : w0.heap.size ≤ b) (ht : t ≠ 23 ∧ t ≠ 30) (hf : Frm (fun k => k = b) w W) : Ud w0 W s l := by
  refine h.turned (h.below.trans (hf.below h.below.size (fun k hk => by rw [hk]; exact hb))) (fun k C t' fr hk ho => hf.block k (Array.getElem?_eq_some_iff.1 hk).1 (fun e => ?_))
  subst e
  unfold Box1 at hx
  rw [hx] at hk
  cases hk
  rcases ho with ho | ho | ho
  · omega
  · exact ht.1 ho
  · exact ht.2 ho

theorem Ud.grown {w0 W W' : World} {s : Sl} {l : List Ux} (h : Ud w0 W s l) {row : Option Nat} (hg : W.grownBy W' row) (hr : ∀ r, row = some r → w0.heap.size ≤ r ∧ ∃ o : Obj, W.heap[r]? = some o ∧ o.isCells = false) : Ud w0 W' s l :=
  h.turned (Below.grownB h.below hg (fun r e => (hr r e).1) h.below.size) (fun _ _ _ _ hk _ => grown_cells hg (fun r e => (hr r e).2) hk)

/-- Between two rounds of Decode: n is where its own boxes begin. -/
structure DeI (w : World) (n g c : Nat) (t : List Nat) (pre : List Six) (W : World) : Prop where
  below : Below w.heap.size w W
  b2 : Box1 W w.heap.size 22 (.slice none 0 0)
  b3 : Box1 W (w.heap.size + 1) 33 (.int .i64 0)
  txt : Own 5 1 W ⟨some ⟨g, 0, none⟩, 508, c⟩ (vals t)
  eb : Box1 W n 33 (.int .i64 0)
  lb : Box1 W (n + 2) 22 (.slice (some ⟨n + 1, 0, none⟩) 6 6)
  bx : BoxS W (n + 3) (.slice (some ⟨g, 0, none⟩) 508 c)
  row : ∃ m : List Ux, m.length = 6 ∧ Ud w W ⟨some ⟨n + 1, 0, none⟩, 6, 6⟩ m ∧ ∀ y : Six, y ∈ pre → cellR (pieceC t y.1) = some (m.getD y.1 Ux.zero).u

theorem DeI.own {w : World} {n g c : Nat} {t : List Nat} {B : Nat} (hB : w.heap.size ≤ B) : OwnFrom B (DeI w n g c t) := by
  intro pre W W' row h hg hr
  have hr' : ∀ r, row = some r → ∃ o : Obj, W.heap[r]? = some o ∧ o.isCells = false := fun r e => (hr r e).2
  obtain ⟨m, h6, hu, hm⟩ := h.row
  refine ⟨Below.grownB h.below hg (fun r e => Nat.le_trans hB (hr r e).1) h.below.size, (grown_cells hg hr' h.b2).trans h.b2, (grown_cells hg hr' h.b3).trans h.b3, h.txt.frame (fun k hk => ?_), (grown_cells hg hr' h.eb).trans h.eb, (grown_cells hg hr' h.lb).trans h.lb, (grown_cells hg hr' h.bx).trans h.bx, m, h6, hu.grown hg (fun r e => ⟨Nat.le_trans hB (hr r e).1, (hr r e).2⟩), hm⟩
  obtain ⟨cur, hc⟩ := h.txt.kind hk
  exact grown_cells hg hr' hc

/-- A round of Decode has told an error. -/
structure DeX (w : World) (t : List Nat) (c : Code) (pre : List Six) (W : World) : Prop where
  ret : c = .ret
  below : Below w.heap.size w W
  b2 : Box1 W w.heap.size 22 (.slice none 0 0)
  b3 : Box1 W (w.heap.size + 1) 33 (.int .i64 4)
  no : ∃ x : Six, cellR (pieceC t x.1) = none

theorem DeX.own {w : World} {t : List Nat} {B : Nat} (hB : w.heap.size ≤ B) (c : Code) : OwnFrom B (DeX w t c) := by
  intro pre W W' row h hg hr
  have hr' : ∀ r, row = some r → ∃ o : Obj, W.heap[r]? = some o ∧ o.isCells = false := fun r e => (hr r e).2
  exact ⟨h.ret, Below.grownB h.below hg (fun r e => Nat.le_trans hB (hr r e).1) h.below.size, (grown_cells hg hr' h.b2).trans h.b2, (grown_cells hg hr' h.b3).trans h.b3, h.no⟩

end Go.Proofs.Ytnhhapipadiffaa
