/-
  Plan steps; a row is told; what is encoded is decoded.
-/
import Derived.Test.YtnhhapipadiffaaRowH
namespace Go.Proofs.Ytnhhapipadiffaa
open Go.RowKit


theorem load_flsV (b o : Nat) (v : Value) (hv : ∃ a len cap, v = .slice a len cap) (w : World) (h : w.cell? ⟨b, o, none⟩ = some v) : (Instr.loadAt 24 (.pointer (some ⟨b, o, none⟩))).run Try.prog w = .ok v w := by
  obtain ⟨a, len, cap, rfl⟩ := hv
  exact load_fls b o a len cap w h

theorem store_flsV (b o : Nat) (v u : Value) (hv : ∃ a len cap, v = .slice a len cap) (w : World) (h : w.cell? ⟨b, o, none⟩ = some u) (hf : w.frozen? ⟨b, o, none⟩ = false) : (Instr.storeAt 24 (.pointer (some ⟨b, o, none⟩)) v).run Try.prog w = .ok () (w.setCell ⟨b, o, none⟩ v) := by
  obtain ⟨a, len, cap, rfl⟩ := hv
  simp [go_sem, Instr.storeAt, h, hf]

theorem build_flt (x : Nat) (w : World) : (Instr.buildSlice 24 1 #[(0, .float .f64 x)]).run Try.prog w = .ok (.slice (some ⟨w.heap.size, 0, none⟩) 1 1) (w.alloc (.cells #[.float .f64 x] 23)) := by
  simp [go_sem, Instr.buildSlice]

/-- What is left behind a column more. -/
structure ColEnd (W0 w w' : World) (B p : Nat) (R : Rw) (v : Value) (us : List Value) : Prop where
  below : Below B W0 w'
  owns : OwnsV 23 w' B v us
  blk : RwBlk w' p R v
  stay : ∀ (k : Nat) (C : Array Value) (t : TypeId) (fr : Nat × Nat), w.heap[k]? = some (Obj.cells C t fr) → t ≠ 23 → k ≠ p → w'.heap[k]? = w.heap[k]?
  size : w.heap.size ≤ w'.heap.size

theorem col_store {B p : Nat} {W0 w w1 : World} {R : Rw} {c0 v : Value} {us : List Value} (hb : Below B W0 w1) (hp : B ≤ p) (hblk : RwBlk w1 p R c0) (ho : OwnsV 23 w1 B v us)
    (hst : ∀ (k : Nat) (C : Array Value) (t : TypeId) (fr : Nat × Nat), w.heap[k]? = some (Obj.cells C t fr) → t ≠ 23 → w1.heap[k]? = w.heap[k]?) (hsz : w.heap.size ≤ w1.heap.size) :
    ColEnd W0 w (w1.setCell ⟨p, 2, none⟩ v) B p R v us := by
  refine ⟨hb.setCell (p := ⟨p, 2, none⟩) hp v, ⟨ho.1, ?_⟩, ?_, fun k C t fr hk ht hkp => ?_, ?_⟩
  · rcases ho.2 with hn | ⟨k, cap, cur, hv, hbk, hk, rest⟩
    · exact .inl hn
    · refine .inr ⟨k, cap, cur, hv, hbk, (Below.heap_setCell _ ⟨p, 2, none⟩ _ k ?_).trans hk, rest⟩
      rintro rfl
      unfold RwBlk at hblk
      rw [hk] at hblk
      simp only [Option.some.injEq, Obj.cells.injEq] at hblk
      exact absurd hblk.2.1 (by decide)
  · have := heap_setCell_same w1 p 2 _ 28 v hblk
    unfold RwBlk
    rw [this]
    simp
  · rw [Below.heap_setCell _ ⟨p, 2, none⟩ _ k hkp]
    exact hst k C t fr hk ht
  · simpa using hsz

theorem OwnsV.form {e : TypeId} {w : World} {base : Nat} {v : Value} {vs : List Value} (h : OwnsV e w base v vs) : ∃ a len cap, v = .slice a len cap := by
  rcases h.2 with ⟨hv, _⟩ | ⟨g, cap, cur, hv, _⟩
  · exact ⟨_, _, _, hv⟩
  · exact ⟨_, _, _, hv⟩

theorem enters76 : ∀ args w, (callFunc 76 args).run Try.prog w = .ok (.enter 76 args) w := Pl.enters Try.func76 (by kernel_rfl) (by kernel_rfl)

theorem rw_results2 {fn : Func} {x y : Nat} (hr : fn.results = #[.cell x 28, .tmp y]) {W : World} {g : Nat} {r : Rw} {c : Value} (h : RwBlk W g r c) (tmps : Array Value) (u : Value) (ht : tmps.getD x undef = .pointer (some ⟨g, 0, none⟩)) (hx : tmps.getD y undef = u) (hc : ∃ a len cap, c = .slice a len cap) : (results fn tmps).run Try.prog W = .ok (.tuple #[r.val c, u]) W := by
  have c0 := h.c0
  have c1 := h.c1
  have c2 := h.c2
  have c3 := h.c3
  have c4 := h.c4
  have c5 := h.c5
  obtain ⟨a, len, cap, rfl⟩ := hc
  have ht2 : tmps[x]?.getD undef = .pointer (some ⟨g, 0, none⟩) := by simpa using ht
  have hx2 : tmps[y]?.getD undef = u := by simpa using hx
  simp [results, hr, ht2, hx2, go_sem, c0, c1, c2, c3, c4, c5, Rw.val]

theorem rw_results1 {fn : Func} {x : Nat} (hr : fn.results = #[.cell x 28]) {W : World} {g : Nat} {r : Rw} {c : Value} (h : RwBlk W g r c) (tmps : Array Value) (ht : tmps.getD x undef = .pointer (some ⟨g, 0, none⟩)) (hc : ∃ a len cap, c = .slice a len cap) : (results fn tmps).run Try.prog W = .ok (r.val c) W := by
  have c0 := h.c0
  have c1 := h.c1
  have c2 := h.c2
  have c3 := h.c3
  have c4 := h.c4
  have c5 := h.c5
  obtain ⟨a, len, cap, rfl⟩ := hc
  have ht2 : tmps[x]?.getD undef = .pointer (some ⟨g, 0, none⟩) := by simpa using ht
  simp [results, hr, ht2, go_sem, c0, c1, c2, c3, c4, c5, Rw.val]

theorem rw_end2 {fn : Func} {x y : Nat} (hres : fn.results = #[.cell x 28, .tmp y]) {W : World} {g : Nat} {r0 : Rw} {c0 : Value} (h : RwBlk W g r0 c0) (r : Rw) (c u : Value) (hc : ∃ a len cap, c = .slice a len cap) {A : Act} {R : Ending → World → Prop} (t2 : A.tmps.getD x undef = .pointer (some ⟨g, 0, none⟩)) (t3 : A.tmps.getD y undef = u) (hd : A.defers = [])
    (hR : R (.returned (.tuple #[r.val c, u])) (setRw W g r c)) : bodyPost Try.prog fn R Exit.ret A (setRw W g r c) := by
  have hr := setRw_blk h r c
  generalize setRw W g r c = W' at *
  exact bodyPost_ret (rw_results2 hres hr _ _ t2 t3 hc) hd hR

theorem rw_end1 {fn : Func} {x : Nat} (hres : fn.results = #[.cell x 28]) {W : World} {g : Nat} {r0 : Rw} {c0 : Value} (h : RwBlk W g r0 c0) (r : Rw) (c : Value) (hc : ∃ a len cap, c = .slice a len cap) {A : Act} {R : Ending → World → Prop} (t2 : A.tmps.getD x undef = .pointer (some ⟨g, 0, none⟩)) (hd : A.defers = [])
    (hR : R (.returned (r.val c)) (setRw W g r c)) : bodyPost Try.prog fn R Exit.ret A (setRw W g r c) := by
  have hr := setRw_blk h r c
  generalize setRw W g r c = W' at *
  exact bodyPost_ret (rw_results1 hres hr _ t2 hc) hd hR

theorem OwnsV.fsN {w : World} {base : Nat} {v : Value} {xs : List Nat} {n : Nat} (h : OwnsV 23 w base v (fVals xs)) (hx : ∀ x ∈ xs, x < 18446744073709551616) (hn : xs.length = n) (hb : n ≤ 1000000) : ∃ a cap, v = .slice a n cap ∧ Fs w a n cap xs := h.fs hx hn hb

theorem val_fits {xs : List Nat} (h : ∀ x ∈ xs, x < 18446744073709551616) : ∀ x ∈ xs.map Fl.val, x < 18446744073709551616 := by
  intro x hx
  obtain ⟨y, hy, rfl⟩ := List.mem_map.1 hx
  exact Fl.val_lt (h y hy)

theorem fVals_step {xs : List Nat} {k x : Nat} (hk : k < xs.length) (hx : x = xs.getD k 0) : fVals ((xs.map Fl.val).take (k + 1)) = fVals ((xs.map Fl.val).take k) ++ [.float .f64 (Fl.val x)] := by
  rw [List.take_succ_eq_append_getElem (by simpa using hk), hx]
  simp [fVals, List.getD, hk]

theorem key_val {k : Nat} (h : k = Fl.key k) : Fl.val k = k := by
  unfold Fl.key at h
  split at h
  · rename_i e
    rw [e] at h
    cases h
  · exact h.symm

theorem vals_same {xs : List Nat} (h : ∀ x ∈ xs, x = Fl.val x) : xs.map Fl.val = xs := by
  have : xs.map Fl.val = xs.map id := List.map_congr_left (fun x hx => (h x hx).symm)
  rw [this, List.map_id]

theorem putB_append (l m : List It) : putB (l ++ m) = putB l ++ putB m := by simp [putB]

theorem head_kinds (r : Rw) : r.head.map It.kind = headK := rfl
theorem num_kinds (xs : List Nat) : (xs.map numI).map It.kind = List.replicate xs.length 4 := by
  rw [List.map_map]
  apply List.ext_getElem
  · simp
  · intro i h1 h2
    simp [numI]

theorem dec_bytes {r : Rw} (hm : r.may = true) (hf : r.fits) : decB r.bytes = some r := by
  have hp := Rw.may_parts hm
  have hall := List.all_eq_true.1 (items_may hm)
  have hfits := items_fits hf hp.2.1
  have hh : ∀ i ∈ r.head, i.may = true ∧ i.x < 18446744073709551616 := fun i hi => ⟨hall i (by unfold Rw.items; simp [hi]), (hfits i (by unfold Rw.items; simp [hi])).2.2.1⟩
  have hc : ∀ i ∈ r.xs.map numI, i.may = true ∧ i.x < 18446744073709551616 := fun i hi => ⟨hall i (by unfold Rw.items; exact List.mem_append_right _ hi), (hfits i (by unfold Rw.items; exact List.mem_append_right _ hi)).2.2.1⟩
  have eb : r.bytes = putB r.head ++ putB (r.xs.map numI) := putB_append _ _
  have t1 := tks_put r.head r.bytes (putB (r.xs.map numI)) [] 0 hh eb
  rw [head_kinds, List.nil_append, Nat.zero_add] at t1
  have t2 := tks_put (r.xs.map numI) (r.bytes.drop (putB r.head).length) [] [] 0 hc (by rw [eb]; simp)
  rw [num_kinds, List.nil_append, Nat.zero_add] at t2
  have hv : (r.xs.map numI).map It.valued = r.xs.map numI := by
    rw [List.map_map]
    apply List.map_congr_left
    intro x hx
    have := hp.2.2.2.1 x hx
    simp only [Function.comp, It.valued, numI, ← this]
  rw [hv] at t2
  have hrow : rowOf (r.head.map It.valued) (r.xs.map numI) = r := by
    obtain ⟨key, dead, xs, wr, cell, no⟩ := r
    have hk := key_val hp.1
    simp only at hk
    unfold rowOf
    have e1 : (Rw.head ⟨key, dead, xs, wr, cell, no⟩).map It.valued = [⟨1, if dead then 1 else 0, 0, noS⟩, ⟨4, 0, key, noS⟩, ⟨3, wr, 0, noS⟩, ⟨2, cell, 0, noS⟩, ⟨3, no, 0, noS⟩, ⟨1, xs.length, 0, noS⟩] := by
      simp [Rw.head, It.valued, hk, val_zero]
    rw [e1]
    have e2 : (xs.map numI).map It.x = xs := by
      rw [List.map_map]
      have : (It.x ∘ numI) = id := by funext x; rfl
      rw [this, List.map_id]
    simp only [e2]
    cases dead <;> rfl
  have hn5 : ((r.head.map It.valued).getD 5 itD).n.toNat = r.xs.length := by
    show ((r.xs.length : Nat) : Int).toNat = _
    simp
  have hn0 : ¬ 1 < ((r.head.map It.valued).getD 0 itD).n := by
    show ¬ (1 : Int) < if r.dead = true then 1 else 0
    cases r.dead <;> decide
  unfold decB
  rw [t1]
  simp only
  rw [hn5, t2]
  simp only
  rw [if_neg, hrow]
  rintro (h | h | h)
  · rw [eb, List.length_append] at h
    omega
  · exact hn0 h
  · rw [hrow, hm] at h
    cases h

theorem Owns.cameN {w : World} {base : Nat} {v : Value} {xs : List Nat} {n : Nat} (h : Owns w base v xs) (hx : Bytes xs) (hn : xs.length = n) (hm : n ≤ 1000000) : ∃ a cap, v = .slice a n cap ∧ Came w a n cap xs := by
  subst hn
  obtain ⟨a, cap, hv, hbs, hn⟩ := h.bs hx
  refine ⟨a, cap, hv, hbs, hn, ?_, by omega⟩
  rcases h.2 with ⟨hv', h0'⟩ | ⟨g, cp, cur, hv', _, _, hle, _⟩
  · rw [h0']; exact Nat.zero_le _
  · rw [hv] at hv'
    simp only [Value.slice.injEq] at hv'
    rw [hv'.2.2]; exact hle

theorem load_rw (b : Nat) (r : Rw) (c : Value) (hc : ∃ a len cap, c = .slice a len cap) (w : World) (h : RwBlk w b r c) : (Instr.loadAt 28 (.pointer (some ⟨b, 0, none⟩))).run Try.prog w = .ok (r.val c) w := by
  have c0 := h.c0
  have c1 := h.c1
  have c2 := h.c2
  have c3 := h.c3
  have c4 := h.c4
  have c5 := h.c5
  obtain ⟨a, len, cap, rfl⟩ := hc
  simp [go_sem, c0, c1, c2, c3, c4, c5, Rw.val]

theorem sameSelf_any (r : Rw) (a : Option Addr) (len cap : Nat) (b : Option Addr) (len' cap' : Nat) (w : World) (h : Fs w a len cap r.xs) (h' : Fs w b len' cap' r.xs) :
    Calls Try.prog 48 #[r.val (.slice a len cap), r.val (.slice b len' cap')] w fun e w' => e = .returned (.bool true) ∧ Below w.heap.size w w' := by
  have := rowSame_any r r a len cap b len' cap' w h h'
  rw [Rw.same_self] at this
  exact this

theorem refSelf_any (r : Rw) (a : Option Addr) (len cap : Nat) (b : Option Addr) (len' cap' : Nat) (w : World) (h : Fs w a len cap r.xs) (h' : Fs w b len' cap' r.xs) :
    Calls Try.prog 28 #[r.val (.slice a len cap), r.val (.slice b len' cap')] w fun e w' => e = .returned (.bool true) ∧ Below w.heap.size w w' := by
  have := refRowSame_any r r a len cap b len' cap' w h h'
  rw [Rw.same_self] at this
  exact this

theorem mayIs_any (r : Rw) (m : Bool) (hm : r.may = m) (a : Option Addr) (len cap : Nat) (w : World) (h : Fs w a len cap r.xs) (hf : r.fits) :
    Calls Try.prog 29 #[r.val (.slice a len cap)] w fun e w' => e = .returned (.bool m) ∧ Below w.heap.size w w' := by
  have := refMayRow_any r a len cap w h hf
  rw [hm] at this
  exact this

theorem fs_nil (w : World) : Fs w none 0 0 [] := ⟨⟨rfl, (fun u hu => by cases hu), fun j hj => by omega⟩, (fun x hx => by cases hx), fun _ => rfl, Nat.le_refl _, by decide⟩


theorem chk_eq (m : Bool) : (chk m == 0) = m := by cases m <;> decide

theorem len_byts (a : Option Addr) (len cap : Nat) (ty : TypeId) (w : World) : (Builtin.len_ #[32] ty #[.slice a len cap]).run Try.prog w = .ok (.int .i64 (len : Nat)) w := by
  simp [go_sem]


theorem enters48 : ∀ args w, (callFunc 48 args).run Try.prog w = .ok (.enter 48 args) w := Pl.enters Try.func48 (by kernel_rfl) (by kernel_rfl)

theorem enters28 : ∀ args w, (callFunc 28 args).run Try.prog w = .ok (.enter 28 args) w := Pl.enters Try.func28 (by kernel_rfl) (by kernel_rfl)

theorem enters29 : ∀ args w, (callFunc 29 args).run Try.prog w = .ok (.enter 29 args) w := Pl.enters Try.func29 (by kernel_rfl) (by kernel_rfl)

theorem enters73 : ∀ args w, (callFunc 73 args).run Try.prog w = .ok (.enter 73 args) w := Pl.enters Try.func73 (by kernel_rfl) (by kernel_rfl)

theorem enters37 : ∀ args w, (callFunc 37 args).run Try.prog w = .ok (.enter 37 args) w := Pl.enters Try.func37 (by kernel_rfl) (by kernel_rfl)

end Go.Proofs.Ytnhhapipadiffaa
