/-
  Layer 8 without memory: a leaf's items, its text, its page; which leaf a text is.
-/
import Derived.Test.YtgieigpbbkeonaaLgK
import Derived.Test.YtgieigpbbkeonaaTalA
import Derived.Test.YtgieigpbbkeonaaRep
namespace Go.Proofs.Ytgieigpbbkeonaa

def itB (n : Nat) : It := ⟨1, ((n : Nat) : Int), 0, noS⟩
def itF (n : Int) : It := ⟨3, n, 0, noS⟩
def itT (b : List Nat) : It := ⟨5, 0, 0, bstr b⟩
theorem itB_may {n : Nat} (h : n < 256) : (itB n).may = true := by
  have h1 : (0 : Int) ≤ ((n : Nat) : Int) := by omega
  have h2 : ((n : Nat) : Int) < 256 := by omega
  simp [itB, It.may, noS_list, h2]
theorem itF_may {n : Int} (h1 : 0 ≤ n) (h2 : n ≤ 2147483647) : (itF n).may = true := by
  have h3 : n < 2147483648 := by omega
  simp [itF, It.may, noS_list, h1, h3]
theorem itT_may {b : List Nat} (h2 : b.length ≤ 255) : (itT b).may = true := by
  have h3 : (bstr b).size < 256 := by rw [bstr_size b]; omega
  simp [itT, It.may, h3]
theorem itB_bytes {n : Nat} (h : n < 256) : (itB n).bytes = [n] := by
  simp [itB, It.bytes, bigB, Nat.mod_eq_of_lt h]
theorem itF_bytes (n : Int) : (itF n).bytes = bigB n.toNat 4 := by simp [itF, It.bytes]
theorem itT_bytes {b : List Nat} (h : Bytes b) : (itT b).bytes = b.length :: b := by
  have e : (itT b).bytes = (bstr b).size :: strB (bstr b) := by simp [itT, It.bytes]
  rw [e, bstr_size b, strB_bstr h]
theorem itB_val (n : Nat) : (itB n).valued = itB n := by simp [itB, It.valued, val_zero]
theorem itF_val (n : Int) : (itF n).valued = itF n := by simp [itF, It.valued, val_zero]
theorem itT_val (b : List Nat) : (itT b).valued = itT b := by simp [itT, It.valued, val_zero]

/-- A leaf's items. -/
def headL (t : List Int) (n : Nat) : List It := itB 76 :: (t.map itF ++ [itB n])
def itemsL (t : List Int) (s : List (List Nat)) : List It := headL t s.length ++ s.map itT
theorem putB_append (l m : List It) : putB (l ++ m) = putB l ++ putB m := by simp [putB]
theorem putB_cons (i : It) (m : List It) : putB (i :: m) = i.bytes ++ putB m := by simp [putB]
/-- Slots that are rows of bytes, not too long. -/
def SlB (s : List (List Nat)) : Prop := ∀ b ∈ s, Bytes b ∧ b.length ≤ 255
theorem rows_len : ∀ {s : List (List Nat)}, SlB s → (putB (s.map itT)).length = needS s
  | [], _ => rfl
  | b :: r, h => by
    have h1 := h b (List.mem_cons_self ..)
    have h2 := rows_len (s := r) (fun x hx => h x (List.mem_cons_of_mem _ hx))
    rw [List.map_cons, putB_cons, List.length_append, itT_bytes h1.1, h2]
    simp [needS]
    omega
theorem four_list {t : List Int} (h : t.length = 4) : ∃ a b c d, t = [a, b, c, d] := by
  match t, h with
  | [a, b, c, d], _ => exact ⟨a, b, c, d, rfl⟩
theorem head_len {t : List Int} (h : t.length = 4) {n : Nat} (hn : n < 256) : (putB (headL t n)).length = 18 := by
  obtain ⟨a, b, c, d, rfl⟩ := four_list h
  simp [headL, putB, itB_bytes hn, itB_bytes (show 76 < 256 by decide), itF_bytes, bigB_length]
/-- The bytes of a leaf, ahead of its sum. -/
def text508 (t : List Int) (s : List (List Nat)) : List Nat := putB (itemsL t s) ++ List.replicate (508 - need s) 0
def pageL (t : List Int) (s : List (List Nat)) : List Nat := fourB (Ta.sum (text508 t s)) ++ text508 t s
/-- A leaf that may be, of bytes. -/
structure OkL (t : List Int) (s : List (List Nat)) : Prop where
  may : MayL ⟨t, s⟩
  by_ : ∀ b ∈ s, Bytes b
theorem OkL.slb {t : List Int} {s : List (List Nat)} (h : OkL t s) : SlB s := fun b hb => by
  obtain ⟨i, hi, e⟩ := sl_mem hb
  exact ⟨h.by_ b hb, by rw [← e]; exact h.may.slots.2.1 i hi⟩
theorem OkL.n {t : List Int} {s : List (List Nat)} (h : OkL t s) : s.length < 256 := by have := h.may.slots.1; simp only at this; omega
theorem OkL.put_len {t : List Int} {s : List (List Nat)} (h : OkL t s) : (putB (itemsL t s)).length = need s := by
  rw [itemsL, putB_append, List.length_append, head_len h.may.itl.1 h.n, rows_len h.slb]
  rfl
theorem OkL.len {t : List Int} {s : List (List Nat)} (h : OkL t s) : (text508 t s).length = 508 := by
  have := h.may.need
  simp only at this
  rw [text508, List.length_append, h.put_len, List.length_replicate]
  omega
theorem OkL.items {t : List Int} {s : List (List Nat)} (h : OkL t s) : ∀ i ∈ itemsL t s, i.may = true ∧ i.x < 18446744073709551616 := by
  intro i hi
  have ht := h.may.itl
  obtain ⟨a, b, c, d, rfl⟩ := four_list ht.1
  have h0 := ht.2.1 0 (by decide)
  have h1 := ht.2.1 1 (by decide)
  have h2 := ht.2.1 2 (by decide)
  have h3 := ht.2.1 3 (by decide)
  rcases List.mem_append.1 hi with hi | hi
  · simp only [headL, List.map_cons, List.map_nil, List.cons_append, List.nil_append, List.mem_cons, List.not_mem_nil, or_false] at hi
    rcases hi with rfl | rfl | rfl | rfl | rfl | rfl
    · exact ⟨itB_may (by decide), by decide⟩
    · exact ⟨itF_may h0.1 h0.2, by show 0 < 18446744073709551616; decide⟩
    · exact ⟨itF_may h1.1 h1.2, by show 0 < 18446744073709551616; decide⟩
    · exact ⟨itF_may h2.1 h2.2, by show 0 < 18446744073709551616; decide⟩
    · exact ⟨itF_may h3.1 h3.2, by show 0 < 18446744073709551616; decide⟩
    · exact ⟨itB_may h.n, by show 0 < 18446744073709551616; decide⟩
  · obtain ⟨b', hb, rfl⟩ := List.mem_map.1 hi
    have := h.slb b' hb
    exact ⟨itT_may this.2, by show 0 < 18446744073709551616; decide⟩
theorem OkL.all {t : List Int} {s : List (List Nat)} (h : OkL t s) : (itemsL t s).all It.may = true := List.all_eq_true.2 (fun i hi => (h.items i hi).1)
theorem OkL.bytes {t : List Int} {s : List (List Nat)} (h : OkL t s) : Bytes (text508 t s) := by
  have h1 := (putB_len (l := itemsL t s) (fun i hi => (h.items i hi).1)).2
  intro x hx
  rcases List.mem_append.1 hx with hx | hx
  · exact h1 x hx
  · have := List.eq_of_mem_replicate hx
    omega

/-! ### Reading -/
def headK : List Int := [1, 3, 3, 3, 3, 1]
theorem head_kinds {t : List Int} (h : t.length = 4) (n : Nat) : (headL t n).map It.kind = headK := by
  obtain ⟨a, b, c, d, rfl⟩ := four_list h
  rfl
theorem head_valued (t : List Int) (n : Nat) : (headL t n).map It.valued = headL t n := by
  simp [headL, itB_val, Function.comp_def, itF_val]
theorem rows_valued (s : List (List Nat)) : (s.map itT).map It.valued = s.map itT := by simp [Function.comp_def, itT_val]
theorem rows_kinds (s : List (List Nat)) : (s.map itT).map It.kind = List.replicate s.length 5 := by
  rw [List.map_map]
  exact List.map_eq_replicate_iff.2 (fun b _ => rfl)
/-- What a leaf's text yields. -/
theorem got_head {t : List Int} {s : List (List Nat)} (h : OkL t s) : tks (text508 t s) headK [] 0 = some (headL t s.length, 18) := by
  have := tks_put (headL t s.length) (text508 t s) (putB (s.map itT) ++ List.replicate (508 - need s) 0) [] 0 (fun i hi => h.items i (List.mem_append_left _ hi)) (by rw [List.drop_zero, text508, itemsL, putB_append, List.append_assoc])
  rw [head_kinds h.may.itl.1, head_valued, head_len h.may.itl.1 h.n] at this
  simpa using this
theorem got_drop {t : List Int} {s : List (List Nat)} (h : OkL t s) : (text508 t s).drop 18 = putB (s.map itT) ++ List.replicate (508 - need s) 0 := by
  rw [text508, itemsL, putB_append, List.append_assoc]
  have := head_len h.may.itl.1 h.n
  rw [← this, List.drop_left]
theorem got_rows {t : List Int} {s : List (List Nat)} (h : OkL t s) : tks ((text508 t s).drop 18) (List.replicate s.length 5) [] 0 = some (s.map itT, needS s) := by
  have := tks_put (s.map itT) ((text508 t s).drop 18) (List.replicate (508 - need s) 0) [] 0 (fun i hi => h.items i (List.mem_append_right _ hi)) (by rw [List.drop_zero, got_drop h])
  rw [rows_kinds, rows_valued, rows_len h.slb] at this
  simpa using this
theorem got_rest {t : List Int} {s : List (List Nat)} (h : OkL t s) : (text508 t s).drop (18 + needS s) = List.replicate (508 - need s) 0 := by
  rw [← List.drop_drop, got_drop h]
  have := rows_len h.slb
  rw [← this, List.drop_left]
theorem got_all {t : List Int} {s : List (List Nat)} (h : OkL t s) : tks (text508 t s) (headK ++ List.replicate s.length 5) [] 0 = some (itemsL t s, need s) := by
  have := tks_put (itemsL t s) (text508 t s) (List.replicate (508 - need s) 0) [] 0 h.items (by rw [List.drop_zero, text508])
  rw [itemsL, List.map_append, List.map_append, head_kinds h.may.itl.1, rows_kinds, head_valued, rows_valued] at this
  rw [← itemsL, h.put_len] at this
  simpa using this
theorem got_17 {t : List Int} {s : List (List Nat)} (h : OkL t s) : (text508 t s).getD 17 0 = s.length := by
  obtain ⟨a, b, c, d, rfl⟩ := four_list h.may.itl.1
  have e : text508 [a, b, c, d] s = ([76] ++ bigB a.toNat 4 ++ bigB b.toNat 4 ++ bigB c.toNat 4 ++ bigB d.toNat 4) ++ (s.length :: (putB (s.map itT) ++ List.replicate (508 - need s) 0)) := by
    simp [text508, itemsL, headL, putB, itB_bytes h.n, itB_bytes (show 76 < 256 by decide), itF_bytes]
  rw [e, List.getD, List.getElem?_append_right (by simp [bigB_length])]
  simp [bigB_length]
theorem itT_inj {a b : List Nat} (ha : Bytes a) (hb : Bytes b) (h : itT a = itT b) : a = b := by
  have : bstr a = bstr b := congrArg It.s h
  exact bstr_inj ha hb this
theorem rows_inj : ∀ {s r : List (List Nat)}, (∀ b ∈ s, Bytes b) → (∀ b ∈ r, Bytes b) → s.map itT = r.map itT → s = r
  | [], [], _, _, _ => rfl
  | [], b :: r, _, _, h => by simp at h
  | a :: s, [], _, _, h => by simp at h
  | a :: s, b :: r, ha, hb, h => by
    rw [List.map_cons, List.map_cons] at h
    have h1 := (List.cons.inj h).1
    have h2 := (List.cons.inj h).2
    rw [itT_inj (ha a (List.mem_cons_self ..)) (hb b (List.mem_cons_self ..)) h1, rows_inj (fun x hx => ha x (List.mem_cons_of_mem _ hx)) (fun x hx => hb x (List.mem_cons_of_mem _ hx)) h2]
theorem head_inj {t r : List Int} {n m : Nat} (ht : t.length = 4) (hr : r.length = 4) (h : headL t n = headL r m) : t = r := by
  obtain ⟨a, b, c, d, rfl⟩ := four_list ht
  obtain ⟨a', b', c', d', rfl⟩ := four_list hr
  simp only [headL, List.map_cons, List.map_nil, List.cons_append, List.nil_append, List.cons.injEq, and_true, true_and] at h
  have f : ∀ {p q : Int}, itF p = itF q → p = q := fun e => congrArg It.n e
  rw [f h.1, f h.2.1, f h.2.2.1, f h.2.2.2.1]
theorem got_one {t r : List Int} {s q : List (List Nat)} (h : OkL t s) (k : OkL r q) (e : text508 t s = text508 r q) : t = r ∧ s = q := by
  have h1 := got_head h
  have k1 := got_head k
  rw [e, k1] at h1
  have eh : headL r q.length = headL t s.length := by have := Option.some.inj h1; exact congrArg Prod.fst this
  have el : q.length = s.length := by have := got_17 h; rw [e, got_17 k] at this; exact this
  have h2 := got_rows h
  have k2 := got_rows k
  rw [e, ← el, k2] at h2
  have er : q.map itT = s.map itT := by have := Option.some.inj h2; exact congrArg Prod.fst this
  exact ⟨(head_inj k.may.itl.1 h.may.itl.1 eh).symm, (rows_inj k.by_ h.by_ er).symm⟩

/-- An item as it is read. -/
def Canon (i : It) : Prop := (i.kind = 1 ∧ ∃ n : Nat, n < 256 ∧ i = itB n) ∨ (i.kind = 3 ∧ ∃ n : Nat, n < 2147483648 ∧ i = itF ((n : Nat) : Int)) ∨ (i.kind = 5 ∧ ∃ b, Bytes b ∧ b.length ≤ 255 ∧ i = itT b)
theorem numB_one (x : Nat) : numB [x] = x := by simp [numB]
theorem tk_back {ys : List Nat} (hy : Bytes ys) {k : Int} (hk : k = 1 ∨ k = 3 ∨ k = 5) {i : It} {n : Nat} (h : tk ys k = some (i, n)) : i.kind = k ∧ Canon i ∧ i.bytes = ys.take n ∧ n ≤ ys.length := by
  unfold tk at h
  rcases hk with rfl | rfl | rfl
  · rw [if_neg (by decide), if_neg (by decide)] at h
    have hc : cntN 1 = 1 := rfl
    rw [hc] at h
    split at h
    · rename_i h1
      split at h
      · rename_i h2
        simp only [Option.some.injEq, Prod.mk.injEq] at h
        obtain ⟨rfl, rfl⟩ := h
        have hb : Bytes (ys.take 1) := fun x hx => hy x (List.mem_of_mem_take hx)
        have hlt := numB_lt hb
        have hl1 : (ys.take 1).length = 1 := by rw [List.length_take]; omega
        rw [hl1] at hlt
        have e := bigB_numB hb
        rw [hl1] at e
        refine ⟨rfl, .inl ⟨rfl, numB (ys.take 1), by simpa using hlt, rfl⟩, ?_, h1⟩
        show It.bytes ⟨1, ((numB (ys.take 1) : Nat) : Int), 0, noS⟩ = _
        rw [show It.bytes ⟨1, ((numB (ys.take 1) : Nat) : Int), 0, noS⟩ = bigB (numB (ys.take 1)) 1 by simp [It.bytes], e]
      · cases h
    · cases h
  · rw [if_neg (by decide), if_neg (by decide)] at h
    have hc : cntN 3 = 4 := rfl
    rw [hc] at h
    split at h
    · rename_i h1
      split at h
      · rename_i h2
        simp only [Option.some.injEq, Prod.mk.injEq] at h
        obtain ⟨rfl, rfl⟩ := h
        have hb : Bytes (ys.take 4) := fun x hx => hy x (List.mem_of_mem_take hx)
        have hl1 : (ys.take 4).length = 4 := by rw [List.length_take]; omega
        have e := bigB_numB hb
        rw [hl1] at e
        have hm : maxN 3 = 2147483647 := rfl
        rw [hm] at h2
        refine ⟨rfl, .inr (.inl ⟨rfl, numB (ys.take 4), by omega, rfl⟩), ?_, h1⟩
        rw [show It.bytes ⟨3, ((numB (ys.take 4) : Nat) : Int), 0, noS⟩ = bigB (numB (ys.take 4)) 4 by simp [It.bytes], e]
      · cases h
    · cases h
  · rw [if_neg (by decide), if_pos rfl] at h
    split at h
    · rename_i h1
      split at h
      · rename_i h2
        simp only [Option.some.injEq, Prod.mk.injEq] at h
        obtain ⟨rfl, rfl⟩ := h
        match ys, h1 with
        | y :: r, _ =>
          have hn : numB ((y :: r).take 1) = y := by rw [List.take_succ_cons, List.take_zero, numB_one]
          rw [hn] at h2 ⊢
          have hd : (y :: r).drop 1 = r := rfl
          rw [hd]
          have hyr : y ≤ r.length := by simp at h2; omega
          have hb : Bytes (r.take y) := fun x hx => hy x (List.mem_cons_of_mem _ (List.mem_of_mem_take hx))
          have hl : (r.take y).length = y := by rw [List.length_take]; omega
          have hy256 : y < 256 := hy y (List.mem_cons_self ..)
          refine ⟨rfl, .inr (.inr ⟨rfl, r.take y, hb, by omega, rfl⟩), ?_, h2⟩
          have e := itT_bytes hb
          rw [hl] at e
          rw [show It.bytes ⟨5, 0, 0, bstr (r.take y)⟩ = (itT (r.take y)).bytes from rfl, e, Nat.add_comm, List.take_succ_cons]
      · cases h
    · cases h
theorem tks_back {xs : List Nat} (hx : Bytes xs) : ∀ {ks : List Int} (_ : ∀ k ∈ ks, k = 1 ∨ k = 3 ∨ k = 5) {acc l : List It} {q p : Nat}, q ≤ xs.length → tks xs ks acc q = some (l, p) → ∃ m, l = acc ++ m ∧ m.map It.kind = ks ∧ (∀ i ∈ m, Canon i) ∧ q ≤ p ∧ p ≤ xs.length ∧ putB m = (xs.drop q).take (p - q)
  | [], _, acc, l, q, p, hq, h => by
    simp only [tks, Option.some.injEq, Prod.mk.injEq] at h
    obtain ⟨rfl, rfl⟩ := h
    exact ⟨[], by simp, rfl, fun _ h => (by cases h), Nat.le_refl _, hq, by simp [putB]⟩
  | k :: ks, hk, acc, l, q, p, hq, h => by
    unfold tks at h
    cases ht : tk (xs.drop q) k with
    | none => rw [ht] at h; cases h
    | some z =>
      obtain ⟨i, n⟩ := z
      rw [ht] at h
      simp only at h
      have hb : Bytes (xs.drop q) := fun x hx' => hx x (List.mem_of_mem_drop hx')
      obtain ⟨h1, h2, h3, h4⟩ := tk_back hb (hk k (List.mem_cons_self ..)) ht
      rw [List.length_drop] at h4
      obtain ⟨m, hl, hm, hc, hqp, hpx, hput⟩ := tks_back hx (fun k hk' => hk k (List.mem_cons_of_mem _ hk')) (by omega) h
      refine ⟨i :: m, by rw [hl, List.append_assoc]; rfl, by rw [List.map_cons, h1, hm], fun j hj => ?_, by omega, hpx, ?_⟩
      · rcases List.mem_cons.1 hj with rfl | hj
        · exact h2
        · exact hc j hj
      · rw [putB_cons, h3, hput, ← List.drop_drop]
        have e : p - q = n + (p - (q + n)) := by omega
        rw [e, List.take_add]
theorem tks_append (xs : List Nat) : ∀ (ks js : List Int) (acc : List It) (q : Nat), tks xs (ks ++ js) acc q = (tks xs ks acc q).bind fun z => tks xs js z.1 z.2
  | [], js, acc, q => rfl
  | k :: ks, js, acc, q => by
    simp only [List.cons_append, tks]
    cases tk (xs.drop q) k with
    | none => rfl
    | some z => exact tks_append xs ks js _ _
theorem tks_shift (xs : List Nat) (q0 : Nat) (a0 : List It) : ∀ (ks : List Int) (acc : List It) (q : Nat), tks xs ks (a0 ++ acc) (q0 + q) = (tks (xs.drop q0) ks acc q).map fun z => (a0 ++ z.1, q0 + z.2)
  | [], acc, q => rfl
  | k :: ks, acc, q => by
    simp only [tks]
    rw [← List.drop_drop]
    cases tk ((xs.drop q0).drop q) k with
    | none => rfl
    | some z =>
      have := tks_shift xs q0 a0 ks (acc ++ [z.1]) (q + z.2)
      rw [← List.append_assoc, ← Nat.add_assoc] at this
      exact this

/-- A text is a leaf's. -/
def Got (x : List Nat) (t : List Int) (s : List (List Nat)) : Prop := OkL t s ∧ x = text508 t s
theorem Got.one {x : List Nat} {t r : List Int} {s q : List (List Nat)} (h : Got x t s) (k : Got x r q) : t = r ∧ s = q := got_one h.1 k.1 (h.2.symm.trans k.2)
theorem canon_b {i : It} (h : Canon i) (hk : i.kind = 1) : ∃ n : Nat, n < 256 ∧ i = itB n := by
  rcases h with ⟨_, h⟩ | ⟨e, _⟩ | ⟨e, _⟩
  · exact h
  · rw [hk] at e; cases e
  · rw [hk] at e; cases e
theorem canon_f {i : It} (h : Canon i) (hk : i.kind = 3) : ∃ n : Nat, n < 2147483648 ∧ i = itF ((n : Nat) : Int) := by
  rcases h with ⟨e, _⟩ | ⟨_, h⟩ | ⟨e, _⟩
  · rw [hk] at e; cases e
  · exact h
  · rw [hk] at e; cases e
theorem canon_t {i : It} (h : Canon i) (hk : i.kind = 5) : ∃ b, Bytes b ∧ b.length ≤ 255 ∧ i = itT b := by
  rcases h with ⟨e, _⟩ | ⟨e, _⟩ | ⟨_, h⟩
  · rw [hk] at e; cases e
  · rw [hk] at e; cases e
  · exact h
/-- What is read ahead of the slots. -/
theorem head_is {x : List Nat} (hx : Bytes x) {h : List It} {q : Nat} (e : tks x headK [] 0 = some (h, q)) : ∃ (m a b c d n : Nat), m < 256 ∧ n < 256 ∧ a < 2147483648 ∧ b < 2147483648 ∧ c < 2147483648 ∧ d < 2147483648 ∧ h = [itB m, itF ((a : Nat) : Int), itF ((b : Nat) : Int), itF ((c : Nat) : Int), itF ((d : Nat) : Int), itB n] ∧ q = 18 ∧ 18 ≤ x.length ∧ putB h = x.take 18 := by
  obtain ⟨l, hl, hm, hc, _, hp, hput⟩ := tks_back hx (ks := headK) (by decide) (Nat.zero_le _) e
  rw [List.nil_append] at hl
  subst hl
  rw [List.drop_zero, Nat.sub_zero] at hput
  have hlen : h.length = 6 := by have := congrArg List.length hm; simpa [headK] using this
  match h, hlen with
  | [i0, i1, i2, i3, i4, i5], _ =>
    simp only [headK, List.map_cons, List.map_nil, List.cons.injEq, and_true] at hm
    obtain ⟨k0, k1, k2, k3, k4, k5⟩ := hm
    obtain ⟨m, hm', rfl⟩ := canon_b (hc i0 (by simp)) k0
    obtain ⟨a, ha, rfl⟩ := canon_f (hc i1 (by simp)) k1
    obtain ⟨b, hb, rfl⟩ := canon_f (hc i2 (by simp)) k2
    obtain ⟨c, hc', rfl⟩ := canon_f (hc i3 (by simp)) k3
    obtain ⟨d, hd, rfl⟩ := canon_f (hc i4 (by simp)) k4
    obtain ⟨n, hn, rfl⟩ := canon_b (hc i5 (by simp)) k5
    have hl18 : (putB [itB m, itF ((a : Nat) : Int), itF ((b : Nat) : Int), itF ((c : Nat) : Int), itF ((d : Nat) : Int), itB n]).length = 18 := by
      simp [putB, itB_bytes hm', itB_bytes hn, itF_bytes, bigB_length]
    have hq : q = 18 := by
      have := congrArg List.length hput
      rw [hl18, List.length_take] at this
      omega
    exact ⟨m, a, b, c, d, n, hm', hn, ha, hb, hc', hd, rfl, hq, by omega, by rw [hput, hq]⟩
/-- What is read as slots. -/
theorem rows_is {x : List Nat} (hx : Bytes x) {n : Nat} {r : List It} {p : Nat} (e : tks x (List.replicate n 5) [] 0 = some (r, p)) : ∃ s : List (List Nat), r = s.map itT ∧ s.length = n ∧ SlB s ∧ p = needS s ∧ p ≤ x.length ∧ putB (s.map itT) = x.take p := by
  obtain ⟨l, hl, hm, hc, _, hp, hput⟩ := tks_back hx (ks := List.replicate n 5) (fun k hk => .inr (.inr (List.eq_of_mem_replicate hk))) (Nat.zero_le _) e
  rw [List.nil_append] at hl
  subst hl
  rw [List.drop_zero, Nat.sub_zero] at hput
  have hex : ∀ (r : List It), (∀ i ∈ r, Canon i) → (∀ i ∈ r, i.kind = 5) → ∃ s : List (List Nat), r = s.map itT ∧ SlB s := by
    intro r
    induction r with
    | nil => exact fun _ _ => ⟨[], rfl, fun _ h => (by cases h)⟩
    | cons i r ih =>
      intro h1 h2
      obtain ⟨b, hb, hl, rfl⟩ := canon_t (h1 i (List.mem_cons_self ..)) (h2 i (List.mem_cons_self ..))
      obtain ⟨s, rfl, hs⟩ := ih (fun j hj => h1 j (List.mem_cons_of_mem _ hj)) (fun j hj => h2 j (List.mem_cons_of_mem _ hj))
      refine ⟨b :: s, rfl, fun y hy => ?_⟩
      rcases List.mem_cons.1 hy with rfl | hy
      · exact ⟨hb, hl⟩
      · exact hs y hy
  obtain ⟨s, rfl, hs⟩ := hex r hc (fun i hi => by
    have : i.kind ∈ r.map It.kind := List.mem_map_of_mem hi
    rw [hm] at this
    exact List.eq_of_mem_replicate this)
  have hsl : s.length = n := by have := congrArg List.length hm; simpa using this
  have hpn : p = needS s := by
    have := congrArg List.length hput
    rw [rows_len hs, List.length_take] at this
    omega
  exact ⟨s, rfl, hsl, hs, hpn, hp, hput⟩
theorem nul_replicate : ∀ {x : List Nat}, nul x = true → x = List.replicate x.length 0
  | [], _ => rfl
  | a :: r, h => by
    unfold nul at h
    rw [List.all_cons, Bool.and_eq_true] at h
    have h1 : a = 0 := by simpa using h.1
    rw [h1, List.length_cons, List.replicate_succ, ← nul_replicate (x := r) h.2]
/-- What was read, and is followed by noughts, is a leaf's text. -/
theorem got_make {x : List Nat} (hx : Bytes x) (hl : x.length = 508) {a b c d : Nat} {s : List (List Nat)} (h1 : tks x headK [] 0 = some ([itB 76, itF ((a : Nat) : Int), itF ((b : Nat) : Int), itF ((c : Nat) : Int), itF ((d : Nat) : Int), itB s.length], 18)) (h2 : tks (x.drop 18) (List.replicate s.length 5) [] 0 = some (s.map itT, needS s)) (h3 : nul (x.drop (18 + needS s)) = true) (hs : SlB s) (hm : MayL ⟨[((a : Nat) : Int), ((b : Nat) : Int), ((c : Nat) : Int), ((d : Nat) : Int)], s⟩) : Got x [((a : Nat) : Int), ((b : Nat) : Int), ((c : Nat) : Int), ((d : Nat) : Int)] s := by
  have hok : OkL [((a : Nat) : Int), ((b : Nat) : Int), ((c : Nat) : Int), ((d : Nat) : Int)] s := ⟨hm, fun b hb => (hs b hb).1⟩
  refine ⟨hok, ?_⟩
  obtain ⟨_, _, _, _, _, _, _, _, _, _, _, _, _, _, hl18, hput⟩ := head_is hx h1
  have hx18 : Bytes (x.drop 18) := fun y hy => hx y (List.mem_of_mem_drop hy)
  obtain ⟨s', e', _, hs', hp', hple, hput2⟩ := rows_is hx18 h2
  have es : s' = s := (rows_inj (fun b hb => (hs b hb).1) (fun b hb => (hs' b hb).1) e').symm
  subst es
  rw [List.length_drop] at hple
  have hz := nul_replicate h3
  rw [List.length_drop] at hz
  have hn : need s' = 18 + needS s' := rfl
  have e1 : x = x.take 18 ++ ((x.drop 18).take (needS s') ++ x.drop (18 + needS s')) := by
    rw [← List.drop_drop, List.take_append_drop, List.take_append_drop]
  rw [text508, itemsL, putB_append, List.append_assoc]
  conv => lhs; rw [e1]
  rw [← hput2, hz, hl, ← hput, hn]
  rfl
/-- Sealed bytes of a leaf's text are its page. -/
theorem sealed_page {b : List Nat} (hs : Sealed b) {t : List Int} {s : List (List Nat)} : b.drop 4 = text508 t s ↔ b = pageL t s := by
  unfold Sealed at hs
  constructor
  · intro h
    rw [← hs, h]
    rfl
  · intro h
    rw [h]
    unfold pageL
    rw [List.drop_append_of_le_length (by simp [fourB])]
    simp [fourB]
theorem page_sealed (t : List Int) (s : List (List Nat)) : Sealed (pageL t s) := by
  unfold Sealed
  have e : (pageL t s).drop 4 = text508 t s := by
    unfold pageL
    rw [List.drop_append_of_le_length (by simp [fourB])]
    simp [fourB]
  rw [e]
  rfl
end Go.Proofs.Ytgieigpbbkeonaa
