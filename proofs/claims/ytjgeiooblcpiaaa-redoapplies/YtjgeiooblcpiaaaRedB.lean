/-
  Layer 6 without memory: images behind a group: a stable sort of both, of each page the last one kept, is the document's putting one by one. No program is named here.
-/
import Derived.Test.YtjgeiooblcpiaaaRedA
namespace Go.Proofs.Ytjgeiooblcpiaaa
namespace Ap
variable {α : Type} (p : α → Int)

/-- One put in its place among the rising: it takes the place of its own page. -/
def put : List α → α → List α
  | [], m => [m]
  | x :: r, m => if p m ≤ p x then (if p x = p m then m :: r else m :: x :: r) else x :: put r m

/-- One more, behind all that are not above it. -/
def ins : List α → α → List α
  | [], m => [m]
  | x :: r, m => if p m < p x then m :: x :: r else x :: ins r m

def sort (l : List α) : List α := l.foldl (ins p) []

/-- Of neighbours of one page the last is kept. -/
def dedup : List α → List α
  | [] => []
  | [x] => [x]
  | x :: y :: r => if p y = p x then dedup (y :: r) else x :: dedup (y :: r)

/-- By rising page, some may be the same. -/
def Rising : List α → Prop
  | [] => True
  | x :: r => (∀ y ∈ r, p x ≤ p y) ∧ Rising r
/-- By rising page, none the same. -/
def Steep : List α → Prop
  | [] => True
  | x :: r => (∀ y ∈ r, p x < p y) ∧ Steep r

theorem Steep.rising : ∀ {l : List α}, Steep p l → Rising p l
  | [], _ => trivial
  | _ :: _, h => ⟨fun y hy => Int.le_of_lt (h.1 y hy), Steep.rising h.2⟩

theorem mem_ins : ∀ (l : List α) (m y : α), y ∈ ins p l m ↔ y = m ∨ y ∈ l
  | [], m, y => by simp [ins]
  | x :: r, m, y => by
    unfold ins
    split
    · simp
    · simp [mem_ins r m y]
      constructor
      · rintro (h | h | h)
        · exact .inr (.inl h)
        · exact .inl h
        · exact .inr (.inr h)
      · rintro (h | h | h)
        · exact .inr (.inl h)
        · exact .inl h
        · exact .inr (.inr h)

theorem ins_rising : ∀ {l : List α} (m : α), Rising p l → Rising p (ins p l m)
  | [], m, _ => ⟨fun _ h => (by cases h), trivial⟩
  | x :: r, m, h => by
    unfold ins
    split
    · rename_i hm
      refine ⟨?_, h⟩
      intro y hy
      rcases List.mem_cons.1 hy with rfl | hy
      · exact Int.le_of_lt hm
      · have := h.1 y hy
        omega
    · rename_i hm
      refine ⟨?_, ins_rising m h.2⟩
      intro y hy
      rcases (mem_ins p r m y).1 hy with rfl | hy
      · omega
      · exact h.1 y hy

/-- A last one that is above all goes to the end. -/
theorem ins_last : ∀ {l : List α} {m : α}, (∀ y ∈ l, p y ≤ p m) → ins p l m = l ++ [m]
  | [], _, _ => rfl
  | x :: r, m, h => by
    have := h x (by simp)
    unfold ins
    rw [if_neg (by omega), ins_last (fun y hy => h y (by simp [hy]))]
    rfl

theorem foldl_ins_rising : ∀ (l s : List α), (∀ x ∈ s, ∀ y ∈ l, p x ≤ p y) → Rising p l → l.foldl (ins p) s = s ++ l
  | [], s, _, _ => by simp
  | m :: r, s, h, hr => by
    rw [List.foldl_cons, ins_last p (fun y hy => h y hy m (by simp)), foldl_ins_rising r]
    · simp
    · intro x hx y hy
      rcases List.mem_append.1 hx with hx | hx
      · exact h x hx y (by simp [hy])
      · rw [List.mem_singleton.1 hx]
        exact hr.1 y hy
    · exact hr.2

theorem sort_rising {l : List α} (h : Rising p l) : sort p l = l := by
  unfold sort
  rw [foldl_ins_rising p l [] (fun x hx => by cases hx) h]
  rfl

theorem dedup_head (x : α) (l : List α) : ∃ z r, dedup p (x :: l) = z :: r ∧ (Rising p (x :: l) → p z = p x ∨ p x < p z) := by
  induction l generalizing x with
  | nil => exact ⟨x, [], rfl, fun _ => .inl rfl⟩
  | cons y r ih =>
    obtain ⟨z, r', hz, hp⟩ := ih y
    unfold dedup
    split
    · rename_i he
      exact ⟨z, r', hz, fun h => by rw [← he]; exact hp h.2⟩
    · exact ⟨x, _, rfl, fun _ => .inl rfl⟩

theorem dedup_mem : ∀ (l : List α) (y : α), y ∈ dedup p l → y ∈ l
  | [], _, h => h
  | [_], _, h => h
  | x :: y :: r, z, h => by
    unfold dedup at h
    split at h
    · exact List.mem_cons_of_mem _ (dedup_mem (y :: r) z h)
    · rcases List.mem_cons.1 h with rfl | h
      · simp
      · exact List.mem_cons_of_mem _ (dedup_mem (y :: r) z h)

theorem dedup_steep : ∀ {l : List α}, Steep p l → dedup p l = l
  | [], _ => rfl
  | [_], _ => rfl
  | x :: y :: r, h => by
    have := h.1 y (by simp)
    unfold dedup
    rw [if_neg (by omega), dedup_steep h.2]

theorem dedup_rising : ∀ {l : List α}, Rising p l → Steep p (dedup p l)
  | [], _ => trivial
  | [_], _ => ⟨fun _ h => (by cases h), trivial⟩
  | x :: y :: r, h => by
    unfold dedup
    split
    · exact dedup_rising h.2
    · rename_i hne
      refine ⟨?_, dedup_rising h.2⟩
      intro z hz
      have hz := dedup_mem p _ z hz
      have h1 := h.1 y (by simp)
      rcases List.mem_cons.1 hz with rfl | hz
      · omega
      · have := h.2.1 z hz
        omega

/-- What is put ahead of a rising row whose first is not of its page. -/
theorem dedup_cons {x : α} {l : List α} (h : ∀ y ∈ l, p x < p y) : dedup p (x :: l) = x :: dedup p l := by
  cases l with
  | nil => rfl
  | cons y r =>
    have := h y (by simp)
    show (if p y = p x then _ else _) = _
    rw [if_neg (by omega)]

theorem put_first {x m : α} {r : List α} (h : p m < p x) : put p (x :: r) m = m :: x :: r := by
  unfold put
  rw [if_pos (by omega), if_neg (by omega)]

theorem dedup_ins : ∀ {l : List α} (m : α), Rising p l → dedup p (ins p l m) = put p (dedup p l) m
  | [], _, _ => rfl
  | x :: r, m, h => by
    by_cases hm : p m < p x
    · have e : ins p (x :: r) m = m :: x :: r := by unfold ins; rw [if_pos hm]
      rw [e, dedup_cons p (fun y hy => by
        rcases List.mem_cons.1 hy with rfl | hy
        · exact hm
        · have := h.1 y hy; omega)]
      obtain ⟨z, r', hz, hp⟩ := dedup_head p x r
      have := hp h
      rw [hz, put_first p (by omega)]
    · have e : ins p (x :: r) m = x :: ins p r m := by show (if p m < p x then _ else x :: ins p r m) = _; rw [if_neg hm]
      rw [e]
      have ih := dedup_ins m h.2
      cases r with
      | nil =>
        show (if p m = p x then _ else _) = put p [x] m
        unfold put
        by_cases he : p m = p x
        · rw [if_pos he, if_pos (by omega), if_pos he.symm]
          rfl
        · rw [if_neg he, if_neg (by omega)]
          rfl
      | cons y r =>
        have hxy := h.1 y (by simp)
        by_cases hmy : p m < p y
        · have e2 : ins p (y :: r) m = m :: y :: r := by unfold ins; rw [if_pos hmy]
          rw [e2] at ih ⊢
          have hd : dedup p (x :: y :: r) = x :: dedup p (y :: r) := by
            show (if p y = p x then _ else _) = _
            rw [if_neg (by omega)]
          have e3 : dedup p (m :: y :: r) = m :: dedup p (y :: r) := by
            show (if p y = p m then _ else _) = _
            rw [if_neg (by omega)]
          rw [hd]
          show (if p m = p x then dedup p (m :: y :: r) else x :: dedup p (m :: y :: r)) = _
          unfold put
          by_cases he : p m = p x
          · rw [if_pos he, if_pos (by omega), if_pos he.symm, e3]
          · rw [if_neg he, if_neg (by omega), ih]
        · have e2 : ins p (y :: r) m = y :: ins p r m := by show (if p m < p y then _ else y :: ins p r m) = _; rw [if_neg hmy]
          rw [e2] at ih ⊢
          show (if p y = p x then dedup p (y :: ins p r m) else x :: dedup p (y :: ins p r m)) = put p (if p y = p x then dedup p (y :: r) else x :: dedup p (y :: r)) m
          by_cases he : p y = p x
          · rw [if_pos he, if_pos he, ih]
          · rw [if_neg he, if_neg he, ih]
            conv => rhs; unfold put
            rw [if_neg (by omega)]

theorem foldl_dedup : ∀ (g s : List α), Rising p s → dedup p (g.foldl (ins p) s) = g.foldl (put p) (dedup p s)
  | [], _, _ => rfl
  | m :: r, s, h => by
    rw [List.foldl_cons, List.foldl_cons, foldl_dedup r _ (ins_rising p m h), dedup_ins p m h]

/-- The sort of both and of each page the last: the document's. -/
theorem apply_is {s g : List α} (h : Steep p s) : dedup p (sort p (s ++ g)) = g.foldl (put p) s := by
  unfold sort
  rw [List.foldl_append]
  have e : s.foldl (ins p) [] = s := sort_rising p (Steep.rising p h)
  rw [e, foldl_dedup p g s (Steep.rising p h), dedup_steep p h]

theorem mem_put : ∀ (l : List α) (m y : α), y ∈ put p l m → y = m ∨ y ∈ l
  | [], m, y, h => by simp [put] at h; exact .inl h
  | x :: r, m, y, h => by
    unfold put at h
    split at h
    · split at h
      · rcases List.mem_cons.1 h with h | h
        · exact .inl h
        · exact .inr (by simp [h])
      · rcases List.mem_cons.1 h with h | h
        · exact .inl h
        · exact .inr h
    · rcases List.mem_cons.1 h with h | h
      · exact .inr (by simp [h])
      · rcases mem_put r m y h with h | h
        · exact .inl h
        · exact .inr (by simp [h])

theorem put_in : ∀ (l : List α) (m : α), m ∈ put p l m
  | [], m => by simp [put]
  | x :: r, m => by
    unfold put
    split
    · split <;> simp
    · exact List.mem_cons_of_mem _ (put_in r m)

theorem put_other : ∀ (l : List α) (m y : α), y ∈ l → p y ≠ p m → y ∈ put p l m
  | [], _, _, h, _ => by cases h
  | x :: r, m, y, h, hne => by
    unfold put
    split
    · split
      · rcases List.mem_cons.1 h with rfl | h
        · rename_i he; exact absurd he hne
        · simp [h]
      · exact List.mem_cons_of_mem _ h
    · rcases List.mem_cons.1 h with rfl | h
      · simp
      · exact List.mem_cons_of_mem _ (put_other r m y h hne)

theorem put_steep : ∀ {l : List α} (m : α), Steep p l → Steep p (put p l m)
  | [], _, _ => ⟨fun _ h => (by cases h), trivial⟩
  | x :: r, m, h => by
    unfold put
    split
    · split
      · rename_i he
        exact ⟨fun y hy => by rw [← he]; exact h.1 y hy, h.2⟩
      · refine ⟨?_, h⟩
        intro y hy
        rcases List.mem_cons.1 hy with rfl | hy
        · omega
        · have := h.1 y hy
          omega
    · refine ⟨?_, put_steep m h.2⟩
      intro y hy
      rcases mem_put p r m y hy with rfl | hy
      · omega
      · exact h.1 y hy

theorem put_there : ∀ {l : List α} {m : α}, Steep p l → m ∈ l → put p l m = l
  | [], _, _, h => by cases h
  | x :: r, m, hs, h => by
    unfold put
    rcases List.mem_cons.1 h with rfl | h
    · rw [if_pos (Int.le_refl _), if_pos rfl]
    · have := hs.1 m h
      rw [if_neg (by omega), put_there hs.2 h]

theorem fold_steep : ∀ (g : List α) {s : List α}, Steep p s → Steep p (g.foldl (put p) s)
  | [], _, h => h
  | m :: r, _, h => fold_steep r (put_steep p m h)

theorem fold_in : ∀ (g : List α) (s : List α), Steep p g → (∀ m ∈ g, m ∈ g.foldl (put p) s) ∧ (∀ y ∈ s, (∀ m ∈ g, p y ≠ p m) → y ∈ g.foldl (put p) s)
  | [], s, _ => ⟨fun _ h => (by cases h), fun y hy _ => hy⟩
  | m :: r, s, h => by
    obtain ⟨h1, h2⟩ := fold_in r (put p s m) h.2
    refine ⟨?_, ?_⟩
    · intro x hx
      rcases List.mem_cons.1 hx with rfl | hx
      · refine h2 x (put_in p s x) (fun y hy => ?_)
        have := h.1 y hy
        omega
      · exact h1 x hx
    · intro y hy hne
      exact h2 y (put_other p s m y hy (hne m (by simp))) (fun z hz => hne z (by simp [hz]))

theorem fold_there : ∀ (g : List α) {s : List α}, Steep p s → (∀ m ∈ g, m ∈ s) → g.foldl (put p) s = s
  | [], _, _, _ => rfl
  | m :: r, s, h, hm => by
    rw [List.foldl_cons, put_there p h (hm m (by simp)), fold_there r h (fun x hx => hm x (by simp [hx]))]

/-- Done twice it is done once. -/
theorem apply_twice {s g : List α} (hs : Steep p s) (hg : Steep p g) : g.foldl (put p) (g.foldl (put p) s) = g.foldl (put p) s :=
  fold_there p g (fold_steep p g hs) (fold_in p g s hg).1

theorem put_last : ∀ {l : List α} {m : α}, (∀ y ∈ l, p y < p m) → put p l m = l ++ [m]
  | [], _, _ => rfl
  | x :: r, m, h => by
    have := h x (by simp)
    unfold put
    rw [if_neg (by omega), put_last (fun y hy => h y (by simp [hy]))]
    rfl

theorem fold_ahead : ∀ (g s : List α), (∀ x ∈ s, ∀ y ∈ g, p x < p y) → Steep p g → g.foldl (put p) s = s ++ g
  | [], s, _, _ => by simp
  | m :: r, s, h, hg => by
    rw [List.foldl_cons, put_last p (fun y hy => h y hy m (by simp)), fold_ahead r]
    · simp
    · intro x hx y hy
      rcases List.mem_append.1 hx with hx | hx
      · exact h x hx y (by simp [hy])
      · rw [List.mem_singleton.1 hx]
        exact hg.1 y hy
    · exact hg.2

/-- On nothing it is the group itself. -/
theorem apply_nil {g : List α} (hg : Steep p g) : g.foldl (put p) [] = g := by
  rw [fold_ahead p g [] (fun x hx => by cases hx) hg]
  rfl

theorem put_len (l : List α) (m : α) : (put p l m).length ≤ l.length + 1 := by
  induction l with
  | nil => simp [put]
  | cons x r ih =>
    unfold put
    split
    · split <;> simp
    · simp; omega

theorem fold_len : ∀ (g s : List α), (g.foldl (put p) s).length ≤ s.length + g.length
  | [], s => by simp
  | m :: r, s => by
    have := fold_len r (put p s m)
    have := put_len p s m
    rw [List.foldl_cons, List.length_cons]
    omega
end Ap

theorem prevP_cons (m : Im) (r : List Im) (i : Nat) : prevP (m :: r) (i + 1) = if i = 0 then m.page else prevP r i := by
  unfold prevP
  rw [if_neg (by omega)]
  rcases i with _ | i
  · rfl
  · simp

theorem steep_from : ∀ (g : List Im), (∀ i, i < g.length → prevP g i < (g.getD i Im.zero).page) → Ap.Steep Im.page g
  | [], _ => trivial
  | [m], _ => ⟨fun _ h => (by cases h), trivial⟩
  | m :: x :: r, h => by
    have hr : Ap.Steep Im.page (x :: r) := by
      apply steep_from
      intro i hi
      have := h (i + 1) (by simpa using hi)
      rw [prevP_cons] at this
      rcases i with _ | i
      · have h0 := h 0 (by simp)
        rw [if_pos rfl] at this
        unfold prevP at h0 ⊢
        rw [if_pos rfl] at h0 ⊢
        simp only [List.getD_cons_zero, List.getD_cons_succ] at this h0 ⊢
        omega
      · rw [if_neg (by omega)] at this
        simpa using this
    have h1 := h 1 (by simp)
    rw [prevP_cons, if_pos rfl] at h1
    simp only [List.getD_cons_zero, List.getD_cons_succ] at h1
    refine ⟨?_, hr⟩
    intro y hy
    rcases List.mem_cons.1 hy with rfl | hy
    · exact h1
    · have := hr.1 y hy
      omega

/-- A group rises. -/
theorem May.steep {g : List Im} (h : May g) : Ap.Steep Im.page g := steep_from g (fun i hi => (h.2.2 i hi).2.1)
end Go.Proofs.Ytjgeiooblcpiaaa
