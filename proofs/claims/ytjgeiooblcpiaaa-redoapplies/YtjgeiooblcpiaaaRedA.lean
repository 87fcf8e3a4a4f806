/-
  Layer 6 without memory: images, groups, records, what the first group of bytes is, rows of groups. No program is named here.
-/
import Derived.Test.YtjgeiooblcpiaaaFlips
namespace Go.Proofs.Ytjgeiooblcpiaaa

/-- An image: its page and its bytes. -/
structure Im where
  page : Int
  bs : List Nat
def Im.zero : Im := ⟨0, []⟩

/-- The page ahead of place i, or -1. -/
def prevP (g : List Im) (i : Nat) : Int := if i = 0 then -1 else (g.getD (i - 1) Im.zero).page
def okAt (g : List Im) (i : Nat) : Prop :=
  0 ≤ (g.getD i Im.zero).page ∧ prevP g i < (g.getD i Im.zero).page ∧ (g.getD i Im.zero).page ≤ 63 ∧ (g.getD i Im.zero).bs.length = 512
/-- Images that are a group. -/
def May (g : List Im) : Prop := 1 ≤ g.length ∧ g.length ≤ 6 ∧ ∀ i, i < g.length → okAt g i

theorem May.mem {g : List Im} (h : May g) {m : Im} (hm : m ∈ g) : 0 ≤ m.page ∧ m.page ≤ 63 ∧ m.bs.length = 512 := by
  obtain ⟨i, hi, rfl⟩ := List.mem_iff_getElem.1 hm
  have := h.2.2 i hi
  unfold okAt at this
  have e : g.getD i Im.zero = g[i] := by simp [List.getD, hi]
  rw [e] at this
  exact ⟨this.1, this.2.2.1, this.2.2.2⟩

theorem prev_ge {g : List Im} {i : Nat} (h : ∀ j, j < i → okAt g j) : -1 ≤ prevP g i := by
  unfold prevP
  split
  · exact Int.le_refl _
  · have := (h (i - 1) (by omega)).1
    omega

/-- All bytes of images are bytes. -/
def ImB (g : List Im) : Prop := ∀ m ∈ g, Bytes m.bs

def imB (m : Im) : List Nat := m.page.toNat :: m.bs
def body (g : List Im) : List Nat := g.flatMap imB
/-- What a record seals. -/
def text (g : List Im) : List Nat := g.length :: body g
def seald (x : List Nat) : List Nat := fourB (Ta.sum x) ++ x
/-- A group's record. -/
def recd (g : List Im) : List Nat := (seald (text g)).length / 256 :: (seald (text g)).length % 256 :: seald (text g)

theorem seald_length (x : List Nat) : (seald x).length = 4 + x.length := by
  unfold seald
  rw [List.length_append]
  rfl

theorem body_append (g h : List Im) : body (g ++ h) = body g ++ body h := by simp [body]
theorem body_one (m : Im) : body [m] = m.page.toNat :: m.bs := by simp [body, imB]

theorem body_length : ∀ (g : List Im), (∀ m ∈ g, m.bs.length = 512) → (body g).length = 513 * g.length
  | [], _ => rfl
  | m :: r, h => by
    have := body_length r (fun x hx => h x (by simp [hx]))
    show (imB m ++ body r).length = _
    rw [List.length_append, this]
    have := h m (by simp)
    simp only [imB, List.length_cons]
    omega

theorem text_length {g : List Im} (h : ∀ m ∈ g, m.bs.length = 512) : (text g).length = 1 + 513 * g.length := by
  show (body g).length + 1 = _
  rw [body_length g h]
  omega

theorem recd_length {g : List Im} (h : ∀ m ∈ g, m.bs.length = 512) : (recd g).length = 7 + 513 * g.length := by
  show (seald (text g)).length + 1 + 1 = _
  rw [seald_length, text_length h]
  omega

theorem body_bytes {g : List Im} (hb : ImB g) (hp : ∀ m ∈ g, m.page ≤ 255) : Bytes (body g) := by
  intro x hx
  obtain ⟨m, hm, hxm⟩ := List.mem_flatMap.1 hx
  simp only [imB, List.mem_cons] at hxm
  rcases hxm with rfl | h
  · have := hp m hm
    omega
  · exact hb m hm x h

theorem May.pages {g : List Im} (h : May g) : ∀ m ∈ g, m.page ≤ 255 := fun _ hm => by have := (h.mem hm).2.1; omega
theorem May.len {g : List Im} (h : May g) : ∀ m ∈ g, m.bs.length = 512 := fun _ hm => (h.mem hm).2.2

theorem text_bytes {g : List Im} (hb : ImB g) (h : May g) : Bytes (text g) := by
  intro x hx
  rcases List.mem_cons.1 hx with rfl | hx
  · have := h.2.1
    omega
  · exact body_bytes hb h.pages x hx

theorem seald_bytes {x : List Nat} (h : Bytes x) : Bytes (seald x) := sealed_bytes h

theorem recd_bytes {g : List Im} (hb : ImB g) (h : May g) : Bytes (recd g) := by
  intro x hx
  have hl : (seald (text g)).length ≤ 3083 := by
    rw [seald_length, text_length h.len]
    have := h.2.1
    omega
  rcases List.mem_cons.1 hx with rfl | hx
  · omega
  · rcases List.mem_cons.1 hx with rfl | hx
    · omega
    · exact seald_bytes (text_bytes hb h) x hx

/-- The image number j of what was sealed. -/
def imgAt (x : List Nat) (j : Nat) : Im := ⟨(x.getD (1 + 513 * j) 0 : Nat), (x.drop (2 + 513 * j)).take 512⟩
def imgs (x : List Nat) (k : Nat) : List Im := (List.range k).map (imgAt x)

theorem imgs_length (x : List Nat) (k : Nat) : (imgs x k).length = k := by simp [imgs]
theorem imgs_succ (x : List Nat) (k : Nat) : imgs x (k + 1) = imgs x k ++ [imgAt x k] := by simp [imgs, List.range_succ]

theorem imgs_bytes {x : List Nat} (h : Bytes x) (k : Nat) : ImB (imgs x k) := by
  intro m hm
  obtain ⟨j, _, rfl⟩ := List.mem_map.1 hm
  intro y hy
  exact h y (List.mem_of_mem_drop (List.mem_of_mem_take hy))

theorem imgs_len {x : List Nat} {k : Nat} (h : 1 + 513 * k ≤ x.length) : ∀ m ∈ imgs x k, m.bs.length = 512 := by
  intro m hm
  obtain ⟨j, hj, rfl⟩ := List.mem_map.1 hm
  have hj := List.mem_range.1 hj
  simp only [imgAt, List.length_take, List.length_drop]
  omega

theorem body_imgs (x : List Nat) : ∀ k, 1 + 513 * k ≤ x.length → body (imgs x k) = (x.drop 1).take (513 * k)
  | 0, _ => by simp [imgs, body]
  | k + 1, h => by
    rw [imgs_succ, body_append, body_imgs x k (by omega), body_one]
    have e : 513 * (k + 1) = 513 * k + 513 := by omega
    rw [e, List.take_add]
    congr 1
    have hd : (x.drop 1).drop (513 * k) = x.drop (1 + 513 * k) := by rw [List.drop_drop]
    rw [hd]
    have hl : 1 + 513 * k < x.length := by omega
    rw [List.drop_eq_getElem_cons hl]
    show (imgAt x k).page.toNat :: (imgAt x k).bs = _
    rw [List.take_succ_cons]
    have e2 : 1 + 513 * k + 1 = 2 + 513 * k := by omega
    rw [e2]
    simp only [imgAt, Int.toNat_natCast]
    congr 1
    simp [List.getD, hl]

theorem text_imgs {x : List Nat} {k : Nat} (h : x.length = 1 + 513 * k) (h0 : x.getD 0 0 = k) : text (imgs x k) = x := by
  unfold text
  rw [imgs_length, body_imgs x k (by omega)]
  cases x with
  | nil => simp at h; omega
  | cons a r =>
    simp only [List.drop_one, List.tail_cons]
    simp [List.getD] at h0
    simp at h
    rw [← h0, List.take_of_length_le (by omega)]

theorem body_inj : ∀ (g h : List Im), (∀ m ∈ g, m.bs.length = 512 ∧ 0 ≤ m.page) → (∀ m ∈ h, m.bs.length = 512 ∧ 0 ≤ m.page) → g.length = h.length → body g = body h → g = h
  | [], [], _, _, _, _ => rfl
  | [], _ :: _, _, _, hl, _ => by simp at hl
  | _ :: _, [], _, _, hl, _ => by simp at hl
  | a :: g, b :: h, hg, hh, hl, he => by
    have he' : imB a ++ body g = imB b ++ body h := he
    have ha := hg a (by simp)
    have hb := hh b (by simp)
    obtain ⟨h1, h2⟩ := List.append_inj he' (by simp [imB, ha.1, hb.1])
    have := body_inj g h (fun m hm => hg m (by simp [hm])) (fun m hm => hh m (by simp [hm])) (by simpa using hl) h2
    simp only [imB, List.cons.injEq] at h1
    obtain ⟨pa, ba⟩ := a
    obtain ⟨pb, bb⟩ := b
    simp only at h1 ha hb
    rw [this]
    have : pa = pb := by omega
    rw [this, h1.2]

theorem imgs_text {g : List Im} (h : May g) : imgs (text g) g.length = g := by
  have hl := text_length h.len
  refine body_inj _ _ ?_ (fun m hm => ⟨(h.mem hm).2.2, (h.mem hm).1⟩) (imgs_length _ _) ?_
  · intro m hm
    refine ⟨imgs_len (by omega) m hm, ?_⟩
    obtain ⟨j, _, rfl⟩ := List.mem_map.1 hm
    exact Int.natCast_nonneg _
  · rw [body_imgs _ _ (by omega)]
    show (body g).take _ = _
    rw [← body_length g h.len, List.take_length]

/-- What is told of the first group: the group, how many bytes, which error. -/
structure Told where
  g : List Im
  n : Nat
  e : Nat
def Told.no (e : Nat) : Told := ⟨[], 0, e⟩

open Classical in
noncomputable def grp (x : List Nat) (n : Nat) : Told :=
  if 1 ≤ x.length ∧ x.length = 1 + 513 * x.getD 0 0 ∧ May (imgs x (x.getD 0 0)) then ⟨imgs x (x.getD 0 0), n, 0⟩ else Told.no 4

def said (b : List Nat) : Nat := b.getD 0 0 * 256 + b.getD 1 0

open Classical in
/-- The first group of bytes. -/
noncomputable def dec (b : List Nat) : Told :=
  if b.length < 2 then Told.no 4 else
  if b.length < 2 + said b ∨ said b < 4 then Told.no 4 else
  if Sealed ((b.drop 2).take (said b)) then grp (((b.drop 2).take (said b)).drop 4) (2 + said b) else Told.no 5

/-- What the document asks of sealed bytes is the same. -/
theorem grp_ref (x : List Nat) (n : Nat) :
    ((May (imgs x ((x.length - 1) / 513)) ∧ text (imgs x ((x.length - 1) / 513)) = x) → grp x n = ⟨imgs x ((x.length - 1) / 513), n, 0⟩) ∧
    (¬ (May (imgs x ((x.length - 1) / 513)) ∧ text (imgs x ((x.length - 1) / 513)) = x) → grp x n = Told.no 4) := by
  constructor
  · rintro ⟨hm, ht⟩
    have hl := text_length hm.len
    have h0 : (text (imgs x ((x.length - 1) / 513))).getD 0 0 = (x.length - 1) / 513 := by
      show (imgs x _).length = _
      rw [imgs_length]
    rw [ht] at hl h0
    rw [imgs_length] at hl
    unfold grp
    rw [h0, if_pos ⟨by omega, hl, hm⟩]
  · intro h
    unfold grp
    rw [if_neg]
    rintro ⟨h1, h2, h3⟩
    apply h
    have e : (x.length - 1) / 513 = x.getD 0 0 := by omega
    rw [e]
    exact ⟨h3, text_imgs h2 rfl⟩

theorem dec_recd {g : List Im} (h : May g) (r : List Nat) : dec (recd g ++ r) = ⟨g, (recd g).length, 0⟩ := by
  have hl := text_length h.len
  have hs := seald_length (text g)
  have hle := h.2.1
  have hge := h.1
  have hsd : said (recd g ++ r) = (seald (text g)).length := by
    show (seald (text g)).length / 256 * 256 + (seald (text g)).length % 256 = _
    omega
  have hdr : (recd g ++ r).drop 2 = seald (text g) ++ r := rfl
  unfold dec
  rw [if_neg (by simp [recd]), hsd, hdr, if_neg, if_pos]
  · rw [List.take_left' rfl]
    have : (seald (text g)).drop 4 = text g := rfl
    rw [this]
    unfold grp
    have h0 : (text g).getD 0 0 = g.length := rfl
    rw [h0, imgs_text h, if_pos ⟨by omega, by omega, h⟩]
    have : 2 + (seald (text g)).length = (recd g).length := by simp [recd]; omega
    rw [this]
  · rw [List.take_left' rfl]
    rfl
  · rw [List.length_append, recd_length h.len]
    omega

theorem dec_part {g : List Im} (h : May g) (p : Nat) (hp : p < (recd g).length) : dec ((recd g).take p) = Told.no 4 := by
  have hl := text_length h.len
  have hs := seald_length (text g)
  have hr := recd_length h.len
  have hle := h.2.1
  have htl : ((recd g).take p).length = p := by rw [List.length_take]; omega
  unfold dec
  rw [htl]
  by_cases h2 : p < 2
  · rw [if_pos h2]
  · rw [if_neg h2]
    obtain ⟨q, rfl⟩ : ∃ q, p = q + 2 := ⟨p - 2, by omega⟩
    have hsd : said ((recd g).take (q + 2)) = (seald (text g)).length := by
      show (seald (text g)).length / 256 * 256 + (seald (text g)).length % 256 = _
      omega
    rw [hsd, if_pos (by omega)]

theorem dec_e {b : List Nat} : (dec b).e = 0 ∨ ((dec b).e ≠ 0 ∧ (dec b).g = [] ∧ (dec b).n = 0) := by
  unfold dec
  split
  · exact .inr ⟨by decide, rfl, rfl⟩
  · split
    · exact .inr ⟨by decide, rfl, rfl⟩
    · split
      · unfold grp
        split
        · exact .inl rfl
        · exact .inr ⟨by decide, rfl, rfl⟩
      · exact .inr ⟨by decide, rfl, rfl⟩

theorem dec_ok {b : List Nat} (h : (dec b).e = 0) : 2 ≤ (dec b).n ∧ (dec b).n ≤ b.length ∧ May (dec b).g := by
  revert h
  unfold dec
  split
  · intro h; cases h
  · split
    · intro h; cases h
    · split
      · unfold grp
        split
        · rename_i hc
          intro _
          refine ⟨?_, ?_, hc.2.2⟩
          · show 2 ≤ 2 + said b
            omega
          · show 2 + said b ≤ b.length
            omega
        · intro h; cases h
      · intro h; cases h

theorem dec_bytes {b : List Nat} (h : Bytes b) : ImB (dec b).g := by
  unfold dec
  split
  · intro m hm; cases hm
  · split
    · intro m hm; cases hm
    · split
      · unfold grp
        split
        · exact imgs_bytes (fun y hy => h y (List.mem_of_mem_drop (List.mem_of_mem_take (List.mem_of_mem_drop hy)))) _
        · intro m hm; cases hm
      · intro m hm; cases hm

/-- Where the group number i of a row begins. -/
noncomputable def rowAt (b : List Nat) : Nat → Nat
  | 0 => 0
  | i + 1 => rowAt b i + (dec (b.drop (rowAt b i))).n
noncomputable def rowG (b : List Nat) (i : Nat) : List Im := (dec (b.drop (rowAt b i))).g
/-- There is a group number i. -/
def rowOk (b : List Nat) (i : Nat) : Prop := (dec (b.drop (rowAt b i))).e = 0

theorem rowAt_le {b : List Nat} : ∀ i, (∀ j, j < i → rowOk b j) → rowAt b i ≤ b.length ∧ 2 * i ≤ rowAt b i
  | 0, _ => ⟨Nat.zero_le _, Nat.le_refl _⟩
  | i + 1, h => by
    have ih := rowAt_le i (fun j hj => h j (by omega))
    have := dec_ok (h i (by omega))
    rw [List.length_drop] at this
    show rowAt b i + _ ≤ _ ∧ _ ≤ rowAt b i + _
    omega

/-- The row ends at one place. -/
theorem row_end {b : List Nat} {i j : Nat} (hi : ∀ k, k < i → rowOk b k) (hj : ∀ k, k < j → rowOk b k) (ei : ¬ rowOk b i) (ej : ¬ rowOk b j) : i = j := by
  rcases Nat.lt_trichotomy i j with h | h | h
  · exact absurd (hj i h) ei
  · exact h
  · exact absurd (hi j h) ej

/-- Records one behind the other. -/
def recs (l : List (List Im)) : List Nat := l.flatMap recd
theorem recs_append (l m : List (List Im)) : recs (l ++ m) = recs l ++ recs m := by simp [recs]
/-- Where the record number i ends. -/
def ends (l : List (List Im)) (i : Nat) : Nat := (recs (l.take i)).length

theorem ends_succ {l : List (List Im)} {i : Nat} (hi : i < l.length) : ends l (i + 1) = ends l i + (recd (l.getD i [])).length := by
  unfold ends
  have e : l.getD i [] = l[i] := by simp [List.getD, hi]
  have e1 : recs [l[i]] = recd l[i] := by unfold recs; rw [List.flatMap_cons, List.flatMap_nil, List.append_nil]
  rw [List.take_succ_eq_append_getElem hi, recs_append, List.length_append, e, e1]

theorem ends_mono {l : List (List Im)} {i j : Nat} (h : i ≤ j) : ends l i ≤ ends l j := by
  unfold ends
  have e1 : (l.take j).take i = l.take i := by rw [List.take_take, Nat.min_eq_left h]
  have e : recs (l.take j) = recs ((l.take j).take i) ++ recs ((l.take j).drop i) := by rw [← recs_append, List.take_append_drop]
  rw [e, e1, List.length_append]
  exact Nat.le_add_right _ _

theorem recs_drop (l : List (List Im)) (i : Nat) : (recs l).drop (ends l i) = recs (l.drop i) := by
  have e : recs l = recs (l.take i) ++ recs (l.drop i) := by rw [← recs_append, List.take_append_drop]
  unfold ends
  rw [e, List.drop_left' rfl]

theorem recs_at {l : List (List Im)} {i : Nat} (hi : i < l.length) : (recs l).drop (ends l i) = recd (l.getD i []) ++ recs (l.drop (i + 1)) := by
  rw [recs_drop, List.drop_eq_getElem_cons hi]
  show List.flatMap recd (l[i] :: l.drop (i + 1)) = _
  rw [List.flatMap_cons]
  have : l.getD i [] = l[i] := by simp [List.getD, hi]
  rw [this]
  rfl

/-- Of records that are cut those are read that stand whole. -/
theorem cut_row {l : List (List Im)} (hm : ∀ g ∈ l, May g) {to k : Nat} (hto : to ≤ (recs l).length) (hk : k ≤ l.length) (hin : ∀ i, i < k → ends l (i + 1) ≤ to) (hout : k < l.length → to < ends l (k + 1)) :
    (∀ i, i ≤ k → rowAt ((recs l).take to) i = ends l i) ∧ (∀ i, i < k → rowOk ((recs l).take to) i ∧ rowG ((recs l).take to) i = l.getD i []) ∧ ¬ rowOk ((recs l).take to) k := by
  have hg : ∀ i, i < l.length → May (l.getD i []) := by
    intro i hi
    have : l.getD i [] = l[i] := by simp [List.getD, hi]
    rw [this]
    exact hm _ (List.getElem_mem hi)
  have hone : ∀ i, i < k → dec (((recs l).take to).drop (ends l i)) = ⟨l.getD i [], (recd (l.getD i [])).length, 0⟩ := by
    intro i hi
    have hil : i < l.length := by omega
    have h1 := hin i hi
    rw [ends_succ hil] at h1
    rw [List.drop_take, recs_at hil, List.take_append, List.take_of_length_le (by omega)]
    exact dec_recd (hg i hil) _
  have hat : ∀ i, i ≤ k → rowAt ((recs l).take to) i = ends l i := by
    intro i
    induction i with
    | zero => intro _; rfl
    | succ i ih =>
      intro hi
      have := ih (by omega)
      show rowAt _ i + _ = _
      rw [this, hone i (by omega), ends_succ (by omega)]
  refine ⟨hat, ?_, ?_⟩
  · intro i hi
    unfold rowOk rowG
    rw [hat i (by omega), hone i hi]
    exact ⟨rfl, rfl⟩
  · unfold rowOk
    rw [hat k (Nat.le_refl _)]
    rcases Nat.lt_or_ge k l.length with hkl | hkl
    · have h1 := hout hkl
      have h2 : ends l k ≤ to := by
        rcases Nat.eq_zero_or_pos k with h0 | h0
        · subst h0
          exact Nat.zero_le _
        · have := hin (k - 1) (by omega)
          rwa [Nat.sub_add_cancel h0] at this
      rw [ends_succ hkl] at h1
      rw [List.drop_take, recs_at hkl, List.take_append_of_le_length (by omega), dec_part (hg k hkl) _ (by omega)]
      decide
    · have hkl : k = l.length := by omega
      have he : ends l k = (recs l).length := by rw [hkl]; simp [ends]
      rw [he, List.drop_eq_nil_of_le (by rw [List.length_take]; omega)]
      unfold dec
      rw [if_pos (by decide)]
      decide
end Go.Proofs.Ytjgeiooblcpiaaa
