/-
  Layer 13: what stands between two rounds of the law of what was turned last.
  Layer 13: the walk of the law of what was turned last.
-/
import Derived.Test.YtpggkfdnpdhkfaaGreatMc
import Derived.Test.YtpggkfdnpdhkfaaGreatRe
namespace Go.Proofs.YtpggkfdnpdhkfaaGreat
open Go.RowKit
set_option maxRecDepth 100000
set_option linter.unusedVariables false

def pgs (f : Nat → List Nat) : Nat → Nat → List Im
  | 0, _ => []
  | n + 1, s => ⟨((s : Nat) : Int), f s⟩ :: pgs f n (s + 1)
theorem pgs_at {f h : Nat → List Nat} : ∀ (n s : Nat), (∀ k, s ≤ k → k < s + n → f k = h k) → pgs f n s = pgs h n s
  | 0, _, _ => rfl
  | n + 1, s, e => by
    show _ :: _ = _ :: _
    rw [e s (Nat.le_refl _) (by omega), pgs_at n (s + 1) (fun k h1 h2 => e k (by omega) (by omega))]
theorem pgs_len (f : Nat → List Nat) : ∀ n s, (pgs f n s).length = n
  | 0, _ => rfl
  | n + 1, s => by show (pgs f n (s + 1)).length + 1 = _; rw [pgs_len f n]
theorem pgs_ge {f : Nat → List Nat} : ∀ (n s : Nat) (y : Im), y ∈ pgs f n s → ((s : Nat) : Int) ≤ y.page
  | 0, _, y, h => by cases h
  | n + 1, s, y, h => by
    rcases List.mem_cons.1 h with rfl | h
    · exact Int.le_refl _
    · have := pgs_ge n (s + 1) y h
      omega
theorem pgs_steep (f : Nat → List Nat) : ∀ n s, Ap.Steep Im.page (pgs f n s)
  | 0, _ => trivial
  | n + 1, s => ⟨fun y hy => by have := pgs_ge n (s + 1) y hy; show ((s : Nat) : Int) < _; omega, pgs_steep f n (s + 1)⟩
theorem pgs_get (f : Nat → List Nat) : ∀ (n s k : Nat), k < n → (pgs f n s).getD k Im.zero = ⟨((s + k : Nat) : Int), f (s + k)⟩
  | 0, _, _, h => absurd h (Nat.not_lt_zero _)
  | n + 1, s, 0, _ => rfl
  | n + 1, s, k + 1, h => by
    have := pgs_get f n (s + 1) k (by omega)
    show (pgs f n (s + 1)).getD k Im.zero = _
    rw [this, show s + 1 + k = s + (k + 1) by omega]
theorem pgs_put (f : Nat → List Nat) (x : Im) : ∀ (n s : Nat), ((s : Nat) : Int) ≤ x.page → x.page < ((s + n : Nat) : Int) → Ap.put Im.page (pgs f n s) x = pgs (updI f x) n s
  | 0, s, h1, h2 => by omega
  | n + 1, s, h1, h2 => by
    show (if x.page ≤ ((s : Nat) : Int) then (if ((s : Nat) : Int) = x.page then x :: pgs f n (s + 1) else _) else (⟨((s : Nat) : Int), f s⟩ : Im) :: Ap.put Im.page (pgs f n (s + 1)) x) = (⟨((s : Nat) : Int), updI f x s⟩ : Im) :: pgs (updI f x) n (s + 1)
    by_cases e : x.page = ((s : Nat) : Int)
    · rw [if_pos (by omega), if_pos e.symm]
      have e1 : updI f x s = x.bs := by unfold updI; rw [if_pos e]
      rw [e1, pgs_at n (s + 1) (f := updI f x) (h := f) (fun k h3 _ => by unfold updI; rw [if_neg (by omega)]), ← e]
    · rw [if_neg (by omega), pgs_put f x n (s + 1) (by omega) (by omega)]
      have e1 : updI f x s = f s := by unfold updI; rw [if_neg e]
      rw [e1]
theorem pgs_fold {n : Nat} : ∀ (g : List Im) (f : Nat → List Nat), (∀ x ∈ g, 0 ≤ x.page ∧ x.page < ((n : Nat) : Int)) → g.foldl (Ap.put Im.page) (pgs f n 0) = pgs (upd f g) n 0
  | [], f, _ => rfl
  | x :: g, f, h => by
    rw [List.foldl_cons, pgs_put f x n 0 (h x (by simp)).1 (by have := (h x (by simp)).2; omega)]
    exact pgs_fold g (updI f x) (fun y hy => h y (by simp [hy]))
/-- A group whose last page is there has all of them there. -/
theorem may_pages {g : List Im} (h : May g) {n : Nat} (hl : (g.getD (g.length - 1) Im.zero).page < ((n : Nat) : Int)) : ∀ x ∈ g, 0 ≤ x.page ∧ x.page < ((n : Nat) : Int) := by
  have key : ∀ d i, i + d + 1 = g.length → (g.getD i Im.zero).page ≤ (g.getD (g.length - 1) Im.zero).page := by
    intro d
    induction d with
    | zero => intro i hi; rw [show g.length - 1 = i by omega]; exact Int.le_refl _
    | succ d ih =>
      intro i hi
      have h1 := ih (i + 1) (by omega)
      have h2 := (h.2.2 (i + 1) (by omega)).2.1
      unfold prevP at h2
      rw [if_neg (by omega), Nat.add_sub_cancel] at h2
      omega
  intro x hx
  obtain ⟨i, hi, rfl⟩ := List.mem_iff_getElem.1 hx
  have e : g.getD i Im.zero = g[i] := by simp [List.getD, hi]
  have h1 := key (g.length - 1 - i) i (by omega)
  have h2 := (h.2.2 i hi).1
  rw [e] at h1 h2
  exact ⟨h2, by omega⟩
theorem applyE_zero {P : Po} {n : Nat} {g : List Im} (h : P.applyE n g = 0) : May g ∧ (∀ x ∈ g, 0 ≤ x.page ∧ x.page < ((n : Nat) : Int)) ∧ P.D.ss.length + (recd g).length ≤ 65536 := by
  unfold Po.applyE at h
  by_cases hm : May g
  · rw [if_neg (not_not_intro hm)] at h
    by_cases h2 : ((n : Nat) : Int) ≤ (g.getD (g.length - 1) Im.zero).page
    · rw [if_pos h2] at h
      cases h
    · rw [if_neg h2] at h
      by_cases h3 : 65536 < P.D.ss.length + (recd g).length
      · rw [if_pos h3] at h
        cases h
      · exact ⟨hm, may_pages hm (by omega), by omega⟩
  · rw [if_pos hm] at h
    cases h

/-- The pages now, in images that are apart from the Mtr. -/
def LI (M : PoM) (w wr : World) (m p d : Nat) (c s : Nat) (v : Sl) : Prop := ∃ (A : Nat → Prop) (P : Po) (l : List Ix), OM M A w wr m p d P ∧ P.Fine 4 c ∧ P.D.sb ≤ s ∧ Gr A wr v l ∧ ims l = pgs P.con 4 0
section
variable {M : PoM} {w wr : World} {m p d c s : Nat} {v : Sl}
theorem LI.below (h : LI M w wr m p d c s v) : Below w.heap.size w wr := by
  obtain ⟨A, P, l, h, _⟩ := h
  exact h.below
theorem LI.more (h : LI M w wr m p d c s v) {c' s' : Nat} (h1 : c ≤ c') (h2 : s ≤ s') (h3 : c' ≤ 9000) : LI M w wr m p d c' s' v := by
  obtain ⟨A, P, l, o, f, b, g, e⟩ := h
  exact ⟨A, P, l, o, f.more h1 h3, Nat.le_trans b h2, g, e⟩
theorem LI.keep (S : PoolS M) (h : LI M w wr m p d c s v) {w' : World} (hb : Below wr.heap.size wr w') : LI M w w' m p d c s v := by
  obtain ⟨A, P, l, o, f, b, g, e⟩ := h
  exact ⟨A, P, l, o.keep S hb, f, b, g.below hb (Nat.le_refl _), e⟩
theorem LI.shape (h : LI M w wr m p d c s v) : ∃ b off, v.a = some ⟨b, off, none⟩ ∧ v.len = 4 := by
  obtain ⟨A, P, l, o, f, b, g, e⟩ := h
  have hll : l.length = 4 := by have := congrArg List.length e; rw [ims_length, pgs_len] at this; exact this
  have hvl : v.len = 4 := by rw [← g.len]; exact hll
  obtain ⟨b1, off, ha, _⟩ := g.cell 0 (by omega)
  exact ⟨b1, off, ha, hvl⟩
theorem li_check (S : PoolS M) (h : LI M w wr m p d c s v) (hc : c + 16 ≤ 9000) (hs : s + 65536 ≤ 900000000000) : Calls Tryz.prog 18 #[at0 m] wr fun e w' => e = .returned (.tuple #[]) ∧ LI M w w' m p d (c + 16) (s + 65536) v := by
  obtain ⟨A, P, l, o, f, b, g, e⟩ := h
  refine (om_check S o f (by omega) (by omega)).mono ?_
  rintro e' w' ⟨rfl, o', k⟩
  have hk := f.chk (n := 4) (by omega) (by omega)
  refine ⟨rfl, A, P.check 4, l, o', hk.fine, ?_, g.keep k, ?_⟩
  · rw [hk.sb]
    have := f.ss
    omega
  · rw [e]
    exact pgs_at 4 0 (fun k _ hk' => (hk.con k (by omega)).symm)
theorem li_evict (S : PoolS M) (h : LI M w wr m p d c s v) (hc : c + 4 ≤ 9000) (k : Int) (hw : (Lit.int .i64 k).wf = true) : Calls Tryz.prog 20 #[at0 m, .int .i64 k] wr fun e w' => ∃ r : Int, e = .returned (.int .i64 r) ∧ LI M w w' m p d (c + 4) s v := by
  obtain ⟨A, P, l, o, f, b, g, e⟩ := h
  refine (om_evict S o f k hw).mono ?_
  rintro e' w' ⟨⟨o', kk⟩, rfl⟩
  obtain ⟨f1, f2, _⟩ := f.evictAny hc k
  refine ⟨_, rfl, A, P.evictAny k, l, o', f1, ?_, g.keep kk, ?_⟩
  · have : (P.evictAny k).D.sb = P.D.sb := by
      unfold Po.evictAny
      split
      · exact write_sb P _
      · rfl
    rw [this]
    exact b
  · rw [e]
    exact pgs_at 4 0 (fun i _ hi => (f2 i (by omega)).symm)
theorem li_read (S : PoolS M) (h : LI M w wr m p d c s v) (hc : c + 4 ≤ 9000) (k : Nat) (hk : k < 4) : Calls Tryz.prog 22 #[at0 m, .int .i64 ((k : Nat) : Int)] wr fun e w' => LI M w w' m p d (c + 4) s v ∧ ∃ (s' : Sl) (ys : List Nat) (b off : Nat) (sa : Option Addr) (sc : Nat), e = .returned (.tuple #[s'.val, .int .i64 0]) ∧ s'.len = 512 ∧ Bs w' s'.a 512 ys ∧ v.a = some ⟨b, off, none⟩ ∧ v.len = 4 ∧ w'.cell? ⟨b, off + k * 2 + 1, none⟩ = some (.slice sa 512 sc) ∧ Bs w' sa 512 ys := by
  obtain ⟨A, P, l, o, f, b, g, e⟩ := h
  refine (om_read S o f k hk).mono ?_
  rintro e' w' ⟨⟨o', kk⟩, s', rfl, hown, hl⟩
  have hL := f.ok.letIn (p := k) hk
  have hll : l.length = 4 := by have := congrArg List.length e; rw [ims_length, pgs_len] at this; exact this
  have hvl : v.len = 4 := by rw [← g.len]; exact hll
  have g' := g.keep kk
  have hx : (l.getD k Ix.zero).im = ⟨((0 + k : Nat) : Int), P.con (0 + k)⟩ := by rw [← ims_getD, e]; exact pgs_get P.con 4 0 k hk
  have hbs : (l.getD k Ix.zero).bs = P.con k := by have := congrArg Im.bs hx; rw [Nat.zero_add] at this; exact this
  obtain ⟨b1, off, ha, _, c1⟩ := g'.cell k (by omega)
  have hat := g'.at (i := k) (by omega)
  have hlc : (P.con k).length = 512 := by
    have h1 := hown.1
    rw [vals_length, hL.con k hk, hl] at h1
    omega
  have hsl : (l.getD k Ix.zero).s.len = 512 := by rw [← hat.len, hbs]; exact hlc
  have hbt : Bytes (P.con k) := by rw [← hbs]; exact hat.came.bs.2.1
  refine ⟨⟨A, P.letIn k, l, o', f.letIn (by omega) hk, by rw [letIn_sb]; exact b, g', ?_⟩, s', P.con k, b1, off, (l.getD k Ix.zero).s.a, (l.getD k Ix.zero).s.cap, rfl, hl, ?_, ha, hvl, ?_, ?_⟩
  · rw [e]
    exact pgs_at 4 0 (fun i _ hi => (hL.con i (by omega)).symm)
  · rw [hL.con k hk] at hown
    have := (hown.came hbt).bs
    rw [hl] at this
    exact this
  · rw [← hsl]
    exact c1
  · have := hat.came.bs
    rw [hbs, hsl] at this
    exact this
/-- A group is turned, and the document's pages behind it. -/
theorem li_apply (S : PoolS M) (h : LI M w wr m p d c s v) (hc : c + 24 ≤ 9000) {w2 : World} {v2 : Sl} {l2 : List Ix} (hb2 : Below wr.heap.size wr w2) (hg2 : GI (fun k => wr.heap.size ≤ k) wr.heap.size w2 v2 l2) (hl2 : v2.len ≤ 9) :
    ∃ r : Int, Calls Tryz.prog 13 #[at0 m, v2.val] w2 fun e w3 => e = .returned (.int .i64 r) ∧ (r ≠ 0 → LI M w w3 m p d (c + 24) s v) ∧ (r = 0 → Calls Tryz.prog 37 #[v.val, v2.val] w3 fun e' w4 => ∃ v4 : Sl, e' = .returned v4.val ∧ LI M w w4 m p d (c + 24) s v4) := by
  obtain ⟨A, P, l, o, f, b, g, e⟩ := h
  have o2 := o.more S hb2
  have gr2 := hg2.gr (by omega)
  refine ⟨P.applyE 4 (ims l2), (om_apply S o2 f hc v2 l2 gr2 (fun k hk hlt => .inl (.inr ⟨hk.elim id id, hlt⟩))).mono ?_⟩
  rintro e' w3 ⟨rfl, o3, k3⟩
  have g2 := g.below hb2 (Nat.le_refl _)
  have hA := (show ∀ k, A k → k < wr.heap.size from by obtain ⟨_, _, _, _, _, hA⟩ := o; exact hA)
  have g3 : Gr A w3 v l := g2.keep (fun k hk hlt => k3 k (.inl hk) hlt)
  refine ⟨rfl, fun hr => ?_, fun hr => ?_⟩
  · rw [if_neg hr] at o3
    exact ⟨A, P, l, o3.less (fun k hk => .inl hk), f.more (by omega) hc, b, g3, e⟩
  · rw [if_pos hr] at o3
    obtain ⟨hm, hpg, hss⟩ := applyE_zero hr
    obtain ⟨f1, s1, b1, c1⟩ := f.apply hc hm gr2.imB hss
    have g23 : Gr (fun k => wr.heap.size ≤ k ∧ k < w2.heap.size) w3 v2 l2 := (gr2.mono (fun k hk hlt => ⟨hk.elim id id, hlt⟩)).keep (fun k hk hlt => k3 k (.inr hk) hlt)
    have hll : l.length = 4 := by have := congrArg List.length e; rw [ims_length, pgs_len] at this; exact this
    have hvl : v.len = 4 := by rw [← g.len]; exact hll
    refine (rapply_any (fun k => (A k ∨ (wr.heap.size ≤ k ∧ k < w2.heap.size)) ∨ w3.heap.size ≤ k) w3 v v2 l l2 g3 g23 (by omega) (steep_ims (by rw [e]; exact pgs_steep _ _ _)) (fun k hk _ => .inl (.inl hk)) (fun k hk _ => .inl (.inr hk)) (fun k hk => .inr hk)).mono ?_
    rintro e' w4 ⟨v4, l4, rfl, g4, e4, hb4⟩
    refine ⟨v4, rfl, _, P.apply 4 (ims l2), l4, o3.more S hb4, f1, by rw [b1]; exact b, g4.mono (fun k hk hlt => hk.elim (fun x => .inl x) (fun x => .inr ⟨x, hlt⟩)), ?_⟩
    rw [e4, e, pgs_fold _ _ hpg]
    exact pgs_at 4 0 (fun i _ hi => (c1 i (by omega)).symm)
end
theorem fdImgB (b o : Nat) (w : World) : (Instr.fieldAt 76 (.pointer (some ⟨b, o, none⟩)) 1).run Tryz.prog w = .ok (.pointer (some ⟨b, o + 1, none⟩)) w := by simp [go_sem, Instr.fieldAt]
theorem neqStrM (x : ByteArray) (a b : Operand) (w : World) : (do eqGuard .neq 9 a b (.string x) (.string x); binOp .neq 9 (.string x) (.string x) : Sem Value).run Tryz.prog w = .ok (.bool false) w := by simp [go_sem, eqGuard]


set_option maxHeartbeats 2000000 in
set_option maxRecDepth 100000 in
theorem last27 (w : World) (b off cap k : Nat) (hk : k < 4) (ra sa : Option Addr) (rc sc : Nat) (ys : List Nat) (h0 : (fun (w' : World) => Bs w' ra 512 ys ∧ w'.cell? ⟨b, off + k * 2 + 1, none⟩ = some (.slice sa 512 sc) ∧ Bs w' sa 512 ys) w)
    {Q : Exit → Act → World → Prop} {A : Act} (hsz : A.tmps.size = 130) (hdf : A.defers = []) (s9 : A.tmps.getD 9 undef = .slice (some ⟨b, off, none⟩) 4 cap) (s14 : A.tmps.getD 14 undef = .int .i64 ((k : Nat) : Int)) (s15 : A.tmps.getD 15 undef = .slice ra 512 rc) (s16 : A.tmps.getD 16 undef = .int .i64 0)
    (hend : ∀ (u : Nat → Value) w', w' = w.drew → Q .normal ((((((((((((((A).put (some 116) (u 116)).put (some 117) (u 117)).put (some 118) (u 118)).put (some 119) (u 119)).put (some 120) (u 120)).put (some 121) (u 121)).put (some 122) (u 122)).put (some 123) (u 123)).put (some 124) (u 124)).put (some 125) (u 125)).put (some 126) (u 126)).put (some 127) (u 127)).put (some 128) (.bool false)) w') :
    (Code.region 27 (Pl.find 27 ((Tryz.f6.body).getD .skip)) true).wp Tryz.prog Q A w := by
  have hA := Pl.At.same (v := .int .i64 0) (d := 16) (Pl.At.same (v := .slice ra 512 rc) (d := 15) (Pl.At.same (v := .int .i64 ((k : Nat) : Int)) (d := 14) (Pl.At.same (v := .slice (some ⟨b, off, none⟩) 4 cap) (d := 9) (Pl.At.here hsz hdf) s9) s14) s15) s16
  refine Pl.H.start (S := fun w' => Bs w' ra 512 ys ∧ w'.cell? ⟨b, off + k * 2 + 1, none⟩ = some (.slice sa 512 sc) ∧ Bs w' sa 512 ys) (by kernel_rfl) hA (show (fun (w' : World) => Bs w' ra 512 ys ∧ w'.cell? ⟨b, off + k * 2 + 1, none⟩ = some (.slice sa 512 sc) ∧ Bs w' sa 512 ys) w.drew from h0) ?_
  rw [show (Pl.find 27 ((Tryz.f6.body).getD .skip)).size = 13 by kernel_rfl]
  refine Pl.H.take 0 116 (.int .i64 0) (by kernel_rfl) (by kernel_rfl) (by kernel_rfl) (Pl.free 0 (by kernel_rfl)) (Pl.move 0 (.tmp 16) (by kernel_rfl) (by decide)) (show (fun (w' : World) => Bs w' ra 512 ys ∧ w'.cell? ⟨b, off + k * 2 + 1, none⟩ = some (.slice sa 512 sc) ∧ Bs w' sa 512 ys) w.drew from h0) ?_
  refine Pl.H.take 1 117 (.bool false) (by kernel_rfl) (by kernel_rfl) (by kernel_rfl) (Pl.free 1 (by kernel_rfl)) (Pl.binV 1 .neq 24 24 (.tmp 116) (.const (.int .i64 0)) (.int .i64 0) (.int .i64 0) _ (by kernel_rfl) (by decide) (by decide) rfl rfl (neqFE _ _ _ _ (by decide))) (show (fun (w' : World) => Bs w' ra 512 ys ∧ w'.cell? ⟨b, off + k * 2 + 1, none⟩ = some (.slice sa 512 sc) ∧ Bs w' sa 512 ys) w.drew from h0) ?_
  refine Pl.H.take 2 118 (.bool false) (by kernel_rfl) (by kernel_rfl) (by kernel_rfl) (Pl.free 2 (by kernel_rfl)) (Pl.move 2 (.tmp 117) (by kernel_rfl) (by decide)) (show (fun (w' : World) => Bs w' ra 512 ys ∧ w'.cell? ⟨b, off + k * 2 + 1, none⟩ = some (.slice sa 512 sc) ∧ Bs w' sa 512 ys) w.drew from h0) ?_
  refine Pl.H.take 3 119 (.slice ra 512 rc) (by kernel_rfl) (by kernel_rfl) (by kernel_rfl) (Pl.guarded 3 2 118 false (by kernel_rfl) (by kernel_rfl) (by decide) rfl) (Pl.move 3 (.tmp 15) (by kernel_rfl) (by decide)) (show (fun (w' : World) => Bs w' ra 512 ys ∧ w'.cell? ⟨b, off + k * 2 + 1, none⟩ = some (.slice sa 512 sc) ∧ Bs w' sa 512 ys) w.drew from h0) ?_
  refine Pl.H.take 4 120 (.string (bstr ys)) (by kernel_rfl) (by kernel_rfl) (by kernel_rfl) (Pl.guarded 4 2 118 false (by kernel_rfl) (by kernel_rfl) (by decide) rfl) (Pl.convV 4 32 9 (.tmp 119) (.slice ra 512 rc) _ (by kernel_rfl) (by decide) rfl (fun w' hS => run_string_of _ hS.1)) (show (fun (w' : World) => Bs w' ra 512 ys ∧ w'.cell? ⟨b, off + k * 2 + 1, none⟩ = some (.slice sa 512 sc) ∧ Bs w' sa 512 ys) w.drew from h0) ?_
  refine Pl.H.take 5 121 (.slice (some ⟨b, off, none⟩) 4 cap) (by kernel_rfl) (by kernel_rfl) (by kernel_rfl) (Pl.guarded 5 2 118 false (by kernel_rfl) (by kernel_rfl) (by decide) rfl) (Pl.move 5 (.tmp 9) (by kernel_rfl) (by decide)) (show (fun (w' : World) => Bs w' ra 512 ys ∧ w'.cell? ⟨b, off + k * 2 + 1, none⟩ = some (.slice sa 512 sc) ∧ Bs w' sa 512 ys) w.drew from h0) ?_
  refine Pl.H.take 6 122 (.int .i64 ((k : Nat) : Int)) (by kernel_rfl) (by kernel_rfl) (by kernel_rfl) (Pl.guarded 6 2 118 false (by kernel_rfl) (by kernel_rfl) (by decide) rfl) (Pl.move 6 (.tmp 14) (by kernel_rfl) (by decide)) (show (fun (w' : World) => Bs w' ra 512 ys ∧ w'.cell? ⟨b, off + k * 2 + 1, none⟩ = some (.slice sa 512 sc) ∧ Bs w' sa 512 ys) w.drew from h0) ?_
  refine Pl.H.take 7 123 (.pointer (some ⟨b, off + k * 2, none⟩)) (by kernel_rfl) (by kernel_rfl) (by kernel_rfl) (Pl.guarded 7 2 118 false (by kernel_rfl) (by kernel_rfl) (by decide) rfl) (Pl.index 7 52 (.tmp 121) (.tmp 122) _ (by kernel_rfl) (by decide) (by decide) (ixIm b off 4 cap k hk)) (show (fun (w' : World) => Bs w' ra 512 ys ∧ w'.cell? ⟨b, off + k * 2 + 1, none⟩ = some (.slice sa 512 sc) ∧ Bs w' sa 512 ys) w.drew from h0) ?_
  refine Pl.H.take 8 124 (.pointer (some ⟨b, off + k * 2 + 1, none⟩)) (by kernel_rfl) (by kernel_rfl) (by kernel_rfl) (Pl.guarded 8 2 118 false (by kernel_rfl) (by kernel_rfl) (by decide) rfl) (Pl.field 8 76 (.tmp 123) 1 _ (by kernel_rfl) (by decide) (fdImgB b (off + k * 2))) (show (fun (w' : World) => Bs w' ra 512 ys ∧ w'.cell? ⟨b, off + k * 2 + 1, none⟩ = some (.slice sa 512 sc) ∧ Bs w' sa 512 ys) w.drew from h0) ?_
  refine Pl.H.take 9 125 (.slice sa 512 sc) (by kernel_rfl) (by kernel_rfl) (by kernel_rfl) (Pl.guarded 9 2 118 false (by kernel_rfl) (by kernel_rfl) (by decide) rfl) (Pl.load 9 32 (.tmp 124) _ (by kernel_rfl) (by decide) (fun w' hS => ldBs b (off + k * 2 + 1) _ _ _ w' hS.2.1)) (show (fun (w' : World) => Bs w' ra 512 ys ∧ w'.cell? ⟨b, off + k * 2 + 1, none⟩ = some (.slice sa 512 sc) ∧ Bs w' sa 512 ys) w.drew from h0) ?_
  refine Pl.H.take 10 126 (.string (bstr ys)) (by kernel_rfl) (by kernel_rfl) (by kernel_rfl) (Pl.guarded 10 2 118 false (by kernel_rfl) (by kernel_rfl) (by decide) rfl) (Pl.convV 10 32 9 (.tmp 125) (.slice sa 512 sc) _ (by kernel_rfl) (by decide) rfl (fun w' hS => run_string_of _ hS.2.2)) (show (fun (w' : World) => Bs w' ra 512 ys ∧ w'.cell? ⟨b, off + k * 2 + 1, none⟩ = some (.slice sa 512 sc) ∧ Bs w' sa 512 ys) w.drew from h0) ?_
  refine Pl.H.take 11 127 (.bool false) (by kernel_rfl) (by kernel_rfl) (by kernel_rfl) (Pl.guarded 11 2 118 false (by kernel_rfl) (by kernel_rfl) (by decide) rfl) (Pl.binV 11 .neq 9 9 (.tmp 120) (.tmp 126) (.string (bstr ys)) (.string (bstr ys)) _ (by kernel_rfl) (by decide) (by decide) rfl rfl (neqStrM _ _ _)) (show (fun (w' : World) => Bs w' ra 512 ys ∧ w'.cell? ⟨b, off + k * 2 + 1, none⟩ = some (.slice sa 512 sc) ∧ Bs w' sa 512 ys) w.drew from h0) ?_
  refine Pl.H.take 12 128 (.bool false) (by kernel_rfl) (by kernel_rfl) (by kernel_rfl) (Pl.free 12 (by kernel_rfl)) (Pl.pickF 12 (.tmp 118) (.const (.bool true)) (.tmp 127) (by kernel_rfl) (by decide) (by decide) rfl) (show (fun (w' : World) => Bs w' ra 512 ys ∧ w'.cell? ⟨b, off + k * 2 + 1, none⟩ = some (.slice sa 512 sc) ∧ Bs w' sa 512 ys) w.drew from h0) ?_
  refine Pl.H.done (by kernel_rfl) (fun A' hA' => ?_)
  rw [Pl.At.ext hA' (((((((((((((hA.put 116 _).put 117 _).put 118 _).put 119 _).put 120 _).put 121 _).put 122 _).put 123 _).put 124 _).put 125 _).put 126 _).put 127 _).put 128 _)]
  exact hend (fun d => if d = 116 then .int .i64 0 else if d = 117 then .bool false else if d = 118 then .bool false else if d = 119 then .slice ra 512 rc else if d = 120 then .string (bstr ys) else if d = 121 then .slice (some ⟨b, off, none⟩) 4 cap else if d = 122 then .int .i64 ((k : Nat) : Int) else if d = 123 then .pointer (some ⟨b, off + k * 2, none⟩) else if d = 124 then .pointer (some ⟨b, off + k * 2 + 1, none⟩) else if d = 125 then .slice sa 512 sc else if d = 126 then .string (bstr ys) else if d = 127 then .bool false else undef) _ rfl

end Go.Proofs.YtpggkfdnpdhkfaaGreat

namespace Go.Proofs.YtpggkfdnpdhkfaaGreat
open Go.RowKit
set_option maxRecDepth 100000
set_option linter.unusedVariables false

theorem upd_zero (n k : Nat) (hk : k < n) : (Ds.new n).page k = List.replicate 512 0 := by
  show ((List.replicate (512 * n) 0).drop (512 * k)).take 512 = _
  rw [List.drop_replicate, List.take_replicate, show min 512 (512 * n - 512 * k) = 512 by omega]
theorem opened_new {n f : Nat} (hn1 : 1 ≤ n) (hn2 : n ≤ 64) (h1 : 1 ≤ f) (h2 : f ≤ 64) : (Po.opened (Ds.new n) n f).Fine n (512 + 4 * n) ∧ (Po.opened (Ds.new n) n f).D.ss = [] ∧ (Po.opened (Ds.new n) n f).D.sb = 0 ∧ ∀ k, k < n → (Po.opened (Ds.new n) n f).con k = List.replicate 512 0 := by
  have hE := Ds.Easy.new hn1 hn2
  obtain ⟨q1, q2, q3⟩ := opened_ss (f := f) hE (fun x hx => by cases hx) (by show (0 : Nat) ≤ _; omega) (by omega) h1 h2 (by show 0 + 65536 ≤ _; omega)
  refine ⟨q3.more (by omega) (by omega), q1, q2, fun k hk => ?_⟩
  rw [opened_con (f := f) hE (fun x hx => by cases hx) (by show (0 : Nat) ≤ _; omega) (by omega) h1 h2 (by show 0 + 65536 ≤ _; omega) (gs := []) (t := []) (fun g hg => by cases hg) dec_nil rfl k hk]
  exact upd_zero n k hk
/-- The first pages, that are noughts, in images. -/
def ZI (w2 wr : World) (v : Sl) (l : List Ix) (k : Nat) : Prop := GI (fun i => w2.heap.size ≤ i) w2.heap.size wr v l ∧ ims l = pgs (fun _ => List.replicate 512 0) k 0 ∧ Below w2.heap.size w2 wr
theorem pgs_snoc (f : Nat → List Nat) : ∀ n s, pgs f (n + 1) s = pgs f n s ++ [⟨((s + n : Nat) : Int), f (s + n)⟩]
  | 0, s => rfl
  | n + 1, s => by
    show (⟨((s : Nat) : Int), f s⟩ : Im) :: pgs f (n + 1) (s + 1) = (⟨((s : Nat) : Int), f s⟩ : Im) :: (pgs f n (s + 1) ++ _)
    rw [pgs_snoc f n (s + 1), show s + 1 + n = s + (n + 1) by omega]
theorem li_start {M : PoM} (S : PoolS M) {w w2 wr : World} {m p d f : Nat} (h1 : 1 ≤ f) (h2 : f ≤ 64) (ho : OM M (fun _ => False) w w2 m p d (Po.opened (Ds.new 4) 4 f)) {v : Sl} {l : List Ix} (hz : ZI w2 wr v l 4) (hv : v.len ≤ 1000) : LI M w wr m p d 528 0 v := by
  obtain ⟨q1, q2, q3, q4⟩ := opened_new (n := 4) (f := f) (by omega) (by omega) h1 h2
  refine ⟨_, _, l, ho.more S hz.2.2, q1, by rw [q3]; exact Nat.le_refl _, (hz.1.gr (by omega)).mono (fun k hk hlt => .inr ⟨hk.elim id id, hlt⟩), ?_⟩
  rw [hz.2.1]
  exact pgs_at 4 0 (fun k _ hk => (q4 k (by omega)).symm)
theorem zi_step {w2 wr w' : World} {v v' : Sl} {l : List Ix} {k : Nat} (hz : ZI w2 wr v l k) {C : Obj} (hC : C = .cells (vals (List.replicate 512 0)).toArray 5) (ho : OwnI w' v' (l ++ [⟨((k : Nat) : Int), ⟨some ⟨wr.heap.size, 0, none⟩, 512, 512⟩, List.replicate 512 0⟩])) (hf : Frm (fun i => v.blk = some i) (wr.alloc C) w') (hb : v'.blk = v.blk ∨ ∃ i, v'.blk = some i ∧ (wr.alloc C).heap.size ≤ i) : ZI w2 w' v' (l ++ [⟨((k : Nat) : Int), ⟨some ⟨wr.heap.size, 0, none⟩, 512, 512⟩, List.replicate 512 0⟩]) (k + 1) := by
  have hA := below_alloc wr C
  have h1 := hz.1.keep hA
  have hs := hz.2.2.size
  have hcm : Cm (fun i => w2.heap.size ≤ i ∧ v.blk ≠ some i) (wr.alloc C) ⟨some ⟨wr.heap.size, 0, none⟩, 512, 512⟩ (List.replicate 512 0) := by
    refine Own.cm _ ?_ (bytes_zero 512) (fun i hi => ?_)
    · rw [hC]
      exact own_made wr 512 (by omega) (List.replicate 512 0) List.length_replicate
    · have e : i = wr.heap.size := by simpa [Sl.blk] using hi.symm
      rw [e]
      exact ⟨hs, fun e2 => by have := hz.1.own.lt e2; omega⟩
  obtain ⟨q1, q2⟩ := h1.add hcm ho hf hb (Nat.le_trans hs hA.size)
  refine ⟨q1, ?_, (hz.2.2.trans (hA.mono hs)).trans q2⟩
  rw [ims_append, hz.2.1, pgs_snoc, Nat.zero_add]
  rfl

set_option maxHeartbeats 32000000 in
set_option maxRecDepth 100000 in
theorem last_walk {M : PoM} (S : PoolS M) (w : World) (fr : Nat) (hfr : fr ≤ 255) (a : Option Addr) (len cap : Nat) (l : List Ag) (hA : Ags w a len l) :
    Calls Tryz.prog 6 #[.int .u8 ((fr : Nat) : Int), .slice a len cap] w fun e w' => e = .returned (.bool true) ∧ Below w.heap.size w w' := by
  obtain ⟨k0, hk0⟩ : ∃ k, k = fr % 4 := ⟨_, rfl⟩
  obtain ⟨f, hf⟩ : ∃ f, f = k0 + 1 := ⟨_, rfl⟩
  have hf1 : 1 ≤ f := by omega
  have hf4 : f ≤ 4 := by omega
  have HN := hide (od_new w 4 (by omega) (by omega))
  have HOP : Hid (∀ w1 d, OD (fun _ => False) w w1 d (Ds.new 4) → Calls Tryz.prog 8 #[at0 d, .int .i64 ((f : Nat) : Int)] w1 fun e w' => ∃ m p, e = .returned (.tuple #[at0 m, .int .i64 0]) ∧ OM M (fun _ => False) w w' m p d (Po.opened (Ds.new 4) 4 f) ∧ Kept6 (fun _ => False) w1 w') := fun w1 d h => od_open S h (Ds.Easy.new (by omega) (by omega)) (by show (0 : Nat) ≤ _; omega) (by omega) hf1 (by omega) (by show 0 + 65536 ≤ _; omega)
  have HAW : Hid (∀ w', Calls Tryz.prog 10 #[] w' fun e w2 => e = .returned (.bool true) ∧ Below w'.heap.size w' w2) := fun w' => awakeM_any S w'
  have HA := hide hA
  have HS := hide S
  have hbig := hA.big
  have HFK : Hid ((1 : Int) + ((k0 : Nat) : Int) = ((f : Nat) : Int)) := by show _ = _; omega
  have hcv : ∀ w : World, (convert 5 3 (.int .u8 (((fr : Nat) : Int) % 4))).run Tryz.prog w = .ok (.int .i64 ((k0 : Nat) : Int)) w := by
    intro w
    have e1 : ((fr : Nat) : Int) % 4 = ((k0 : Nat) : Int) := by omega
    have e2 : IntKind.i64.wrap ((k0 : Nat) : Int) = ((k0 : Nat) : Int) := by rw [IntKind.wrap_i64]; omega
    simp [go_sem, e1, e2]
  have hk07 : k0 < 4 := by omega
  obtain ⟨C, hC⟩ : ∃ C, C = (.cells (vals (List.replicate 512 0)).toArray 5 : Obj) := ⟨_, rfl⟩
  have HCE := hide hC
  have HMK : Hid (∀ wr : World, (Instr.makeSlice 32 (.int .i64 512) (.int .i64 512)).run Tryz.prog wr = .ok (.slice (some ⟨wr.heap.size, 0, none⟩) 512 512) (wr.alloc C)) := fun wr => by rw [hC]; exact make_bytes 512 (by omega) wr
  clear hk0 hf hA S hC
  unfold at0 at *
  go_enter Tryz.func6, Tryz.ntmps6
  go_wp2_with fail
  refine HN.out.mono ?_
  rintro e w1 ⟨d, rfl, hd⟩
  have H1 := hide (HOP.out w1 d hd)
  clear hd HOP HN
  unfold at0 at *
  go_wp2_with fail
  simp only [HFK.out]
  refine H1.out.mono ?_
  rintro e w2 ⟨m, p, rfl, ho, _⟩
  have O2 := hide ho
  have HLI := hide (lightA_any w2 a len cap l (HA.out.keep ho.below))
  clear ho H1 HFK hcv
  unfold at0 at *
  have hnil : ∀ w : World, (binOp .eql 27 (.pointer (some ⟨m, 0, none⟩)) (.pointer none)).run Tryz.prog w = .ok (.bool false) w := fun _ => rfl
  have hnil2 : ∀ w : World, (binOp .neq 27 (.pointer (some ⟨m, 0, none⟩)) (.pointer none)).run Tryz.prog w = .ok (.bool true) w := fun _ => rfl
  go_wp2_with fail
  refine HLI.out.mono ?_
  rintro e w2' ⟨hw2, r, rfl⟩
  obtain rfl := hw2.symm
  clear hw2 HLI
  cases r
  · go_wp2_with fail
    refine (HAW.out _).mono ?_
    rintro e w3 ⟨rfl, hb3⟩
    have HB3 := hide (rBelowM O2.out.below hb3)
    clear hb3
    go_wp2_with fail
    go_ret
    exact ⟨rfl, HB3.out⟩
  have HZ0 : Hid (ZI w2 (w2.alloc (.cells #[] 76)) ⟨some ⟨w2.heap.size, 0, none⟩, 0, 0⟩ [] 0) := ⟨GI.new _ _ w2 (Nat.le_refl _), rfl, below_alloc w2 _⟩
  go_wp2_with fail
  go_loopw [9, 10] (fun nv iv wr => ∃ (k : Nat) (v : Sl) (li : List Ix), k ≤ 4 ∧ v.len = k ∧ iv = .int .i64 k ∧ nv = v.val ∧ Hid (ZI w2 wr v li k)) (fun _ iv _ => 4 - (intOf iv).toNat)
  case atStart => exact ⟨0, _, _, by omega, rfl, rfl, rfl, HZ0⟩
  case round =>
    obtain ⟨k, ⟨va, vl, vc⟩, li, hk4, hvl, rfl, rfl, hZ⟩ := hrel
    clear HZ0
    simp only at hvl
    subst hvl
    simp only [Sl.val]
    by_cases hk : vl < 4
    · have i3 : ((vl : Nat) : Int) < 4 := by omega
      have HM := hide (HMK.out wr)
      have HOW := hide ((hZ.out.1.keep (below_alloc wr C)).own)
      go_wp2_with (first | refine wpList_make _ rfl 32 (.const (.int .i64 512)) (.const (.int .i64 512)) rfl (.int .i64 512) (.int .i64 512) (.slice (some ⟨wr.heap.size, 0, none⟩) 512 512) rfl rfl (wr.alloc C) HM.out ?_ | (at_builtin; refine wpList_append_im (wr.alloc C) ⟨((vl : Nat) : Int), ⟨some ⟨wr.heap.size, 0, none⟩, 512, 512⟩, List.replicate 512 0⟩ rfl (.tmp 63) (.tmp 67) rfl ⟨va, vl, vc⟩ li rfl (by rw [alloc_size]; rfl) HOW.out (by show vl + 1 ≤ 1000000; omega) ?_))
      intro v6 w6 ho6 hl6 hf6 hb6
      have HZ6 := hide (zi_step hZ.out HCE.out ho6 hf6 (by rw [alloc_size]; exact hb6))
      clear ho6 hf6 hb6 HOW HM hZ
      obtain ⟨va6, vl6, vc6⟩ := v6
      simp only at hl6
      subst hl6
      simp only [Sl.val]
      go_wp2_with fail
      go_roundw
      case rel => exact ⟨vl + 1, ⟨va6, vl + 1, vc6⟩, _, by omega, rfl, by go_num, rfl, HZ6⟩
      case measure => simp only [intOf]; omega
    · obtain rfl : vl = 4 := by omega
      have i3 : ¬ (4 : Int) < 4 := by omega
      have HST : Hid (LI M w wr m p d (528 + 60 * 0) (65536 * 0) ⟨va, 4, vc⟩) := li_start HS.out hf1 (by omega) O2.out hZ.out (by show 4 ≤ 1000; omega)
      clear hZ O2 HMK HCE
      go_wp2_with fail
      go_loopw [9, 11] (fun nv iv wr => ∃ (j : Nat) (v : Sl), j ≤ len ∧ j ≤ 20 ∧ iv = .int .i64 j ∧ nv = v.val ∧ Hid (LI M w wr m p d (528 + 60 * j) (65536 * j) v)) (fun _ iv _ => 20 - (intOf iv).toNat)
      case atStart => exact ⟨0, ⟨va, 4, vc⟩, by omega, by omega, rfl, rfl, HST⟩
      case round =>
        obtain ⟨j, ⟨va, vl, vc⟩, hj, hj2, rfl, rfl, hL⟩ := hrel
        clear HST
        simp only [Sl.val]
        by_cases hgo : j < len ∧ j < 20
        · obtain ⟨hlt, hlt2⟩ := hgo
          have i5 : ((j : Nat) : Int) < ((len : Nat) : Int) := by omega
          have i6 : ((j : Nat) : Int) < 20 := by omega
          obtain ⟨b, off, ha, hat⟩ := (HA.out.keep hL.out.below).at_ j hlt
          have d0 := hat.c0
          have d1 := hat.c1
          have d2 := hat.c2
          have d3 := hat.c3
          have d4 := hat.c4
          have hin := hat.inn
          clear hat
          subst ha
          generalize l.getD j agD = t at *
          obtain ⟨dd, ⟨pa, pl, pc⟩, ⟨ba, bl, bc⟩, nn, ⟨qa, ql, qc⟩, ps, bb, pat⟩ := t
          simp only at d0 d1 d2 d3 d4
          have hbx := below_alloc wr (.cells #[.int .i64 dd, .slice pa pl pc, .slice ba bl bc, .int .i64 nn, .slice qa ql qc] 50)
          have HLW := hide (hL.out.keep HS.out hbx)
          have HIN := hide (hin.keep hbx)
          clear hL hin hbx
          by_cases h0 : dd = 0
          · subst h0
            have HG := hide (group_any _ _ HIN.out)
            unfold Ag.cells at HG
            simp only [Sl.val] at HG
            go_wp2_with fail
            refine HG.out.mono ?_
            rintro e w2 ⟨⟨v2a, v2l, v2c⟩, l2, rfl, hg2, hi2, hb2⟩
            have hl9 : v2l ≤ 9 := by
              have h1 : l2.length = v2l := hg2.len
              have h2 : l2.length = cnt pl bl := by
                have h3 := congrArg List.length hi2
                rw [ims_length] at h3
                rw [h3]
                exact imgsOf_length _ _ _
              have : cnt pl bl ≤ 9 := Nat.min_le_right _ _
              omega
            obtain ⟨r, hap⟩ := li_apply HS.out HLW.out (by omega) hb2 hg2 hl9
            have HAP := hide hap
            unfold at0 at HAP
            simp only [Sl.val] at HAP ⊢
            clear hap hg2 hi2 hb2 hl9 HG HLW HIN
            go_wp2_with fail
            refine HAP.out.mono ?_
            rintro e w3 ⟨rfl, hn, hz⟩
            by_cases hr : r = 0
            · subst hr
              have HRA := hide (hz rfl)
              clear hn hz HAP
              go_wp2_with fail
              refine HRA.out.mono ?_
              rintro e w4 ⟨⟨va4, vl4, vc4⟩, rfl, h4⟩
              have HL : Hid (LI M w w4 m p d (552 + 60 * j + 4 * 0) (65536 * (j + 1)) ⟨va4, vl4, vc4⟩) := h4.more (by omega) (by omega) (by omega)
              clear h4 HRA
              simp only
              obtain ⟨b0, off0, hva0, hvl0⟩ := HL.out.shape
              simp only at hva0 hvl0
              subst hva0
              subst hvl0
              go_wp2_with fail
              go_loopw [14] (fun iv wz => ∃ k : Nat, k ≤ 4 ∧ iv = .int .i64 k ∧ Hid (LI M w wz m p d (552 + 60 * j + 4 * k) (65536 * (j + 1)) ⟨some ⟨b0, off0, none⟩, 4, vc4⟩)) (fun iv _ => 4 - (intOf iv).toNat)
              case atStart => exact ⟨0, by omega, rfl, HL⟩
              case round =>
                obtain ⟨k, hk4, rfl, hL⟩ := hrel
                by_cases hk : k < 4
                · have i7 : ((k : Nat) : Int) < 4 := by omega
                  have HR := hide (li_read HS.out hL.out (by omega) k hk)
                  unfold at0 at HR
                  clear hL
                  go_wp2_with fail
                  refine HR.out.mono ?_
                  rintro e w8 ⟨hL8, ⟨ra, rl, rc⟩, ys, b8, off8, sa, sc, rfl, hrl, hy1, hva, hvl, hcell, hy2⟩
                  simp only at hrl hy1
                  subst hrl
                  cases hva
                  clear hvl
                  have HR27 : Hid (∀ {Q : Exit → Act → World → Prop} {A : Act}, _) := fun {Q A} => last27 w8 b0 off0 vc4 k hk ra sa rc sc ys ⟨hy1, hcell, hy2⟩ (Q := Q) (A := A)
                  have HL8 := hide (hL8.keep HS.out (below_drew w8))
                  clear hL8 hy1 hcell hy2 HR
                  simp only [Sl.val]
                  go_wp2_with fail
                  refine Pl.region_is (ops := Pl.find 27 ((Tryz.f6.body).getD .skip)) (by kernel_rfl) ?_
                  refine HR27.out (by rfl) (by rfl) (by rfl) (by rfl) (by rfl) (by rfl) (fun u w9 hw9 => ?_)
                  rw [← hw9] at HL8
                  clear HR27 hw9
                  simp only [Act.put, List.setIfInBounds_toArray, List.set_cons_zero, List.set_cons_succ]
                  go_wp2_with fail
                  go_roundw
                  case rel => exact ⟨k + 1, by omega, by go_num, hide (by have := HL8.out; rw [show 552 + 60 * j + 4 * k + 4 = 552 + 60 * j + 4 * (k + 1) by omega] at this; exact this)⟩
                  case measure => simp only [intOf]; omega
                · obtain rfl : k = 4 := by omega
                  have i7 : ¬ (4 : Int) < 4 := by omega
                  have HN : Hid (LI M w wr m p d (528 + 60 * (j + 1)) (65536 * (j + 1)) ⟨some ⟨b0, off0, none⟩, 4, vc4⟩) := hL.out.more (by omega) (by omega) (by omega)
                  clear hL
                  go_wp2_with fail
                  go_roundw
                  case rel => exact ⟨j + 1, ⟨some ⟨b0, off0, none⟩, 4, vc4⟩, by omega, by omega, by go_num, rfl, HN⟩
                  case measure => simp only [intOf]; omega
            · have gr : (r == 0) = false := by simpa using hr
              have HL : Hid (LI M w w3 m p d (552 + 60 * j + 4 * 0) (65536 * (j + 1)) ⟨va, vl, vc⟩) := (hn hr).more (by omega) (by omega) (by omega)
              clear hn hz HAP
              obtain ⟨b0, off0, hva0, hvl0⟩ := HL.out.shape
              simp only at hva0 hvl0
              subst hva0
              subst hvl0
              go_wp2_with fail
              go_loopw [14] (fun iv wz => ∃ k : Nat, k ≤ 4 ∧ iv = .int .i64 k ∧ Hid (LI M w wz m p d (552 + 60 * j + 4 * k) (65536 * (j + 1)) ⟨some ⟨b0, off0, none⟩, 4, vc⟩)) (fun iv _ => 4 - (intOf iv).toNat)
              case atStart => exact ⟨0, by omega, rfl, HL⟩
              case round =>
                obtain ⟨k, hk4, rfl, hL⟩ := hrel
                by_cases hk : k < 4
                · have i7 : ((k : Nat) : Int) < 4 := by omega
                  have HR := hide (li_read HS.out hL.out (by omega) k hk)
                  unfold at0 at HR
                  clear hL
                  go_wp2_with fail
                  refine HR.out.mono ?_
                  rintro e w8 ⟨hL8, ⟨ra, rl, rc⟩, ys, b8, off8, sa, sc, rfl, hrl, hy1, hva, hvl, hcell, hy2⟩
                  simp only at hrl hy1
                  subst hrl
                  cases hva
                  clear hvl
                  have HR27 : Hid (∀ {Q : Exit → Act → World → Prop} {A : Act}, _) := fun {Q A} => last27 w8 b0 off0 vc k hk ra sa rc sc ys ⟨hy1, hcell, hy2⟩ (Q := Q) (A := A)
                  have HL8 := hide (hL8.keep HS.out (below_drew w8))
                  clear hL8 hy1 hcell hy2 HR
                  simp only [Sl.val]
                  go_wp2_with fail
                  refine Pl.region_is (ops := Pl.find 27 ((Tryz.f6.body).getD .skip)) (by kernel_rfl) ?_
                  refine HR27.out (by rfl) (by rfl) (by rfl) (by rfl) (by rfl) (by rfl) (fun u w9 hw9 => ?_)
                  rw [← hw9] at HL8
                  clear HR27 hw9
                  simp only [Act.put, List.setIfInBounds_toArray, List.set_cons_zero, List.set_cons_succ]
                  go_wp2_with fail
                  go_roundw
                  case rel => exact ⟨k + 1, by omega, by go_num, hide (by have := HL8.out; rw [show 552 + 60 * j + 4 * k + 4 = 552 + 60 * j + 4 * (k + 1) by omega] at this; exact this)⟩
                  case measure => simp only [intOf]; omega
                · obtain rfl : k = 4 := by omega
                  have i7 : ¬ (4 : Int) < 4 := by omega
                  have HN : Hid (LI M w wr m p d (528 + 60 * (j + 1)) (65536 * (j + 1)) ⟨some ⟨b0, off0, none⟩, 4, vc⟩) := hL.out.more (by omega) (by omega) (by omega)
                  clear hL
                  go_wp2_with fail
                  go_roundw
                  case rel => exact ⟨j + 1, ⟨some ⟨b0, off0, none⟩, 4, vc⟩, by omega, by omega, by go_num, rfl, HN⟩
                  case measure => simp only [intOf]; omega
          by_cases h2 : dd = 2
          · subst h2
            have HCK := hide (li_check HS.out HLW.out (by omega) (by omega))
            unfold at0 at HCK
            clear HLW HIN
            go_wp2_with fail
            refine HCK.out.mono ?_
            rintro e w3 ⟨rfl, h3⟩
            have HL : Hid (LI M w w3 m p d (552 + 60 * j + 4 * 0) (65536 * (j + 1)) ⟨va, vl, vc⟩) := h3.more (by omega) (by omega) (by omega)
            clear h3 HCK

            obtain ⟨b0, off0, hva0, hvl0⟩ := HL.out.shape
            simp only at hva0 hvl0
            subst hva0
            subst hvl0
            go_wp2_with fail
            go_loopw [14] (fun iv wz => ∃ k : Nat, k ≤ 4 ∧ iv = .int .i64 k ∧ Hid (LI M w wz m p d (552 + 60 * j + 4 * k) (65536 * (j + 1)) ⟨some ⟨b0, off0, none⟩, 4, vc⟩)) (fun iv _ => 4 - (intOf iv).toNat)
            case atStart => exact ⟨0, by omega, rfl, HL⟩
            case round =>
              obtain ⟨k, hk4, rfl, hL⟩ := hrel
              by_cases hk : k < 4
              · have i7 : ((k : Nat) : Int) < 4 := by omega
                have HR := hide (li_read HS.out hL.out (by omega) k hk)
                unfold at0 at HR
                clear hL
                go_wp2_with fail
                refine HR.out.mono ?_
                rintro e w8 ⟨hL8, ⟨ra, rl, rc⟩, ys, b8, off8, sa, sc, rfl, hrl, hy1, hva, hvl, hcell, hy2⟩
                simp only at hrl hy1
                subst hrl
                cases hva
                clear hvl
                have HR27 : Hid (∀ {Q : Exit → Act → World → Prop} {A : Act}, _) := fun {Q A} => last27 w8 b0 off0 vc k hk ra sa rc sc ys ⟨hy1, hcell, hy2⟩ (Q := Q) (A := A)
                have HL8 := hide (hL8.keep HS.out (below_drew w8))
                clear hL8 hy1 hcell hy2 HR
                simp only [Sl.val]
                go_wp2_with fail
                refine Pl.region_is (ops := Pl.find 27 ((Tryz.f6.body).getD .skip)) (by kernel_rfl) ?_
                refine HR27.out (by rfl) (by rfl) (by rfl) (by rfl) (by rfl) (by rfl) (fun u w9 hw9 => ?_)
                rw [← hw9] at HL8
                clear HR27 hw9
                simp only [Act.put, List.setIfInBounds_toArray, List.set_cons_zero, List.set_cons_succ]
                go_wp2_with fail
                go_roundw
                case rel => exact ⟨k + 1, by omega, by go_num, hide (by have := HL8.out; rw [show 552 + 60 * j + 4 * k + 4 = 552 + 60 * j + 4 * (k + 1) by omega] at this; exact this)⟩
                case measure => simp only [intOf]; omega
              · obtain rfl : k = 4 := by omega
                have i7 : ¬ (4 : Int) < 4 := by omega
                have HN : Hid (LI M w wr m p d (528 + 60 * (j + 1)) (65536 * (j + 1)) ⟨some ⟨b0, off0, none⟩, 4, vc⟩) := hL.out.more (by omega) (by omega) (by omega)
                clear hL
                go_wp2_with fail
                go_roundw
                case rel => exact ⟨j + 1, ⟨some ⟨b0, off0, none⟩, 4, vc⟩, by omega, by omega, by go_num, rfl, HN⟩
                case measure => simp only [intOf]; omega
          by_cases h3 : dd = 3
          · subst h3
            have HEV := hide (li_evict HS.out HLW.out (by omega) nn HIN.out.wn)
            unfold at0 at HEV
            clear HLW HIN
            go_wp2_with fail
            refine HEV.out.mono ?_
            rintro e w3 ⟨r, rfl, h3⟩
            have HL : Hid (LI M w w3 m p d (552 + 60 * j + 4 * 0) (65536 * (j + 1)) ⟨va, vl, vc⟩) := h3.more (by omega) (by omega) (by omega)
            clear h3 HEV

            obtain ⟨b0, off0, hva0, hvl0⟩ := HL.out.shape
            simp only at hva0 hvl0
            subst hva0
            subst hvl0
            go_wp2_with fail
            go_loopw [14] (fun iv wz => ∃ k : Nat, k ≤ 4 ∧ iv = .int .i64 k ∧ Hid (LI M w wz m p d (552 + 60 * j + 4 * k) (65536 * (j + 1)) ⟨some ⟨b0, off0, none⟩, 4, vc⟩)) (fun iv _ => 4 - (intOf iv).toNat)
            case atStart => exact ⟨0, by omega, rfl, HL⟩
            case round =>
              obtain ⟨k, hk4, rfl, hL⟩ := hrel
              by_cases hk : k < 4
              · have i7 : ((k : Nat) : Int) < 4 := by omega
                have HR := hide (li_read HS.out hL.out (by omega) k hk)
                unfold at0 at HR
                clear hL
                go_wp2_with fail
                refine HR.out.mono ?_
                rintro e w8 ⟨hL8, ⟨ra, rl, rc⟩, ys, b8, off8, sa, sc, rfl, hrl, hy1, hva, hvl, hcell, hy2⟩
                simp only at hrl hy1
                subst hrl
                cases hva
                clear hvl
                have HR27 : Hid (∀ {Q : Exit → Act → World → Prop} {A : Act}, _) := fun {Q A} => last27 w8 b0 off0 vc k hk ra sa rc sc ys ⟨hy1, hcell, hy2⟩ (Q := Q) (A := A)
                have HL8 := hide (hL8.keep HS.out (below_drew w8))
                clear hL8 hy1 hcell hy2 HR
                simp only [Sl.val]
                go_wp2_with fail
                refine Pl.region_is (ops := Pl.find 27 ((Tryz.f6.body).getD .skip)) (by kernel_rfl) ?_
                refine HR27.out (by rfl) (by rfl) (by rfl) (by rfl) (by rfl) (by rfl) (fun u w9 hw9 => ?_)
                rw [← hw9] at HL8
                clear HR27 hw9
                simp only [Act.put, List.setIfInBounds_toArray, List.set_cons_zero, List.set_cons_succ]
                go_wp2_with fail
                go_roundw
                case rel => exact ⟨k + 1, by omega, by go_num, hide (by have := HL8.out; rw [show 552 + 60 * j + 4 * k + 4 = 552 + 60 * j + 4 * (k + 1) by omega] at this; exact this)⟩
                case measure => simp only [intOf]; omega
              · obtain rfl : k = 4 := by omega
                have i7 : ¬ (4 : Int) < 4 := by omega
                have HN : Hid (LI M w wr m p d (528 + 60 * (j + 1)) (65536 * (j + 1)) ⟨some ⟨b0, off0, none⟩, 4, vc⟩) := hL.out.more (by omega) (by omega) (by omega)
                clear hL
                go_wp2_with fail
                go_roundw
                case rel => exact ⟨j + 1, ⟨some ⟨b0, off0, none⟩, 4, vc⟩, by omega, by omega, by go_num, rfl, HN⟩
                case measure => simp only [intOf]; omega
          have g0 : (dd == 0) = false := by simpa using h0
          have g2 : (dd == 2) = false := by simpa using h2
          have g3 : (dd == 3) = false := by simpa using h3
          have HL : Hid (LI M w (wr.alloc (.cells #[.int .i64 dd, .slice pa pl pc, .slice ba bl bc, .int .i64 nn, .slice qa ql qc] 50)) m p d (552 + 60 * j + 4 * 0) (65536 * (j + 1)) ⟨va, vl, vc⟩) := HLW.out.more (by omega) (by omega) (by omega)
          clear HLW HIN

          obtain ⟨b0, off0, hva0, hvl0⟩ := HL.out.shape
          simp only at hva0 hvl0
          subst hva0
          subst hvl0
          go_wp2_with fail
          go_loopw [14] (fun iv wz => ∃ k : Nat, k ≤ 4 ∧ iv = .int .i64 k ∧ Hid (LI M w wz m p d (552 + 60 * j + 4 * k) (65536 * (j + 1)) ⟨some ⟨b0, off0, none⟩, 4, vc⟩)) (fun iv _ => 4 - (intOf iv).toNat)
          case atStart => exact ⟨0, by omega, rfl, HL⟩
          case round =>
            obtain ⟨k, hk4, rfl, hL⟩ := hrel
            by_cases hk : k < 4
            · have i7 : ((k : Nat) : Int) < 4 := by omega
              have HR := hide (li_read HS.out hL.out (by omega) k hk)
              unfold at0 at HR
              clear hL
              go_wp2_with fail
              refine HR.out.mono ?_
              rintro e w8 ⟨hL8, ⟨ra, rl, rc⟩, ys, b8, off8, sa, sc, rfl, hrl, hy1, hva, hvl, hcell, hy2⟩
              simp only at hrl hy1
              subst hrl
              cases hva
              clear hvl
              have HR27 : Hid (∀ {Q : Exit → Act → World → Prop} {A : Act}, _) := fun {Q A} => last27 w8 b0 off0 vc k hk ra sa rc sc ys ⟨hy1, hcell, hy2⟩ (Q := Q) (A := A)
              have HL8 := hide (hL8.keep HS.out (below_drew w8))
              clear hL8 hy1 hcell hy2 HR
              simp only [Sl.val]
              go_wp2_with fail
              refine Pl.region_is (ops := Pl.find 27 ((Tryz.f6.body).getD .skip)) (by kernel_rfl) ?_
              refine HR27.out (by rfl) (by rfl) (by rfl) (by rfl) (by rfl) (by rfl) (fun u w9 hw9 => ?_)
              rw [← hw9] at HL8
              clear HR27 hw9
              simp only [Act.put, List.setIfInBounds_toArray, List.set_cons_zero, List.set_cons_succ]
              go_wp2_with fail
              go_roundw
              case rel => exact ⟨k + 1, by omega, by go_num, hide (by have := HL8.out; rw [show 552 + 60 * j + 4 * k + 4 = 552 + 60 * j + 4 * (k + 1) by omega] at this; exact this)⟩
              case measure => simp only [intOf]; omega
            · obtain rfl : k = 4 := by omega
              have i7 : ¬ (4 : Int) < 4 := by omega
              have HN : Hid (LI M w wr m p d (528 + 60 * (j + 1)) (65536 * (j + 1)) ⟨some ⟨b0, off0, none⟩, 4, vc⟩) := hL.out.more (by omega) (by omega) (by omega)
              clear hL
              go_wp2_with fail
              go_roundw
              case rel => exact ⟨j + 1, ⟨some ⟨b0, off0, none⟩, 4, vc⟩, by omega, by omega, by go_num, rfl, HN⟩
              case measure => simp only [intOf]; omega
        · have HB5 := hide hL.out.below
          clear hL
          have hout : (((j : Nat) : Int) < ((len : Nat) : Int) ∧ j = 20) ∨ ¬ ((j : Nat) : Int) < ((len : Nat) : Int) := by omega
          rcases hout with ⟨i5, hj60⟩ | i5
          · have i6 : ¬ (((j : Nat) : Int) < 20) := by omega
            clear hj60
            go_wp2_with fail
            refine (HAW.out _).mono ?_
            rintro e w9 ⟨rfl, hb9⟩
            have HB9 := hide (rBelowM HB5.out hb9)
            clear hb9
            go_wp2_with fail
            go_ret
            exact ⟨rfl, HB9.out⟩
          · go_wp2_with fail
            refine (HAW.out _).mono ?_
            rintro e w9 ⟨rfl, hb9⟩
            have HB9 := hide (rBelowM HB5.out hb9)
            clear hb9
            go_wp2_with fail
            go_ret
            exact ⟨rfl, HB9.out⟩
end Go.Proofs.YtpggkfdnpdhkfaaGreat
