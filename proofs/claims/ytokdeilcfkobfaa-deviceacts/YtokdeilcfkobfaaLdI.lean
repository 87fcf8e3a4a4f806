/-
  The landed device: Sync, Crash.
-/
import Derived.Test.YtokdeilcfkobfaaLdH
namespace Go.Proofs.Ytokdeilcfkobfaa
open Go.RowKit

/-- A device whose numbers are in bounds. -/
structure Ds.Sane (D : Ds) (n : Nat) : Prop where
  sp : D.sp.length = 512 * n
  kp : D.kp.length = 512 * n
  n1 : 1 ≤ n
  n2 : n ≤ 64
  wr : ∀ x ∈ D.wr, x.Ok (512 * n)
  wl : D.wr.length ≤ 100000
  ks : D.ks.length + D.ap.length ≤ 1000000
  tl : D.tr.length ≤ 100000
/-- So many units, so many trimmings among them, can be kept. -/
structure Ds.Fit (D : Ds) (u0 mm : Nat) : Prop where
  tr : D.Trims u0 mm
  um : mm ≤ u0
  ua : u0 - mm ≤ D.ap.length
  pl : 0 < mm → D.kb ≤ (D.tr.getD (mm - 1) tmD).place ∧ (D.tr.getD (mm - 1) tmD).place ≤ D.kb + (D.ks.length + (u0 - mm)) ∧ (D.tr.getD (mm - 1) tmD).place ≤ 1000000000000

/-- A field's bytes turn, and the field: to a slice in a block that is not the device's. -/
theorem DevM.swap0 {w w1 : World} {p : Nat} {D : Ds} {L : Dl} (h : DevM w p D L) (f0 : Fld) (s' : Sl) (xs : List Nat) (hf : Frm (fun k => (L.s f0).blk = some k) w w1) (ho : Own 5 1 w1 s' (vals xs)) (hx : Bytes xs)
    (hb : ∀ k, s'.blk = some k → (L.s f0).blk = some k ∨ ¬ L.F p k) (i : Nat) (D' : Ds) (L' : Dl) (he : (dvCells D L).setIfInBounds i s'.val = dvCells D' L') (h0 : L'.s f0 = s' ∧ D'.b f0 = xs)
    (hL : ∀ f, f ≠ f0 → L'.s f = L.s f ∧ D'.b f = D.b f) (hw : L'.wr = L.wr ∧ D'.wr = D.wr) (ht : L'.tr = L.tr ∧ D'.tr = D.tr) : DevM (w1.setCell ⟨p, i, none⟩ s'.val) p D' L' ∧ Frm (L.F p) w (w1.setCell ⟨p, i, none⟩ s'.val) ∧ ∀ k, L'.F p k → L.F p k ∨ s'.blk = some k := by
  have hp1 : w1.heap[p]? = some (.cells (dvCells D L) 69 (0, 0)) := (hf.block p (h.lt (.inl rfl)) (h.ne f0)).trans h.blk
  have hsame := heap_setCell_same w1 p i _ 69 s'.val hp1
  have hoff : ∀ k, k ≠ p → (w1.setCell ⟨p, i, none⟩ s'.val).heap[k]? = w1.heap[k]? := fun k hk => Below.heap_setCell w1 ⟨p, i, none⟩ _ k hk
  have hkp : ∀ k, L.F p k → k ≠ p → (L.s f0).blk ≠ some k → (w1.setCell ⟨p, i, none⟩ s'.val).heap[k]? = w.heap[k]? := fun k hk h1 h2 => (hoff k h1).trans (hf.block k (h.lt hk) h2)
  have hsp : ∀ k, s'.blk = some k → k ≠ p := by
    intro k hk e
    rcases hb k hk with h1 | h1
    · exact h.ne f0 (by rw [← e]; exact h1)
    · exact h1 (.inl e)
  refine ⟨⟨by rw [hsame, he], fun f => ?_, fun f => ?_, fun f g k hf1 hg1 => ?_, ?_, ?_⟩, (hf.mono (fun k _ e => .inr (.inl ⟨f0, e⟩))).setCell (p := ⟨p, i, none⟩) (.inl rfl) _, ?_⟩
  · by_cases e : f = f0
    · subst e
      rw [h0.1, h0.2]
      exact ho.frame fun k hk => hoff k (hsp k hk)
    · rw [(hL f e).1, (hL f e).2]
      refine (h.own f).frame fun k hk => hkp k (.inr (.inl ⟨f, hk⟩)) (fun e' => h.ne f (by rw [← e']; exact hk)) (fun e' => e (h.apart f f0 k hk e'))
  · by_cases e : f = f0
    · subst e; rw [h0.2]; exact hx
    · rw [(hL f e).2]; exact h.byt f
  · by_cases e : f = f0
    · by_cases e2 : g = f0
      · rw [e, e2]
      · rw [e, h0.1] at hf1
        rw [(hL g e2).1] at hg1
        rcases hb k hf1 with h1 | h1
        · rw [e]; exact h.apart f0 g k h1 hg1
        · exact absurd (.inr (.inl ⟨g, hg1⟩)) h1
    · by_cases e2 : g = f0
      · rw [e2, h0.1] at hg1
        rw [(hL f e).1] at hf1
        rcases hb k hg1 with h1 | h1
        · rw [e2]; exact h.apart f f0 k hf1 h1
        · exact absurd (.inr (.inl ⟨f, hf1⟩)) h1
      · rw [(hL f e).1] at hf1
        rw [(hL g e2).1] at hg1
        exact h.apart f g k hf1 hg1
  · rw [hw.1, hw.2]
    exact h.wr.frame fun k hk => hkp k (.inr (.inr (.inl hk))) (fun e => h.neW (by rw [← e]; exact hk)) (h.neWf f0 hk)
  · rw [ht.1, ht.2]
    exact h.tr.frame fun k hk => hkp k (.inr (.inr (.inr hk))) (fun e => h.neT (by rw [← e]; exact hk)) (h.neTf f0 hk)
  · intro k hk
    rcases hk with h1 | ⟨f, h1⟩ | h1 | h1
    · exact .inl (.inl h1)
    · by_cases e : f = f0
      · rw [e, h0.1] at h1
        exact .inr h1
      · rw [(hL f e).1] at h1
        exact .inl (.inr (.inl ⟨f, h1⟩))
    · rw [hw.1] at h1; exact .inl (.inr (.inr (.inl h1)))
    · rw [ht.1] at h1; exact .inl (.inr (.inr (.inr h1)))

theorem Sl.from0 {e : TypeId} {z : Nat} {w : World} {s : Sl} {vs : List Value} (h : Own e z w s vs) : s.from_ 0 = s := by
  obtain ⟨a, len, cap⟩ := s
  unfold Sl.from_ fromA
  simp only [Nat.sub_zero, Sl.mk.injEq, and_true]
  split
  · rfl
  · cases a with
    | none => rfl
    | some x =>
      simp only [Option.map_some, Nat.zero_mul]
      congr 1
theorem splice_all (xs ys : List Nat) (h : xs.length = ys.length) : splice xs 0 ys = ys := by
  unfold splice
  rw [List.take_zero, List.nil_append, Nat.zero_add, ← h, List.drop_length, List.append_nil]

set_option maxHeartbeats 2000000 in
set_option maxRecDepth 100000 in
theorem crash2 (w : World) (p : Nat) (D : Ds) (L : Dl) (h : DevM w p D L) (hlk : D.sp.length = D.kp.length)
    {Q : Exit → Act → World → Prop} {A : Act} (hsz : A.tmps.size = 52) (hdf : A.defers = []) (s0 : A.tmps.getD 0 undef = .pointer (some ⟨p, 0, none⟩))
    (hend : ∀ (u : Nat → Value) w', Turned w p L w' { D with sp := D.kp } L → Q .normal ((((((((((((A).put (some 13) (u 13)).put (some 14) (u 14)).put (some 15) (u 15)).put (some 16) (u 16)).put (some 17) (u 17)).put (some 18) (u 18)).put (some 19) (u 19)).put (some 20) (u 20)).put (some 21) (u 21)).put (some 22) (u 22)).put (some 23) (u 23)) w') :
    (Code.region 2 (Pl.find 2 ((Try.f24.body).getD .skip)) true).wp Try.prog Q A w := by
  have hl1 : D.sp.length = L.sp.len := h.len .sp
  have hl2 : D.kp.length = L.kp.len := h.len .kp
  have hS0 : (fun (w' : World) => w'.cell? ⟨p, 0, none⟩ = some (.slice L.sp.a L.sp.len L.sp.cap) ∧ w'.cell? ⟨p, 3, none⟩ = some (.slice L.kp.a L.kp.len L.kp.cap)) w.drew := ⟨h.drew.c0, h.drew.c3⟩
  obtain ⟨n1, w1, hr1, ho1, hf1⟩ : ∃ n1 w1, (∀ ty, (Builtin.copy_ #[30, 30] ty #[.slice L.sp.a L.sp.len L.sp.cap, .slice L.kp.a L.kp.len L.kp.cap]).run Try.prog w.drew = .ok n1 w1) ∧ Own 5 1 w1 L.sp (vals D.kp) ∧ Frm (fun k => L.sp.blk = some k) w.drew w1 := by
    obtain ⟨n1, w1, e1, e2, e3, e4⟩ := own_copy w.drew L.sp D.sp (h.drew.own .sp) 0 L.kp.a L.kp.len L.kp.cap D.kp D.kp (h.drew.came .kp) (by rw [List.take_of_length_le]; omega) (Nat.zero_le _) 3
    rw [show L.sp.from_ 0 = L.sp from Sl.from0 (h.drew.own .sp)] at e1
    rw [splice_all _ _ hlk] at e2
    exact ⟨n1, w1, fun ty => e1, e2, e3⟩
  have hT := (Turned.same h (below_drew w)).trans (h.drew.over .sp _ hf1 ho1 (h.byt .kp) { D with sp := D.kp } (by rfl) rfl (fun f hf => by cases f <;> first | rfl | exact absurd rfl hf) rfl rfl)
  have hS1 : (fun (w' : World) => w'.cell? ⟨p, 0, none⟩ = some (.slice L.sp.a L.sp.len L.sp.cap) ∧ w'.cell? ⟨p, 3, none⟩ = some (.slice L.kp.a L.kp.len L.kp.cap)) w1 := ⟨hT.dev.c0, hT.dev.c3⟩
  have hA := Pl.At.same (v := .pointer (some ⟨p, 0, none⟩)) (d := 0) (Pl.At.here hsz hdf) s0
  refine Pl.H.start (S := fun w' => w'.cell? ⟨p, 0, none⟩ = some (.slice L.sp.a L.sp.len L.sp.cap) ∧ w'.cell? ⟨p, 3, none⟩ = some (.slice L.kp.a L.kp.len L.kp.cap)) (by kernel_rfl) hA hS0 ?_
  rw [show (Pl.find 2 ((Try.f24.body).getD .skip)).size = 11 by kernel_rfl]
  refine Pl.H.take 0 13 (.pointer (some ⟨p, 0, none⟩)) (by kernel_rfl) (by kernel_rfl) (by kernel_rfl) (Pl.free 0 (by kernel_rfl)) (Pl.move 0 (.tmp 0) (by kernel_rfl) (by decide)) hS0 ?_
  refine Pl.H.take 1 14 (.pointer (some ⟨p, 0, none⟩)) (by kernel_rfl) (by kernel_rfl) (by kernel_rfl) (Pl.free 1 (by kernel_rfl)) (Pl.nilc 1 (.tmp 13) _ (by kernel_rfl) (by decide) rfl) hS0 ?_
  refine Pl.H.take 2 15 (.pointer (some ⟨p, 0, none⟩)) (by kernel_rfl) (by kernel_rfl) (by kernel_rfl) (Pl.free 2 (by kernel_rfl)) (Pl.field 2 69 (.tmp 14) 0 _ (by kernel_rfl) (by decide) (fdDev0_0 p)) hS0 ?_
  refine Pl.H.take 3 16 (.pointer (some ⟨p, 0, none⟩)) (by kernel_rfl) (by kernel_rfl) (by kernel_rfl) (Pl.free 3 (by kernel_rfl)) (Pl.field 3 65 (.tmp 15) 0 _ (by kernel_rfl) (by decide) (fdDk0_0 p)) hS0 ?_
  refine Pl.H.take 4 17 (.slice L.sp.a L.sp.len L.sp.cap) (by kernel_rfl) (by kernel_rfl) (by kernel_rfl) (Pl.free 4 (by kernel_rfl)) (Pl.load 4 30 (.tmp 16) _ (by kernel_rfl) (by decide) (fun w' hS => ldBs p 0 _ _ _ w' hS.1)) hS0 ?_
  refine Pl.H.take 5 18 (.pointer (some ⟨p, 0, none⟩)) (by kernel_rfl) (by kernel_rfl) (by kernel_rfl) (Pl.free 5 (by kernel_rfl)) (Pl.move 5 (.tmp 0) (by kernel_rfl) (by decide)) hS0 ?_
  refine Pl.H.take 6 19 (.pointer (some ⟨p, 0, none⟩)) (by kernel_rfl) (by kernel_rfl) (by kernel_rfl) (Pl.free 6 (by kernel_rfl)) (Pl.nilc 6 (.tmp 18) _ (by kernel_rfl) (by decide) rfl) hS0 ?_
  refine Pl.H.take 7 20 (.pointer (some ⟨p, 3, none⟩)) (by kernel_rfl) (by kernel_rfl) (by kernel_rfl) (Pl.free 7 (by kernel_rfl)) (Pl.field 7 69 (.tmp 19) 1 _ (by kernel_rfl) (by decide) (fdDev1_0 p)) hS0 ?_
  refine Pl.H.take 8 21 (.pointer (some ⟨p, 3, none⟩)) (by kernel_rfl) (by kernel_rfl) (by kernel_rfl) (Pl.free 8 (by kernel_rfl)) (Pl.field 8 65 (.tmp 20) 0 _ (by kernel_rfl) (by decide) (fdDk0_3 p)) hS0 ?_
  refine Pl.H.take 9 22 (.slice L.kp.a L.kp.len L.kp.cap) (by kernel_rfl) (by kernel_rfl) (by kernel_rfl) (Pl.free 9 (by kernel_rfl)) (Pl.load 9 30 (.tmp 21) _ (by kernel_rfl) (by decide) (fun w' hS => ldBs p 3 _ _ _ w' hS.2)) hS0 ?_
  refine Pl.H.make 10 23 (n1) w1 (by kernel_rfl) (by kernel_rfl) (by kernel_rfl) (Pl.free 10 (by kernel_rfl)) (Pl.copyV 10 30 (.tmp 17) (.tmp 22) _ _ (by kernel_rfl) (by decide) (by decide) hr1) hS1 ?_
  refine Pl.H.done (by kernel_rfl) (fun A' hA' => ?_)
  rw [Pl.At.ext hA' (((((((((((hA.put 13 _).put 14 _).put 15 _).put 16 _).put 17 _).put 18 _).put 19 _).put 20 _).put 21 _).put 22 _).put 23 _)]
  exact hend (fun d => if d = 13 then .pointer (some ⟨p, 0, none⟩) else if d = 14 then .pointer (some ⟨p, 0, none⟩) else if d = 15 then .pointer (some ⟨p, 0, none⟩) else if d = 16 then .pointer (some ⟨p, 0, none⟩) else if d = 17 then .slice L.sp.a L.sp.len L.sp.cap else if d = 18 then .pointer (some ⟨p, 0, none⟩) else if d = 19 then .pointer (some ⟨p, 0, none⟩) else if d = 20 then .pointer (some ⟨p, 3, none⟩) else if d = 21 then .pointer (some ⟨p, 3, none⟩) else if d = 22 then .slice L.kp.a L.kp.len L.kp.cap else if d = 23 then n1 else undef) _ hT

set_option maxHeartbeats 2000000 in
set_option maxRecDepth 100000 in
theorem crash3 (w : World) (p : Nat) (D : Ds) (L : Dl) (h : DevM w p D L) (hm : L.ks.len ≤ 1000000)
    {Q : Exit → Act → World → Prop} {A : Act} (hsz : A.tmps.size = 52) (hdf : A.defers = []) (s0 : A.tmps.getD 0 undef = .pointer (some ⟨p, 0, none⟩))
    (hend : ∀ (u : Nat → Value) w', (∃ L', Turned w p L w' { D with sb := D.kb, ss := D.ks } L') → Q .normal ((((((((((((((((((((A).put (some 24) (u 24)).put (some 25) (u 25)).put (some 26) (u 26)).put (some 27) (u 27)).put (some 28) (u 28)).put (some 29) (u 29)).put (some 30) (u 30)).put (some 31) (u 31)).put (some 32) (u 32)).put (some 33) (u 33)).put (some 34) (u 34)).put (some 35) (u 35)).put (some 36) (u 36)).put (some 37) (u 37)).put (some 38) (u 38)).put (some 39) (u 39)).put (some 40) (u 40)).put (some 41) (u 41)).put (some 42) (u 42)) w') :
    (Code.region 3 (Pl.find 3 ((Try.f24.body).getD .skip)) true).wp Try.prog Q A w := by
  have hA := Pl.At.same (v := .pointer (some ⟨p, 0, none⟩)) (d := 0) (Pl.At.here hsz hdf) s0
  refine Pl.H.start (S := fun w' => w'.cell? ⟨p, 4, none⟩ = some (.int .i64 ((D.kb : Nat) : Int)) ∧ w'.cell? ⟨p, 5, none⟩ = some (.slice L.ks.a L.ks.len L.ks.cap)) (by kernel_rfl) hA (show (fun (w' : World) => w'.cell? ⟨p, 4, none⟩ = some (.int .i64 ((D.kb : Nat) : Int)) ∧ w'.cell? ⟨p, 5, none⟩ = some (.slice L.ks.a L.ks.len L.ks.cap)) w.drew from ⟨h.drew.c4, h.drew.c5⟩) ?_
  rw [show (Pl.find 3 ((Try.f24.body).getD .skip)).size = 21 by kernel_rfl]
  refine Pl.H.take 0 24 (.pointer (some ⟨p, 0, none⟩)) (by kernel_rfl) (by kernel_rfl) (by kernel_rfl) (Pl.free 0 (by kernel_rfl)) (Pl.move 0 (.tmp 0) (by kernel_rfl) (by decide)) (show (fun (w' : World) => w'.cell? ⟨p, 4, none⟩ = some (.int .i64 ((D.kb : Nat) : Int)) ∧ w'.cell? ⟨p, 5, none⟩ = some (.slice L.ks.a L.ks.len L.ks.cap)) w.drew from ⟨h.drew.c4, h.drew.c5⟩) ?_
  refine Pl.H.take 1 25 (.pointer (some ⟨p, 0, none⟩)) (by kernel_rfl) (by kernel_rfl) (by kernel_rfl) (Pl.free 1 (by kernel_rfl)) (Pl.move 1 (.tmp 0) (by kernel_rfl) (by decide)) (show (fun (w' : World) => w'.cell? ⟨p, 4, none⟩ = some (.int .i64 ((D.kb : Nat) : Int)) ∧ w'.cell? ⟨p, 5, none⟩ = some (.slice L.ks.a L.ks.len L.ks.cap)) w.drew from ⟨h.drew.c4, h.drew.c5⟩) ?_
  refine Pl.H.take 2 26 (.pointer (some ⟨p, 0, none⟩)) (by kernel_rfl) (by kernel_rfl) (by kernel_rfl) (Pl.free 2 (by kernel_rfl)) (Pl.move 2 (.tmp 0) (by kernel_rfl) (by decide)) (show (fun (w' : World) => w'.cell? ⟨p, 4, none⟩ = some (.int .i64 ((D.kb : Nat) : Int)) ∧ w'.cell? ⟨p, 5, none⟩ = some (.slice L.ks.a L.ks.len L.ks.cap)) w.drew from ⟨h.drew.c4, h.drew.c5⟩) ?_
  refine Pl.H.take 3 27 (.pointer (some ⟨p, 0, none⟩)) (by kernel_rfl) (by kernel_rfl) (by kernel_rfl) (Pl.free 3 (by kernel_rfl)) (Pl.nilc 3 (.tmp 26) _ (by kernel_rfl) (by decide) rfl) (show (fun (w' : World) => w'.cell? ⟨p, 4, none⟩ = some (.int .i64 ((D.kb : Nat) : Int)) ∧ w'.cell? ⟨p, 5, none⟩ = some (.slice L.ks.a L.ks.len L.ks.cap)) w.drew from ⟨h.drew.c4, h.drew.c5⟩) ?_
  refine Pl.H.take 4 28 (.pointer (some ⟨p, 3, none⟩)) (by kernel_rfl) (by kernel_rfl) (by kernel_rfl) (Pl.free 4 (by kernel_rfl)) (Pl.field 4 69 (.tmp 27) 1 _ (by kernel_rfl) (by decide) (fdDev1_0 p)) (show (fun (w' : World) => w'.cell? ⟨p, 4, none⟩ = some (.int .i64 ((D.kb : Nat) : Int)) ∧ w'.cell? ⟨p, 5, none⟩ = some (.slice L.ks.a L.ks.len L.ks.cap)) w.drew from ⟨h.drew.c4, h.drew.c5⟩) ?_
  refine Pl.H.take 5 29 (.pointer (some ⟨p, 4, none⟩)) (by kernel_rfl) (by kernel_rfl) (by kernel_rfl) (Pl.free 5 (by kernel_rfl)) (Pl.field 5 65 (.tmp 28) 1 _ (by kernel_rfl) (by decide) (fdDk1_3 p)) (show (fun (w' : World) => w'.cell? ⟨p, 4, none⟩ = some (.int .i64 ((D.kb : Nat) : Int)) ∧ w'.cell? ⟨p, 5, none⟩ = some (.slice L.ks.a L.ks.len L.ks.cap)) w.drew from ⟨h.drew.c4, h.drew.c5⟩) ?_
  refine Pl.H.take 6 30 (.int .i64 ((D.kb : Nat) : Int)) (by kernel_rfl) (by kernel_rfl) (by kernel_rfl) (Pl.free 6 (by kernel_rfl)) (Pl.load 6 3 (.tmp 29) _ (by kernel_rfl) (by decide) (fun w' hS => ldInt p 4 _ w' hS.1)) (show (fun (w' : World) => w'.cell? ⟨p, 4, none⟩ = some (.int .i64 ((D.kb : Nat) : Int)) ∧ w'.cell? ⟨p, 5, none⟩ = some (.slice L.ks.a L.ks.len L.ks.cap)) w.drew from ⟨h.drew.c4, h.drew.c5⟩) ?_
  refine Pl.H.take 7 31 (.pointer (some ⟨p, 0, none⟩)) (by kernel_rfl) (by kernel_rfl) (by kernel_rfl) (Pl.free 7 (by kernel_rfl)) (Pl.move 7 (.tmp 0) (by kernel_rfl) (by decide)) (show (fun (w' : World) => w'.cell? ⟨p, 4, none⟩ = some (.int .i64 ((D.kb : Nat) : Int)) ∧ w'.cell? ⟨p, 5, none⟩ = some (.slice L.ks.a L.ks.len L.ks.cap)) w.drew from ⟨h.drew.c4, h.drew.c5⟩) ?_
  refine Pl.H.take 8 32 (.pointer (some ⟨p, 0, none⟩)) (by kernel_rfl) (by kernel_rfl) (by kernel_rfl) (Pl.free 8 (by kernel_rfl)) (Pl.nilc 8 (.tmp 31) _ (by kernel_rfl) (by decide) rfl) (show (fun (w' : World) => w'.cell? ⟨p, 4, none⟩ = some (.int .i64 ((D.kb : Nat) : Int)) ∧ w'.cell? ⟨p, 5, none⟩ = some (.slice L.ks.a L.ks.len L.ks.cap)) w.drew from ⟨h.drew.c4, h.drew.c5⟩) ?_
  refine Pl.H.take 9 33 (.pointer (some ⟨p, 3, none⟩)) (by kernel_rfl) (by kernel_rfl) (by kernel_rfl) (Pl.free 9 (by kernel_rfl)) (Pl.field 9 69 (.tmp 32) 1 _ (by kernel_rfl) (by decide) (fdDev1_0 p)) (show (fun (w' : World) => w'.cell? ⟨p, 4, none⟩ = some (.int .i64 ((D.kb : Nat) : Int)) ∧ w'.cell? ⟨p, 5, none⟩ = some (.slice L.ks.a L.ks.len L.ks.cap)) w.drew from ⟨h.drew.c4, h.drew.c5⟩) ?_
  refine Pl.H.take 10 34 (.pointer (some ⟨p, 5, none⟩)) (by kernel_rfl) (by kernel_rfl) (by kernel_rfl) (Pl.free 10 (by kernel_rfl)) (Pl.field 10 65 (.tmp 33) 2 _ (by kernel_rfl) (by decide) (fdDk2_3 p)) (show (fun (w' : World) => w'.cell? ⟨p, 4, none⟩ = some (.int .i64 ((D.kb : Nat) : Int)) ∧ w'.cell? ⟨p, 5, none⟩ = some (.slice L.ks.a L.ks.len L.ks.cap)) w.drew from ⟨h.drew.c4, h.drew.c5⟩) ?_
  refine Pl.H.take 11 35 (.slice L.ks.a L.ks.len L.ks.cap) (by kernel_rfl) (by kernel_rfl) (by kernel_rfl) (Pl.free 11 (by kernel_rfl)) (Pl.load 11 30 (.tmp 34) _ (by kernel_rfl) (by decide) (fun w' hS => ldBs p 5 _ _ _ w' hS.2)) (show (fun (w' : World) => w'.cell? ⟨p, 4, none⟩ = some (.int .i64 ((D.kb : Nat) : Int)) ∧ w'.cell? ⟨p, 5, none⟩ = some (.slice L.ks.a L.ks.len L.ks.cap)) w.drew from ⟨h.drew.c4, h.drew.c5⟩) ?_
  refine Pl.H.call 12 36 40 [(.tmp 35)] #[30] (by kernel_rfl) (by kernel_rfl) (by kernel_rfl) (Pl.free 12 (by kernel_rfl)) (by kernel_rfl) (by decide) entClone (Calls.mono (clone_any w.drew _ _ _ _ (h.drew.came .ks) hm) ?_)
  rintro e w2 ⟨hb2, s2, rfl, ho2, hl2, hk2⟩
  have hd2 := h.drew.keep hb2
  have hT3 := (Turned.same h ((below_drew w).trans hb2)).trans (Turned.cell (hd2.turn { D with sb := D.kb } L 1 (.int .i64 ((D.kb : Nat) : Int)) (by rfl) (fun f => by cases f <;> exact ⟨rfl, rfl⟩) ⟨rfl, rfl⟩ ⟨rfl, rfl⟩) ((Frm.refl (fun k => k = p) _).setCell (p := ⟨p, 1, none⟩) rfl _))
  have hsp : ∀ k, s2.blk = some k → k ≠ p := fun k hk e => by have h1 := hk2 k hk; have h2 := h.lt (L := L) (k := p) (.inl rfl); have h3 : w.drew.heap.size = w.heap.size := rfl; omega
  obtain ⟨g1, g2, g3⟩ := hT3.dev.swap0 .ss s2 D.ks (Frm.refl _ _) (ho2.frame fun k hk => Below.heap_setCell w2 ⟨p, 1, none⟩ _ k (hsp k hk)) (h.byt .ks) (fun k hk => .inr (fun hF => by have h1 := h.lt hF; have h2 := hk2 k hk; have h3 : w.drew.heap.size = w.heap.size := rfl; omega)) 2 { D with sb := D.kb, ss := D.ks } { L with ss := s2 } (by rfl) ⟨rfl, rfl⟩ (fun f hf => by cases f <;> first | exact ⟨rfl, rfl⟩ | exact absurd rfl hf) ⟨rfl, rfl⟩ ⟨rfl, rfl⟩
  have hT4 : Turned w p L _ _ _ := ⟨g1, hT3.frm.trans g2 (fun _ _ e => e), fun k hk => (g3 k hk).imp id (fun e => hk2 k e)⟩
  have hS2 : (fun (w' : World) => w'.cell? ⟨p, 4, none⟩ = some (.int .i64 ((D.kb : Nat) : Int)) ∧ w'.cell? ⟨p, 5, none⟩ = some (.slice L.ks.a L.ks.len L.ks.cap)) w2 := ⟨hd2.c4, hd2.c5⟩
  have hS3 : (fun (w' : World) => w'.cell? ⟨p, 4, none⟩ = some (.int .i64 ((D.kb : Nat) : Int)) ∧ w'.cell? ⟨p, 5, none⟩ = some (.slice L.ks.a L.ks.len L.ks.cap)) (w2.setCell ⟨p, 1, none⟩ (.int .i64 ((D.kb : Nat) : Int))) := ⟨hT3.dev.c4, hT3.dev.c5⟩
  have hS4 : (fun (w' : World) => w'.cell? ⟨p, 4, none⟩ = some (.int .i64 ((D.kb : Nat) : Int)) ∧ w'.cell? ⟨p, 5, none⟩ = some (.slice L.ks.a L.ks.len L.ks.cap)) ((w2.setCell ⟨p, 1, none⟩ (.int .i64 ((D.kb : Nat) : Int))).setCell ⟨p, 2, none⟩ s2.val) := ⟨hT4.dev.c4, hT4.dev.c5⟩
  refine ⟨s2.val, rfl, hS2, ?_⟩
  refine Pl.H.take 13 37 (.pointer (some ⟨p, 0, none⟩)) (by kernel_rfl) (by kernel_rfl) (by kernel_rfl) (Pl.free 13 (by kernel_rfl)) (Pl.nilc 13 (.tmp 24) _ (by kernel_rfl) (by decide) rfl) hS2 ?_
  refine Pl.H.take 14 38 (.pointer (some ⟨p, 0, none⟩)) (by kernel_rfl) (by kernel_rfl) (by kernel_rfl) (Pl.free 14 (by kernel_rfl)) (Pl.field 14 69 (.tmp 37) 0 _ (by kernel_rfl) (by decide) (fdDev0_0 p)) hS2 ?_
  refine Pl.H.take 15 39 (.pointer (some ⟨p, 1, none⟩)) (by kernel_rfl) (by kernel_rfl) (by kernel_rfl) (Pl.free 15 (by kernel_rfl)) (Pl.field 15 65 (.tmp 38) 1 _ (by kernel_rfl) (by decide) (fdDk1_0 p)) hS2 ?_
  refine Pl.H.store 16 (w2.setCell ⟨p, 1, none⟩ (.int .i64 ((D.kb : Nat) : Int))) (by kernel_rfl) (by kernel_rfl) (by kernel_rfl) (Pl.free 16 (by kernel_rfl)) (Pl.storeV 16 3 (.tmp 39) (.tmp 30) _ (by kernel_rfl) (by decide) (by decide) (stInt p 1 _ _ ⟨_, rfl⟩ w2 hd2.c1 (hd2.fz 1))) hS3 ?_
  refine Pl.H.take 17 40 (.pointer (some ⟨p, 0, none⟩)) (by kernel_rfl) (by kernel_rfl) (by kernel_rfl) (Pl.free 17 (by kernel_rfl)) (Pl.nilc 17 (.tmp 25) _ (by kernel_rfl) (by decide) rfl) hS3 ?_
  refine Pl.H.take 18 41 (.pointer (some ⟨p, 0, none⟩)) (by kernel_rfl) (by kernel_rfl) (by kernel_rfl) (Pl.free 18 (by kernel_rfl)) (Pl.field 18 69 (.tmp 40) 0 _ (by kernel_rfl) (by decide) (fdDev0_0 p)) hS3 ?_
  refine Pl.H.take 19 42 (.pointer (some ⟨p, 2, none⟩)) (by kernel_rfl) (by kernel_rfl) (by kernel_rfl) (Pl.free 19 (by kernel_rfl)) (Pl.field 19 65 (.tmp 41) 2 _ (by kernel_rfl) (by decide) (fdDk2_0 p)) hS3 ?_
  refine Pl.H.store 20 ((w2.setCell ⟨p, 1, none⟩ (.int .i64 ((D.kb : Nat) : Int))).setCell ⟨p, 2, none⟩ s2.val) (by kernel_rfl) (by kernel_rfl) (by kernel_rfl) (Pl.free 20 (by kernel_rfl)) (Pl.storeV 20 30 (.tmp 42) (.tmp 36) _ (by kernel_rfl) (by decide) (by decide) (stBs p 2 _ _ _ hT3.dev.c2 (hT3.dev.fz 2))) hS4 ?_
  refine Pl.H.done (by kernel_rfl) (fun A' hA' => ?_)
  rw [Pl.At.ext hA' (((((((((((((((((((hA.put 24 _).put 25 _).put 26 _).put 27 _).put 28 _).put 29 _).put 30 _).put 31 _).put 32 _).put 33 _).put 34 _).put 35 _).put 36 _).put 37 _).put 38 _).put 39 _).put 40 _).put 41 _).put 42 _)]
  exact hend (fun d => if d = 24 then .pointer (some ⟨p, 0, none⟩) else if d = 25 then .pointer (some ⟨p, 0, none⟩) else if d = 26 then .pointer (some ⟨p, 0, none⟩) else if d = 27 then .pointer (some ⟨p, 0, none⟩) else if d = 28 then .pointer (some ⟨p, 3, none⟩) else if d = 29 then .pointer (some ⟨p, 4, none⟩) else if d = 30 then .int .i64 ((D.kb : Nat) : Int) else if d = 31 then .pointer (some ⟨p, 0, none⟩) else if d = 32 then .pointer (some ⟨p, 0, none⟩) else if d = 33 then .pointer (some ⟨p, 3, none⟩) else if d = 34 then .pointer (some ⟨p, 5, none⟩) else if d = 35 then .slice L.ks.a L.ks.len L.ks.cap else if d = 36 then s2.val else if d = 37 then .pointer (some ⟨p, 0, none⟩) else if d = 38 then .pointer (some ⟨p, 0, none⟩) else if d = 39 then .pointer (some ⟨p, 1, none⟩) else if d = 40 then .pointer (some ⟨p, 0, none⟩) else if d = 41 then .pointer (some ⟨p, 0, none⟩) else if d = 42 then .pointer (some ⟨p, 2, none⟩) else undef) _ ⟨_, hT4⟩

theorem Ds.keep_eqs (D : Ds) (bs : List Bool) (u0 mm : Nat) : (D.keep bs u0 mm).sp = D.sp ∧ (D.keep bs u0 mm).kp = keepW bs 0 D.wr D.kp ∧ (D.keep bs u0 mm).ks.length ≤ D.ks.length + D.ap.length := by
  unfold Ds.keep Ds.keepU
  split
  · refine ⟨rfl, rfl, ?_⟩
    simp only [List.length_append, List.length_take]
    omega
  · refine ⟨rfl, rfl, ?_⟩
    simp only [List.length_drop, List.length_append, List.length_take]
    omega
theorem Ds.count_units (D : Ds) : D.count ((D.units : Nat) : Int) = D.units := by
  unfold Ds.count
  rw [if_neg (by omega), if_pos (Int.le_refl _)]
  omega
/-- A device behind Sync. -/
def Ds.sync (D : Ds) : Ds := if D.gone = true then D else D.keep [true] D.units D.tr.length
/-- A device behind a crash. -/
def Ds.crash (D : Ds) (bs : List Bool) (u0 mm : Nat) : Ds := { D.keep bs u0 mm with sp := (D.keep bs u0 mm).kp, sb := (D.keep bs u0 mm).kb, ss := (D.keep bs u0 mm).ks, armed := false, left := 0, gone := false }

theorem keep_sane (w : World) (p : Nat) (D : Ds) (L : Dl) (h : DevM w p D L) (n : Nat) (hs : D.Sane n) (pa : Option Addr) (pl pc : Nat) (bs : List Bool) (hpat : Pat w pa pl bs) (hoff : Off (L.F p) pa pl) (hpl : pl ≤ 9223372036854775807) (u : Int) (u0 mm : Nat) (hu0 : u0 = D.count u) (hf : D.Fit u0 mm) :
    Calls Try.prog 39 #[at0 p, .slice pa pl pc, .int .i64 u] w fun e w' => e = .returned (.tuple #[]) ∧ ∃ L', Turned w p L w' (D.keep bs u0 mm) L' :=
  keep_any w p D L h (512 * n) hs.kp hs.wr (Nat.le_trans hs.wl (by omega)) pa pl pc bs hpat hoff hpl u u0 mm hu0 hf.tr hf.um hf.ua hs.ks hs.tl hf.pl

set_option maxHeartbeats 4000000 in
theorem sync_any (w : World) (p : Nat) (D : Ds) (L : Dl) (h : DevM w p D L) (n : Nat) (hs : D.Sane n) (hf : D.gone = false → D.Fit D.units D.tr.length) :
    Calls Try.prog 20 #[at0 p] w fun e w' => e = .returned (.tuple #[]) ∧ ∃ L', Turned w p L w' D.sync L' := by
  have HG := hide (given_any w p D L h n hs.sp hs.n2 hs.n1)
  have c11 := h.c11
  cases hg : D.gone
  · have hF := hf hg
    have hun : D.units ≤ 1000000000 := by have := hs.ks; have := hs.tl; unfold Ds.units; omega
    have e1 : D.sync = D.keep [true] D.units D.tr.length := by unfold Ds.sync; rw [if_neg (by rw [hg]; decide)]
    rw [e1]
    have hA := below_alloc w (.cells #[.bool true] 4)
    have hT1 := Turned.same h hA
    have hpat : Pat (w.alloc (.cells #[.bool true] 4)) (some ⟨w.heap.size, 0, none⟩) 1 [true] := by
      refine ⟨rfl, fun i hi => ⟨w.heap.size, 0, rfl, ?_⟩⟩
      rw [Addr.cell0 (heap_alloc_new w _)]
      obtain rfl : i = 0 := by omega
      rfl
    have hoff : Off (L.F p) (some ⟨w.heap.size, 0, none⟩) 1 := by
      intro ad e _ hk
      cases e
      have := h.lt hk
      simp only at this
      omega
    have HT1 := hide hT1
    have HUN := hide (units_any (w.alloc (.cells #[.bool true] 4)) p D L hT1.dev hun)
    have HK : Hid (∀ w', Below (w.alloc (.cells #[.bool true] 4)).heap.size (w.alloc (.cells #[.bool true] 4)) w' → Calls Try.prog 39 #[at0 p, .slice (some ⟨w.heap.size, 0, none⟩) 1 1, .int .i64 ((D.units : Nat) : Int)] w' fun e w2 => e = .returned (.tuple #[]) ∧ ∃ L', Turned w' p L w2 (D.keep [true] D.units D.tr.length) L') := fun w' hb =>
      keep_sane w' p D L (hT1.dev.keep hb) n hs _ _ 1 [true] (hpat.frm (Frm.ofBelow (F := L.F p) hb) hoff) hoff (by omega) _ _ _ D.count_units.symm hF
    rw [hg] at c11
    clear h hs hf hF hun e1 hA hT1 hpat hoff hg
    generalize D.units = un at *
    generalize D.keep [true] un D.tr.length = DK at *
    unfold at0 at *
    go_enter Try.func20, Try.ntmps20
    go_wp2_with fail
    refine HG.out.mono ?_
    rintro e w' ⟨rfl, hw⟩
    obtain rfl := hw.symm
    go_wp2_with fail
    refine HUN.out.mono ?_
    rintro e w1 ⟨rfl, hb1⟩
    have HB1 := hide hb1
    clear hb1
    go_wp2_with fail
    refine (HK.out w1 HB1.out).mono ?_
    rintro e w2 ⟨rfl, L2, hT2⟩
    have HT2 := hide ((HT1.out.trans (Turned.same HT1.out.dev HB1.out)).trans hT2)
    clear hT2
    go_wp2_with fail
    go_end0
    exact ⟨rfl, L2, HT2.out⟩
  · have e1 : D.sync = D := by unfold Ds.sync; rw [if_pos hg]
    rw [e1]
    have HT := hide (Turned.same h (Below.refl _ w))
    rw [hg] at c11
    clear h hs hf e1 hg
    unfold at0 at *
    go_enter Try.func20, Try.ntmps20
    go_wp2_with fail
    refine HG.out.mono ?_
    rintro e w' ⟨rfl, hw⟩
    obtain rfl := hw.symm
    go_wp2_with fail
    refine bodyPost_ret (results_none rfl _ _ _) rfl ?_
    exact ⟨rfl, L, HT.out⟩

set_option maxHeartbeats 4000000 in
theorem crash_any (w : World) (p : Nat) (D : Ds) (L : Dl) (h : DevM w p D L) (n : Nat) (hs : D.Sane n) (pa : Option Addr) (pl pc : Nat) (bs : List Bool) (hpat : Pat w pa pl bs) (hoff : Off (L.F p) pa pl) (hpl : pl ≤ 9223372036854775807) (u : Int) (u0 mm : Nat) (hu0 : u0 = D.count u) (hf : D.Fit u0 mm) :
    Calls Try.prog 24 #[at0 p, .slice pa pl pc, .int .i64 u] w fun e w' => e = .returned (.tuple #[]) ∧ ∃ L', Turned w p L w' (D.crash bs u0 mm) L' := by
  have HG := hide (given_any w p D L h n hs.sp hs.n2 hs.n1)
  have HK := hide (keep_sane w p D L h n hs pa pl pc bs hpat hoff hpl u u0 mm hu0 hf)
  obtain ⟨q1, q2, q3⟩ := D.keep_eqs bs u0 mm
  have hlk : (D.keep bs u0 mm).sp.length = (D.keep bs u0 mm).kp.length := by
    rw [q1, q2, hs.sp, keepW_length bs (512 * n) _ _ _ hs.wr hs.kp]
  have hks : (D.keep bs u0 mm).ks.length ≤ 1000000 := Nat.le_trans q3 hs.ks
  have HE : Hid (D.crash bs u0 mm = { D.keep bs u0 mm with sp := (D.keep bs u0 mm).kp, sb := (D.keep bs u0 mm).kb, ss := (D.keep bs u0 mm).ks, armed := false, left := 0, gone := false }) := rfl
  generalize D.keep bs u0 mm = E at *
  have HLK := hide hlk
  have HKS := hide hks
  clear h hs hpat hoff hu0 hf q1 q2 q3 hlk hks
  unfold at0 at *
  go_enter Try.func24, Try.ntmps24
  go_wp2_with fail
  refine HG.out.mono ?_
  rintro e w' ⟨rfl, hw⟩
  obtain rfl := hw.symm
  go_wp2_with fail
  refine HK.out.mono ?_
  rintro e w1 ⟨rfl, L1, hT1⟩
  have HT1 := hide hT1
  clear hT1
  go_wp2_with fail
  refine Pl.region_is (ops := Pl.find 2 ((Try.f24.body).getD .skip)) (by kernel_rfl) ?_
  refine crash2 w1 p _ L1 HT1.out.dev HLK.out (by rfl) rfl (by rfl) ?_
  intro u2 w2 hT2
  have HT2 := hide (HT1.out.trans hT2)
  clear hT2
  simp only [Act.put, List.setIfInBounds_toArray, List.set_cons_zero, List.set_cons_succ]
  go_wp2_with fail
  refine Pl.region_is (ops := Pl.find 3 ((Try.f24.body).getD .skip)) (by kernel_rfl) ?_
  refine crash3 w2 p _ L1 HT2.out.dev (by have e1 := HT2.out.dev.len .ks; have e2 := HKS.out; have e3 : E.ks.length = L1.ks.len := e1; omega) (by rfl) rfl (by rfl) ?_
  rintro u3 w3 ⟨L3, hT3⟩
  have hd4 := hT3.dev.setArmed false
  have hd5 := hd4.setLeft 0
  have hd6 := hd5.setGone false
  have HT6 := hide ((HT2.out.trans hT3).trans (Turned.cell hd6 ((((Frm.refl (fun k => k = p) _).setCell (p := ⟨p, 9, none⟩) rfl _).setCell (p := ⟨p, 10, none⟩) rfl _).setCell (p := ⟨p, 11, none⟩) rfl _)))
  have c9 := hT3.dev.c9
  have f9 := hT3.dev.fz
  have c10 := hd4.c10
  have f10 := hd4.fz
  have c11 := hd5.c11
  have f11 := hd5.fz
  simp only at c9 c10 c11
  clear hT3 hd4 hd5 hd6
  simp only [Act.put, List.setIfInBounds_toArray, List.set_cons_zero, List.set_cons_succ]
  go_wp2_with fail
  go_end0
  rw [HE.out]
  exact ⟨rfl, L3, HT6.out⟩

end Go.Proofs.Ytokdeilcfkobfaa
