/-
  The landed device: keepUnits.
-/
import Derived.Test.YtokdeilcfkobfaaLdF
namespace Go.Proofs.Ytokdeilcfkobfaa
open Go.RowKit

def tmD : Tm := ⟨0, 0⟩
theorem tmCells_get : ∀ (l : List Tm) (j t : Nat), j < l.length → t < 2 → (tmCells l)[j * 2 + t]? = (l.getD j tmD).cells[t]?
  | i :: r, 0, t, _, ht => by
    simp only [tmCells, List.flatMap_cons]
    rw [List.getElem?_append_left (by simp [Tm.cells]; omega)]
    simp
  | i :: r, j + 1, t, hj, ht => by
    have := tmCells_get r j t (by simpa using hj) ht
    simp only [tmCells, List.flatMap_cons] at *
    rw [List.getElem?_append_right (by simp [Tm.cells]; omega)]
    have e : (j + 1) * 2 + t - i.cells.length = j * 2 + t := by simp [Tm.cells]; omega
    rw [e, this]
    simp [List.getD]
/-- Where a trimming lies. -/
theorem DevM.tmAt {w : World} {p : Nat} {D : Ds} {L : Dl} (h : DevM w p D L) (j : Nat) (hj : j < D.tr.length) : ∃ g off, L.tr.a = some ⟨g, off, none⟩ ∧ w.cell? ⟨g, off + j * 2, none⟩ = some (.int .i64 (((D.tr.getD j tmD).ahead : Nat) : Int)) ∧ w.cell? ⟨g, off + j * 2 + 1, none⟩ = some (.int .i64 (((D.tr.getD j tmD).place : Nat) : Int)) := by
  have hl := h.lenT
  rcases h.tr.2 with ⟨h0, _⟩ | ⟨g, off, cur, ha, _⟩
  · rw [h0] at hl
    have : D.tr.length = 0 := hl
    omega
  · have h1 := h.tr.cell ha (j * 2 + 0) _ (tmCells_get D.tr j 0 hj (by omega))
    have h2 := h.tr.cell ha (j * 2 + 1) _ (tmCells_get D.tr j 1 hj (by omega))
    rw [Addr.add_lit] at h1 h2
    exact ⟨g, off, ha, h1, h2⟩

/-- So many trimmings are among the first so many units. -/
structure Ds.Trims (D : Ds) (u m : Nat) : Prop where
  le : m ≤ D.tr.length
  lt : ∀ t, t < m → (D.tr.getD t tmD).ahead < u
  ge : m < D.tr.length → u ≤ (D.tr.getD m tmD).ahead

set_option maxHeartbeats 2000000 in
set_option maxRecDepth 100000 in
theorem keepU3 (w : World) (p : Nat) (D : Ds) (L : Dl) (h : DevM w p D L) (u0 m k : Nat) (hk : IntKind.i64.wrap ((u0 : Int) - (m : Int)) = (k : Nat)) (hkl : k ≤ L.ap.len) (hm : D.ks.length + k ≤ 1000000)
    {Q : Exit → Act → World → Prop} {A : Act} (hsz : A.tmps.size = 59) (hdf : A.defers = []) (s0 : A.tmps.getD 0 undef = .pointer (some ⟨p, 0, none⟩)) (s1 : A.tmps.getD 1 undef = .int .i64 ((u0 : Nat) : Int)) (s4 : A.tmps.getD 4 undef = .int .i64 ((m : Nat) : Int))
    (hend : ∀ (u : Nat → Value) w', (∃ L', Turned w p L w' { D with ks := D.ks ++ D.ap.take k } L') → Q .normal (((((((((((((((((((A).put (some 26) (u 26)).put (some 27) (u 27)).put (some 28) (u 28)).put (some 29) (u 29)).put (some 30) (u 30)).put (some 32) (u 32)).put (some 33) (u 33)).put (some 34) (u 34)).put (some 35) (u 35)).put (some 36) (u 36)).put (some 37) (u 37)).put (some 38) (u 38)).put (some 39) (u 39)).put (some 31) (u 31)).put (some 40) (u 40)).put (some 41) (u 41)).put (some 42) (u 42)).put (some 43) (u 43)) w') :
    (Code.region 3 (Pl.find 3 ((Try.f46.body).getD .skip)) true).wp Try.prog Q A w := by
  obtain ⟨sl1, w1, hr1, ho1, hf1, hb1⟩ := h.drew.app .ks _ _ _ _ ((h.drew.came .ap).upto k hkl) hm
  have hp1 := hf1.pblk h.drew (h.drew.ne .ks)
  have hT := (Turned.same h (below_drew w)).trans (h.drew.swap .ks sl1 _ hf1 ho1 ((h.byt .ks).append ((h.byt .ap).take k)) hb1 5 { D with ks := D.ks ++ D.ap.take k } { L with ks := sl1 } (by rfl) ⟨rfl, rfl⟩ (fun f hf => by cases f <;> first | exact ⟨rfl, rfl⟩ | exact absurd rfl hf) ⟨rfl, rfl⟩ ⟨rfl, rfl⟩)
  have hS2 : (fun (w' : World) => w'.cell? ⟨p, 7, none⟩ = some (.slice L.ap.a L.ap.len L.ap.cap)) (w1.setCell ⟨p, 5, none⟩ sl1.val) := hT.dev.c7
  have hA := Pl.At.same (v := .int .i64 ((m : Nat) : Int)) (d := 4) (Pl.At.same (v := .int .i64 ((u0 : Nat) : Int)) (d := 1) (Pl.At.same (v := .pointer (some ⟨p, 0, none⟩)) (d := 0) (Pl.At.here hsz hdf) s0) s1) s4
  refine Pl.H.start (S := fun w' => w'.cell? ⟨p, 7, none⟩ = some (.slice L.ap.a L.ap.len L.ap.cap)) (by kernel_rfl) hA (show (fun w' => w'.cell? ⟨p, 7, none⟩ = some (.slice L.ap.a L.ap.len L.ap.cap)) w.drew from h.drew.c7) ?_
  rw [show (Pl.find 3 ((Try.f46.body).getD .skip)).size = 19 by kernel_rfl]
  refine Pl.H.take 0 26 (.pointer (some ⟨p, 0, none⟩)) (by kernel_rfl) (by kernel_rfl) (by kernel_rfl) (Pl.free 0 (by kernel_rfl)) (Pl.move 0 (.tmp 0) (by kernel_rfl) (by decide)) (show (fun w' => w'.cell? ⟨p, 7, none⟩ = some (.slice L.ap.a L.ap.len L.ap.cap)) w.drew from h.drew.c7) ?_
  refine Pl.H.take 1 27 (.pointer (some ⟨p, 0, none⟩)) (by kernel_rfl) (by kernel_rfl) (by kernel_rfl) (Pl.free 1 (by kernel_rfl)) (Pl.move 1 (.tmp 0) (by kernel_rfl) (by decide)) (show (fun w' => w'.cell? ⟨p, 7, none⟩ = some (.slice L.ap.a L.ap.len L.ap.cap)) w.drew from h.drew.c7) ?_
  refine Pl.H.take 2 28 (.pointer (some ⟨p, 0, none⟩)) (by kernel_rfl) (by kernel_rfl) (by kernel_rfl) (Pl.free 2 (by kernel_rfl)) (Pl.nilc 2 (.tmp 27) _ (by kernel_rfl) (by decide) rfl) (show (fun w' => w'.cell? ⟨p, 7, none⟩ = some (.slice L.ap.a L.ap.len L.ap.cap)) w.drew from h.drew.c7) ?_
  refine Pl.H.take 3 29 (.pointer (some ⟨p, 3, none⟩)) (by kernel_rfl) (by kernel_rfl) (by kernel_rfl) (Pl.free 3 (by kernel_rfl)) (Pl.field 3 69 (.tmp 28) 1 _ (by kernel_rfl) (by decide) (fdDev1_0 p)) (show (fun w' => w'.cell? ⟨p, 7, none⟩ = some (.slice L.ap.a L.ap.len L.ap.cap)) w.drew from h.drew.c7) ?_
  refine Pl.H.take 4 30 (.pointer (some ⟨p, 5, none⟩)) (by kernel_rfl) (by kernel_rfl) (by kernel_rfl) (Pl.free 4 (by kernel_rfl)) (Pl.field 4 65 (.tmp 29) 2 _ (by kernel_rfl) (by decide) (fdDk2_3 p)) (show (fun w' => w'.cell? ⟨p, 7, none⟩ = some (.slice L.ap.a L.ap.len L.ap.cap)) w.drew from h.drew.c7) ?_
  refine Pl.H.take 6 32 (.pointer (some ⟨p, 0, none⟩)) (by kernel_rfl) (by kernel_rfl) (by kernel_rfl) (Pl.free 6 (by kernel_rfl)) (Pl.move 6 (.tmp 0) (by kernel_rfl) (by decide)) (show (fun w' => w'.cell? ⟨p, 7, none⟩ = some (.slice L.ap.a L.ap.len L.ap.cap)) w.drew from h.drew.c7) ?_
  refine Pl.H.take 7 33 (.pointer (some ⟨p, 0, none⟩)) (by kernel_rfl) (by kernel_rfl) (by kernel_rfl) (Pl.free 7 (by kernel_rfl)) (Pl.nilc 7 (.tmp 32) _ (by kernel_rfl) (by decide) rfl) (show (fun w' => w'.cell? ⟨p, 7, none⟩ = some (.slice L.ap.a L.ap.len L.ap.cap)) w.drew from h.drew.c7) ?_
  refine Pl.H.take 8 34 (.pointer (some ⟨p, 7, none⟩)) (by kernel_rfl) (by kernel_rfl) (by kernel_rfl) (Pl.free 8 (by kernel_rfl)) (Pl.field 8 69 (.tmp 33) 3 _ (by kernel_rfl) (by decide) (fdDev3_0 p)) (show (fun w' => w'.cell? ⟨p, 7, none⟩ = some (.slice L.ap.a L.ap.len L.ap.cap)) w.drew from h.drew.c7) ?_
  refine Pl.H.take 9 35 (.slice L.ap.a L.ap.len L.ap.cap) (by kernel_rfl) (by kernel_rfl) (by kernel_rfl) (Pl.free 9 (by kernel_rfl)) (Pl.load 9 30 (.tmp 34) _ (by kernel_rfl) (by decide) (fun w' hS => ldBs p 7 _ _ _ w' hS)) (show (fun w' => w'.cell? ⟨p, 7, none⟩ = some (.slice L.ap.a L.ap.len L.ap.cap)) w.drew from h.drew.c7) ?_
  refine Pl.H.take 10 36 (.int .i64 ((u0 : Nat) : Int)) (by kernel_rfl) (by kernel_rfl) (by kernel_rfl) (Pl.free 10 (by kernel_rfl)) (Pl.move 10 (.tmp 1) (by kernel_rfl) (by decide)) (show (fun w' => w'.cell? ⟨p, 7, none⟩ = some (.slice L.ap.a L.ap.len L.ap.cap)) w.drew from h.drew.c7) ?_
  refine Pl.H.take 11 37 (.int .i64 ((m : Nat) : Int)) (by kernel_rfl) (by kernel_rfl) (by kernel_rfl) (Pl.free 11 (by kernel_rfl)) (Pl.move 11 (.tmp 4) (by kernel_rfl) (by decide)) (show (fun w' => w'.cell? ⟨p, 7, none⟩ = some (.slice L.ap.a L.ap.len L.ap.cap)) w.drew from h.drew.c7) ?_
  refine Pl.H.take 12 38 (.int .i64 ((k : Nat) : Int)) (by kernel_rfl) (by kernel_rfl) (by kernel_rfl) (Pl.free 12 (by kernel_rfl)) (Pl.binV 12 .sub 3 3 (.tmp 36) (.tmp 37) (.int .i64 ((u0 : Nat) : Int)) (.int .i64 ((m : Nat) : Int)) _ (by kernel_rfl) (by decide) (by decide) rfl rfl (fun w => by simp [go_sem, eqGuard, hk])) (show (fun w' => w'.cell? ⟨p, 7, none⟩ = some (.slice L.ap.a L.ap.len L.ap.cap)) w.drew from h.drew.c7) ?_
  refine Pl.H.take 13 39 (.slice (fromA L.ap.a L.ap.cap 0) k L.ap.cap) (by kernel_rfl) (by kernel_rfl) (by kernel_rfl) (Pl.free 13 (by kernel_rfl)) (Pl.slice 13 30 (.tmp 35) none (some (.tmp 38)) _ (by kernel_rfl) (by decide) (by decide) (by decide) (fun w => slice_upto L.ap.a L.ap.len L.ap.cap k (Nat.le_trans hkl (h.own .ap).lecap) w)) (show (fun w' => w'.cell? ⟨p, 7, none⟩ = some (.slice L.ap.a L.ap.len L.ap.cap)) w.drew from h.drew.c7) ?_
  refine Pl.H.solo 5 31 (.slice L.ks.a L.ks.len L.ks.cap) (by kernel_rfl) (by kernel_rfl) (by kernel_rfl) (Pl.free 5 (by kernel_rfl)) (Pl.load1 5 30 (.tmp 30) _ (by kernel_rfl) (by decide) (ldBs p 5 _ _ _ _ h.drew.c5)) (show (fun w' => w'.cell? ⟨p, 7, none⟩ = some (.slice L.ap.a L.ap.len L.ap.cap)) w.drew from h.drew.c7) ?_
  have hS1 : (fun w' : World => w'.cell? ⟨p, 7, none⟩ = some (.slice L.ap.a L.ap.len L.ap.cap)) w1 := (Addr.cell0 hp1).trans rfl
  refine Pl.H.make 14 40 (sl1.val) w1 (by kernel_rfl) (by kernel_rfl) (by kernel_rfl) (Pl.free 14 (by kernel_rfl)) (Pl.appT 14 30 30 (.tmp 31) (.tmp 39) _ _ (by kernel_rfl) (by kernel_rfl) (by decide) (by decide) (hr1 _)) hS1 ?_
  refine Pl.H.take 15 41 (.pointer (some ⟨p, 0, none⟩)) (by kernel_rfl) (by kernel_rfl) (by kernel_rfl) (Pl.free 15 (by kernel_rfl)) (Pl.nilc 15 (.tmp 26) _ (by kernel_rfl) (by decide) rfl) hS1 ?_
  refine Pl.H.take 16 42 (.pointer (some ⟨p, 3, none⟩)) (by kernel_rfl) (by kernel_rfl) (by kernel_rfl) (Pl.free 16 (by kernel_rfl)) (Pl.field 16 69 (.tmp 41) 1 _ (by kernel_rfl) (by decide) (fdDev1_0 p)) hS1 ?_
  refine Pl.H.take 17 43 (.pointer (some ⟨p, 5, none⟩)) (by kernel_rfl) (by kernel_rfl) (by kernel_rfl) (Pl.free 17 (by kernel_rfl)) (Pl.field 17 65 (.tmp 42) 2 _ (by kernel_rfl) (by decide) (fdDk2_3 p)) hS1 ?_
  refine Pl.H.store 18 (w1.setCell ⟨p, 5, none⟩ sl1.val) (by kernel_rfl) (by kernel_rfl) (by kernel_rfl) (Pl.free 18 (by kernel_rfl)) (Pl.storeV 18 30 (.tmp 43) (.tmp 40) _ (by kernel_rfl) (by decide) (by decide) (stBs p 5 _ _ w1 (Addr.cell0 hp1) (frozen_of_row w1 p _ _ 69 hp1))) hS2 ?_
  refine Pl.H.done (by kernel_rfl) (fun A' hA' => ?_)
  rw [Pl.At.ext hA' ((((((((((((((((((hA.put 26 _).put 27 _).put 28 _).put 29 _).put 30 _).put 32 _).put 33 _).put 34 _).put 35 _).put 36 _).put 37 _).put 38 _).put 39 _).put 31 _).put 40 _).put 41 _).put 42 _).put 43 _)]
  exact hend (fun d => if d = 26 then .pointer (some ⟨p, 0, none⟩) else if d = 27 then .pointer (some ⟨p, 0, none⟩) else if d = 28 then .pointer (some ⟨p, 0, none⟩) else if d = 29 then .pointer (some ⟨p, 3, none⟩) else if d = 30 then .pointer (some ⟨p, 5, none⟩) else if d = 32 then .pointer (some ⟨p, 0, none⟩) else if d = 33 then .pointer (some ⟨p, 0, none⟩) else if d = 34 then .pointer (some ⟨p, 7, none⟩) else if d = 35 then .slice L.ap.a L.ap.len L.ap.cap else if d = 36 then .int .i64 ((u0 : Nat) : Int) else if d = 37 then .int .i64 ((m : Nat) : Int) else if d = 38 then .int .i64 ((k : Nat) : Int) else if d = 39 then .slice (fromA L.ap.a L.ap.cap 0) k L.ap.cap else if d = 31 then .slice L.ks.a L.ks.len L.ks.cap else if d = 40 then sl1.val else if d = 41 then .pointer (some ⟨p, 0, none⟩) else if d = 42 then .pointer (some ⟨p, 3, none⟩) else if d = 43 then .pointer (some ⟨p, 5, none⟩) else undef) _ ⟨_, hT⟩

theorem idxTm (b o len cap k : Nat) (hk : k < len) (w : World) : (Instr.indexAt 67 (.slice (some ⟨b, o, none⟩) len cap) (.int .i64 (k : Nat))).run Try.prog w = .ok (.pointer (some ⟨b, o + k * 2, none⟩)) w := by
  have h22 : Try.prog.underlying 67 = some (.slice (Try.prog.elem 67)) := by kernel_rfl
  have h1 : (0 : Int) ≤ (k : Int) := by omega
  have h2 : (k : Int) < (len : Int) := by omega
  simp [go_sem, Instr.indexAt, run_underlying h22, h1, Addr.add_lit]
  intro h
  omega
theorem fldTm1 (p o : Nat) (w : World) : (Instr.fieldAt 83 (.pointer (some ⟨p, o, none⟩)) 1).run Try.prog w = .ok (.pointer (some ⟨p, o + 1, none⟩)) w := by simp [go_sem, Instr.fieldAt]

set_option maxHeartbeats 2000000 in
set_option maxRecDepth 100000 in
theorem keepU5 (w : World) (p : Nat) (D : Ds) (L : Dl) (h : DevM w p D L) (m m1 pl g off : Nat) (hm : IntKind.i64.wrap ((m1 : Int) - 1) = (m : Nat)) (hml : m < L.tr.len) (ha : L.tr.a = some ⟨g, off, none⟩) (hc : w.cell? ⟨g, off + m * 2 + 1, none⟩ = some (.int .i64 ((pl : Nat) : Int))) (h1 : D.kb ≤ pl) (h2 : pl ≤ D.kb + D.ks.length) (h3 : pl ≤ 1000000000000)
    {Q : Exit → Act → World → Prop} {A : Act} (hsz : A.tmps.size = 59) (hdf : A.defers = []) (s0 : A.tmps.getD 0 undef = .pointer (some ⟨p, 0, none⟩)) (s4 : A.tmps.getD 4 undef = .int .i64 ((m1 : Nat) : Int))
    (hend : ∀ (u : Nat → Value) w', (∃ L', Turned w p L w' { D with ks := D.ks.drop (pl - D.kb), kb := pl } L') → Q .normal ((((((((((((((A).put (some 46) (u 46)).put (some 47) (u 47)).put (some 48) (u 48)).put (some 49) (u 49)).put (some 50) (u 50)).put (some 51) (u 51)).put (some 53) (u 53)).put (some 54) (u 54)).put (some 52) (u 52)).put (some 55) (u 55)).put (some 56) (u 56)).put (some 57) (u 57)).put (some 58) (u 58)) w') :
    (Code.region 5 (Pl.find 5 ((Try.f46.body).getD .skip)) true).wp Try.prog Q A w := by
  have hA := Pl.At.same (v := .int .i64 ((m1 : Nat) : Int)) (d := 4) (Pl.At.same (v := .pointer (some ⟨p, 0, none⟩)) (d := 0) (Pl.At.here hsz hdf) s0) s4
  refine Pl.H.start (S := fun _ => True) (by kernel_rfl) hA True.intro ?_
  rw [show (Pl.find 5 ((Try.f46.body).getD .skip)).size = 13 by kernel_rfl]
  refine Pl.H.take 0 46 (.pointer (some ⟨p, 0, none⟩)) (by kernel_rfl) (by kernel_rfl) (by kernel_rfl) (Pl.free 0 (by kernel_rfl)) (Pl.move 0 (.tmp 0) (by kernel_rfl) (by decide)) True.intro ?_
  refine Pl.H.take 1 47 (.pointer (some ⟨p, 0, none⟩)) (by kernel_rfl) (by kernel_rfl) (by kernel_rfl) (Pl.free 1 (by kernel_rfl)) (Pl.nilc 1 (.tmp 46) _ (by kernel_rfl) (by decide) rfl) True.intro ?_
  refine Pl.H.take 2 48 (.pointer (some ⟨p, 3, none⟩)) (by kernel_rfl) (by kernel_rfl) (by kernel_rfl) (Pl.free 2 (by kernel_rfl)) (Pl.field 2 69 (.tmp 47) 1 _ (by kernel_rfl) (by decide) (fdDev1_0 p)) True.intro ?_
  refine Pl.H.take 3 49 (.pointer (some ⟨p, 0, none⟩)) (by kernel_rfl) (by kernel_rfl) (by kernel_rfl) (Pl.free 3 (by kernel_rfl)) (Pl.move 3 (.tmp 0) (by kernel_rfl) (by decide)) True.intro ?_
  refine Pl.H.take 4 50 (.pointer (some ⟨p, 0, none⟩)) (by kernel_rfl) (by kernel_rfl) (by kernel_rfl) (Pl.free 4 (by kernel_rfl)) (Pl.nilc 4 (.tmp 49) _ (by kernel_rfl) (by decide) rfl) True.intro ?_
  refine Pl.H.take 5 51 (.pointer (some ⟨p, 8, none⟩)) (by kernel_rfl) (by kernel_rfl) (by kernel_rfl) (Pl.free 5 (by kernel_rfl)) (Pl.field 5 69 (.tmp 50) 4 _ (by kernel_rfl) (by decide) (fdDev4_0 p)) True.intro ?_
  refine Pl.H.take 7 53 (.int .i64 ((m1 : Nat) : Int)) (by kernel_rfl) (by kernel_rfl) (by kernel_rfl) (Pl.free 7 (by kernel_rfl)) (Pl.move 7 (.tmp 4) (by kernel_rfl) (by decide)) True.intro ?_
  refine Pl.H.take 8 54 (.int .i64 ((m : Nat) : Int)) (by kernel_rfl) (by kernel_rfl) (by kernel_rfl) (Pl.free 8 (by kernel_rfl)) (Pl.binV 8 .sub 3 3 (.tmp 53) (.const (.int .i64 1)) (.int .i64 ((m1 : Nat) : Int)) (.int .i64 1) _ (by kernel_rfl) (by decide) (by decide) rfl rfl (fun w => by simp [go_sem, eqGuard, hm])) True.intro ?_
  refine Pl.H.solo 6 52 (.slice (some ⟨g, off, none⟩) L.tr.len L.tr.cap) (by kernel_rfl) (by kernel_rfl) (by kernel_rfl) (Pl.free 6 (by kernel_rfl)) (Pl.load1 6 67 (.tmp 51) _ (by kernel_rfl) (by decide) (ldTs p 8 _ _ _ _ (by rw [← ha]; exact h.drew.c8))) True.intro ?_
  refine Pl.H.take 9 55 (.pointer (some ⟨g, off + m * 2, none⟩)) (by kernel_rfl) (by kernel_rfl) (by kernel_rfl) (Pl.free 9 (by kernel_rfl)) (Pl.index 9 67 (.tmp 52) (.tmp 54) _ (by kernel_rfl) (by decide) (by decide) (idxTm g off L.tr.len L.tr.cap m hml)) True.intro ?_
  refine Pl.H.take 10 56 (.pointer (some ⟨g, off + m * 2 + 1, none⟩)) (by kernel_rfl) (by kernel_rfl) (by kernel_rfl) (Pl.free 10 (by kernel_rfl)) (Pl.field 10 83 (.tmp 55) 1 _ (by kernel_rfl) (by decide) (fldTm1 g (off + m * 2))) True.intro ?_
  refine Pl.H.solo 11 57 (.int .i64 ((pl : Nat) : Int)) (by kernel_rfl) (by kernel_rfl) (by kernel_rfl) (Pl.free 11 (by kernel_rfl)) (Pl.load1 11 3 (.tmp 56) _ (by kernel_rfl) (by decide) (ldInt g (off + m * 2 + 1) _ _ hc)) True.intro ?_
  refine Pl.H.call 12 58 37 [(.tmp 48), (.tmp 57)] #[65, 3] (by kernel_rfl) (by kernel_rfl) (by kernel_rfl) (Pl.free 12 (by kernel_rfl)) (by kernel_rfl) (by decide) entTrim (Calls.mono (trimK w.drew p D L h.drew pl h1 h2 h3) ?_)
  rintro e w2 ⟨rfl, L2, hT2⟩
  refine ⟨.tuple #[], rfl, True.intro, ?_⟩
  refine Pl.H.done (by kernel_rfl) (fun A' hA' => ?_)
  rw [Pl.At.ext hA' (((((((((((((hA.put 46 _).put 47 _).put 48 _).put 49 _).put 50 _).put 51 _).put 53 _).put 54 _).put 52 _).put 55 _).put 56 _).put 57 _).put 58 _)]
  exact hend (fun d => if d = 46 then .pointer (some ⟨p, 0, none⟩) else if d = 47 then .pointer (some ⟨p, 0, none⟩) else if d = 48 then .pointer (some ⟨p, 3, none⟩) else if d = 49 then .pointer (some ⟨p, 0, none⟩) else if d = 50 then .pointer (some ⟨p, 0, none⟩) else if d = 51 then .pointer (some ⟨p, 8, none⟩) else if d = 53 then .int .i64 ((m1 : Nat) : Int) else if d = 54 then .int .i64 ((m : Nat) : Int) else if d = 52 then .slice (some ⟨g, off, none⟩) L.tr.len L.tr.cap else if d = 55 then .pointer (some ⟨g, off + m * 2, none⟩) else if d = 56 then .pointer (some ⟨g, off + m * 2 + 1, none⟩) else if d = 57 then .int .i64 ((pl : Nat) : Int) else if d = 58 then .tuple #[] else undef) _ ⟨_, (Turned.same h (below_drew w)).trans hT2⟩

/-- The stream's first units are kept, m trimmings among them. -/
def Ds.keepU (D : Ds) (u m : Nat) : Ds :=
  if m = 0 then { D with ks := D.ks ++ D.ap.take u }
  else { D with ks := (D.ks ++ D.ap.take (u - m)).drop ((D.tr.getD (m - 1) tmD).place - D.kb), kb := (D.tr.getD (m - 1) tmD).place }

set_option maxHeartbeats 4000000 in
theorem keepU_any (w : World) (p : Nat) (D : Ds) (L : Dl) (h : DevM w p D L) (u m : Nat) (ht : D.Trims u m) (hum : m ≤ u) (hua : u - m ≤ D.ap.length) (hm : D.ks.length + D.ap.length ≤ 1000000) (hu : u ≤ 1000000000)
    (hp : 0 < m → D.kb ≤ (D.tr.getD (m - 1) tmD).place ∧ (D.tr.getD (m - 1) tmD).place ≤ D.kb + (D.ks.length + (u - m)) ∧ (D.tr.getD (m - 1) tmD).place ≤ 1000000000000) (htl : D.tr.length ≤ 100000) :
    Calls Try.prog 46 #[at0 p, .int .i64 ((u : Nat) : Int)] w fun e w' => e = .returned (.tuple #[]) ∧ ∃ L', Turned w p L w' (D.keepU u m) L' := by
  have HH := hide h
  have HT := hide ht
  have c8 := h.c8
  have hlt := h.lenT
  have HLT := hide hlt
  rw [← hlt] at c8
  have hal : D.ap.length = L.ap.len := h.len .ap
  have HR : Hid (∀ {Q : Exit → Act → World → Prop} {A : Act}, _) := fun {Q A} => keepU3 w p D L h u m (u - m) (by rw [IntKind.wrap_i64]; omega) (by omega) (by omega) (Q := Q) (A := A)
  have HP := hide hp
  have HK : Hid (∀ (h0 : m = 0), D.keepU u m = { D with ks := D.ks ++ D.ap.take u }) := fun h0 => by unfold Ds.keepU; rw [if_pos h0]
  have HK2 : Hid (∀ (h0 : 0 < m), D.keepU u m = { D with ks := (D.ks ++ D.ap.take (u - m)).drop ((D.tr.getD (m - 1) tmD).place - D.kb), kb := (D.tr.getD (m - 1) tmD).place }) := fun h0 => by unfold Ds.keepU; rw [if_neg (by omega)]
  have hml := ht.le
  have HAL : Hid (u - m ≤ D.ap.length) := hua
  clear ht h hp hal hlt hua
  unfold at0 at *
  go_enter Try.func46, Try.ntmps46
  go_wp2_with fail
  go_loop [4] (fun i => ∃ j : Nat, j ≤ m ∧ i = .int .i64 j) (fun i => m - (intOf i).toNat)
  case atStart => exact ⟨0, by omega, rfl⟩
  case round =>
    obtain ⟨j, hj, rfl⟩ := hrel
    rcases Nat.lt_or_ge j m with hlt | hge
    · obtain ⟨g, off, ha, hc, _⟩ := HH.out.tmAt j (by omega)
      have hx := HT.out.lt j hlt
      obtain ⟨x, hxe⟩ : ∃ x, x = (D.tr.getD j tmD).ahead := ⟨_, rfl⟩
      rw [← hxe] at hc hx
      rw [ha] at c8
      have i1 : ((j : Nat) : Int) < ((D.tr.length : Nat) : Int) := by omega
      have i2 : ((x : Nat) : Int) < ((u : Nat) : Int) := by omega
      clear hxe ha
      go_wp2_with fail
      go_round
      case rel => exact ⟨j + 1, by omega, by go_num⟩
      case measure => simp only [intOf]; omega
    · obtain rfl : j = m := by omega
      rcases Nat.lt_or_ge j D.tr.length with hl2 | hl2
      · obtain ⟨g, off, ha, hc, _⟩ := HH.out.tmAt j hl2
        have hx := HT.out.ge hl2
        obtain ⟨x, hxe⟩ : ∃ x, x = (D.tr.getD j tmD).ahead := ⟨_, rfl⟩
        rw [← hxe] at hc hx
        rw [ha] at c8
        have i1 : ((j : Nat) : Int) < ((D.tr.length : Nat) : Int) := by omega
        have i2 : ¬ ((x : Nat) : Int) < ((u : Nat) : Int) := by omega
        clear hxe ha
        go_wp2_with fail
        refine Pl.region_is (ops := Pl.find 3 ((Try.f46.body).getD .skip)) (by kernel_rfl) ?_
        refine HR.out (by rfl) rfl (by rfl) (by rfl) (by rfl) ?_
        rintro uu w1 ⟨L1, hT1⟩
        have HT1 := hide hT1
        simp only [Act.put, List.setIfInBounds_toArray, List.set_cons_zero, List.set_cons_succ]
        clear hT1
        rcases Nat.eq_zero_or_pos j with h0 | h0
        · have HK0 := hide (HK.out h0)
          have i3 : ¬ (0 : Int) < ((j : Nat) : Int) := by omega
          have i4 : ((j : Nat) : Int) ≤ 0 := by omega
          have HJ := hide h0
          have i5 : ¬ 0 < j := by omega
          clear h0
          go_wp2_with fail
          go_end0
          refine ⟨rfl, L1, ?_⟩
          rw [HK0.out]
          have e := HT1.out
          rw [HJ.out] at e
          exact e
        · have i3 : (0 : Int) < ((j : Nat) : Int) := by omega
          go_wp2_with fail
          refine Pl.region_is (ops := Pl.find 5 ((Try.f46.body).getD .skip)) (by kernel_rfl) ?_
          obtain ⟨q1, q2, q3⟩ := HP.out h0
          have hle := HT.out.le
          obtain ⟨g5, off5, ha5, _, hc5⟩ := HT1.out.dev.tmAt (j - 1) (by show _ < D.tr.length; omega)
          have hl5 := HT1.out.dev.lenT
          have e5 : (D.ks ++ D.ap.take (u - j)).length = D.ks.length + (u - j) := by have := HAL.out; simp only [List.length_append, List.length_take]; omega
          refine keepU5 w1 p _ L1 HT1.out.dev (j - 1) j _ g5 off5 (by rw [IntKind.wrap_i64]; omega) (by rw [← hl5]; show _ < D.tr.length; omega) ha5 hc5 q1 (by show _ ≤ D.kb + (D.ks ++ D.ap.take (u - j)).length; rw [e5]; exact q2) q3 (by rfl) rfl (by rfl) (by rfl) ?_
          rintro uu w2 ⟨L2, hT2⟩
          have HT2 := hide (HT1.out.trans hT2)
          have HKK := hide (HK2.out h0)
          simp only [Act.put, List.setIfInBounds_toArray, List.set_cons_zero, List.set_cons_succ]
          clear hT2 ha5 hc5 hl5 e5 q1 q2 q3 hle
          go_wp2_with fail
          go_end0
          refine ⟨rfl, L2, ?_⟩
          rw [HKK.out]
          exact HT2.out
      · have i1 : ¬ ((j : Nat) : Int) < ((D.tr.length : Nat) : Int) := by omega
        go_wp2_with fail
        refine Pl.region_is (ops := Pl.find 3 ((Try.f46.body).getD .skip)) (by kernel_rfl) ?_
        refine HR.out (by rfl) rfl (by rfl) (by rfl) (by rfl) ?_
        rintro uu w1 ⟨L1, hT1⟩
        have HT1 := hide hT1
        simp only [Act.put, List.setIfInBounds_toArray, List.set_cons_zero, List.set_cons_succ]
        clear hT1
        rcases Nat.eq_zero_or_pos j with h0 | h0
        · have HK0 := hide (HK.out h0)
          have i3 : ¬ (0 : Int) < ((j : Nat) : Int) := by omega
          have i4 : ((j : Nat) : Int) ≤ 0 := by omega
          have HJ := hide h0
          have i5 : ¬ 0 < j := by omega
          clear h0
          go_wp2_with fail
          go_end0
          refine ⟨rfl, L1, ?_⟩
          rw [HK0.out]
          have e := HT1.out
          rw [HJ.out] at e
          exact e
        · have i3 : (0 : Int) < ((j : Nat) : Int) := by omega
          go_wp2_with fail
          refine Pl.region_is (ops := Pl.find 5 ((Try.f46.body).getD .skip)) (by kernel_rfl) ?_
          obtain ⟨q1, q2, q3⟩ := HP.out h0
          have hle := HT.out.le
          obtain ⟨g5, off5, ha5, _, hc5⟩ := HT1.out.dev.tmAt (j - 1) (by show _ < D.tr.length; omega)
          have hl5 := HT1.out.dev.lenT
          have e5 : (D.ks ++ D.ap.take (u - j)).length = D.ks.length + (u - j) := by have := HAL.out; simp only [List.length_append, List.length_take]; omega
          refine keepU5 w1 p _ L1 HT1.out.dev (j - 1) j _ g5 off5 (by rw [IntKind.wrap_i64]; omega) (by rw [← hl5]; show _ < D.tr.length; omega) ha5 hc5 q1 (by show _ ≤ D.kb + (D.ks ++ D.ap.take (u - j)).length; rw [e5]; exact q2) q3 (by rfl) rfl (by rfl) (by rfl) ?_
          rintro uu w2 ⟨L2, hT2⟩
          have HT2 := hide (HT1.out.trans hT2)
          have HKK := hide (HK2.out h0)
          simp only [Act.put, List.setIfInBounds_toArray, List.set_cons_zero, List.set_cons_succ]
          clear hT2 ha5 hc5 hl5 e5 q1 q2 q3 hle
          go_wp2_with fail
          go_end0
          refine ⟨rfl, L2, ?_⟩
          rw [HKK.out]
          exact HT2.out

end Go.Proofs.Ytokdeilcfkobfaa
