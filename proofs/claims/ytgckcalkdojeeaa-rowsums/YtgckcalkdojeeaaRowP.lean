/-
  The law of the row of any key and columns: its walk.
-/
import Derived.Test.YtgckcalkdojeeaaRowO
namespace Go.Proofs.Ytgckcalkdojeeaa
open Go.RowKit

theorem addv_val (a b : Nat) : Fl.val (Fl.addv a b) = Fl.addv a b := by
  unfold Fl.addv
  split
  · exact Fl.val_val _
  · decide

theorem ofR_may (key : Nat) (xs : List Nat) (h : xs.length ≤ 4) : (ofR key xs).may = true := by
  rw [may_ref]
  have e1 : ((ofR key xs).key == Fl.key (ofR key xs).key) = true := by
    show (Fl.key key == Fl.key (Fl.key key)) = true
    rw [Fl.key_key]
    exact beq_self_eq_true _
  have e2 : haveB (ofR key xs).dead (ofR key xs).xs = true := by
    show haveB false (xs.map Fl.val) = true
    unfold haveB
    have : (xs.map Fl.val).all (fun x => x == Fl.val x) = true := by
      rw [List.all_eq_true]
      intro x hx
      obtain ⟨y, _, rfl⟩ := List.mem_map.1 hx
      rw [Fl.val_val]
      exact beq_self_eq_true _
    rw [this, List.length_map, decide_eq_true h]
    rfl
  rw [e1, e2]
  rfl

theorem ofR_fits (key : Nat) (hk : key < 18446744073709551616) (xs : List Nat) (h : ∀ x ∈ xs, x < 18446744073709551616) : (ofR key xs).fits :=
  ⟨Fl.key_lt hk, val_fits h, fits_i64 (n := 0) (by decide) (by decide), fits_i64 (n := 0) (by decide) (by decide), fits_i64 (n := 0) (by decide) (by decide)⟩

theorem plus_may {r : Rw} (hm : r.may = true) (h0 : 0 < r.xs.length) (y : Nat) : (plusR r y).may = true ∧ r.dead = false := by
  have hp := Rw.may_parts hm
  have hd : r.dead = false := by
    cases h : r.dead
    · rfl
    · rw [hp.2.2.1 h] at h0
      cases h0
  refine ⟨?_, hd⟩
  rw [may_ref] at hm ⊢
  have e2 : haveB (plusR r y).dead (plusR r y).xs = true := by
    show haveB r.dead (r.xs.set 0 _) = true
    unfold haveB
    have : (r.xs.set 0 (Fl.addv (r.xs.getD 0 0) y)).all (fun x => x == Fl.val x) = true := by
      rw [List.all_eq_true]
      intro x hx
      rcases List.mem_or_eq_of_mem_set hx with h1 | h1
      · exact beq_iff_eq.2 (hp.2.2.2.1 x h1)
      · rw [h1, addv_val]
        exact beq_self_eq_true _
    rw [this, List.length_set, decide_eq_true hp.2.1, hd]
    rfl
  simp only [Bool.and_eq_true] at hm ⊢
  exact ⟨⟨hm.1.1, e2⟩, hm.2⟩

theorem plus_fitsR {r : Rw} (hf : r.fits) (y : Nat) : (plusR r y).fits := ⟨hf.key, plus_fits hf.xs y, hf.wr, hf.cell, hf.no⟩

set_option maxHeartbeats 2000000 in
set_option maxRecDepth 100000 in
theorem makes4 (w0 w : World) (p key : Nat) (hkey : key < 18446744073709551616) (xs : List Nat) (a : Option Addr) (len cap : Nat) (ra : Option Addr) (rc : Nat) (hx : RwBlk w0 p (ofR key xs) (.slice ra len rc)) (hfr : Fs w0 ra len rc (ofR key xs).xs) (hfa : Fs w0 a len cap xs) (h4 : len ≤ 4) (hW : Below w0.heap.size w0 w)
    {Q : Exit → Act → World → Prop} {A : Act} (hsz : A.tmps.size = 80) (hdf : A.defers = []) (s0 : A.tmps.getD 0 undef = .float .f64 key) (s1 : A.tmps.getD 1 undef = .slice a len cap) (s7 : A.tmps.getD 7 undef = .pointer (some ⟨p, 0, none⟩)) (s8 : A.tmps.getD 8 undef = .int .i64 0)
    (hend : ∀ (u : Nat → Value) w', Below w0.heap.size w0 w' → Q .normal ((((((((((((((((A).put (some 30) (u 30)).put (some 31) (u 31)).put (some 32) (u 32)).put (some 33) (u 33)).put (some 34) (u 34)).put (some 35) (u 35)).put (some 36) (u 36)).put (some 37) (u 37)).put (some 38) (u 38)).put (some 39) (u 39)).put (some 40) (u 40)).put (some 41) (u 41)).put (some 42) (u 42)).put (some 43) (u 43)).put (some 44) (.bool false)) w') :
    (Code.region 4 (Pl.find 4 ((Try.f5.body).getD .skip)) true).wp Try.prog Q A w := by
  have hS0 : Below w0.heap.size w0 w.drew := hW.drew
  have hA := Pl.At.same (v := .int .i64 0) (d := 8) (Pl.At.same (v := .pointer (some ⟨p, 0, none⟩)) (d := 7) (Pl.At.same (v := .slice a len cap) (d := 1) (Pl.At.same (v := .float .f64 key) (d := 0) (Pl.At.here hsz hdf) s0) s1) s7) s8
  refine Pl.H.start (S := fun w' => Below w0.heap.size w0 w') (by kernel_rfl) hA hS0 ?_
  rw [show (Pl.find 4 ((Try.f5.body).getD .skip)).size = 15 by kernel_rfl]
  refine Pl.H.take 0 30 (.int .i64 0) (by kernel_rfl) (by kernel_rfl) (by kernel_rfl) (Pl.free 0 (by kernel_rfl)) (Pl.move 0 (.tmp 8) (by kernel_rfl) (by decide)) hS0 ?_
  refine Pl.H.take 1 31 (.bool false) (by kernel_rfl) (by kernel_rfl) (by kernel_rfl) (Pl.free 1 (by kernel_rfl)) (Pl.binV 1 .neq 30 30 (.tmp 30) (.const (.int .i64 0)) (.int .i64 0) (.int .i64 0) _ (by kernel_rfl) (by decide) (by decide) rfl rfl (fun w => by simp [go_sem, eqGuard])) hS0 ?_
  refine Pl.H.take 2 32 (.bool false) (by kernel_rfl) (by kernel_rfl) (by kernel_rfl) (Pl.free 2 (by kernel_rfl)) (Pl.move 2 (.tmp 31) (by kernel_rfl) (by decide)) hS0 ?_
  refine Pl.H.take 3 33 ((ofR key xs).val (.slice ra len rc)) (by kernel_rfl) (by kernel_rfl) (by kernel_rfl) (Pl.guarded 3 2 32 false (by kernel_rfl) (by kernel_rfl) (by decide) rfl) (Pl.load 3 27 (.tmp 7) _ (by kernel_rfl) (by decide) (fun w' hS => load_rw p (ofR key xs) (.slice ra len rc) ⟨_, _, _, rfl⟩ w' (hx.keep hS))) hS0 ?_
  refine Pl.H.take 4 34 (.float .f64 key) (by kernel_rfl) (by kernel_rfl) (by kernel_rfl) (Pl.guarded 4 2 32 false (by kernel_rfl) (by kernel_rfl) (by decide) rfl) (Pl.move 4 (.tmp 0) (by kernel_rfl) (by decide)) hS0 ?_
  refine Pl.H.take 5 35 (.slice a len cap) (by kernel_rfl) (by kernel_rfl) (by kernel_rfl) (Pl.guarded 5 2 32 false (by kernel_rfl) (by kernel_rfl) (by decide) rfl) (Pl.move 5 (.tmp 1) (by kernel_rfl) (by decide)) hS0 ?_
  refine Pl.H.call 6 36 17 [(.tmp 34), (.tmp 35)] #[22, 23] (by kernel_rfl) (by kernel_rfl) (by kernel_rfl) (Pl.guarded 6 2 32 false (by kernel_rfl) (by kernel_rfl) (by decide) rfl) (by kernel_rfl) (by decide) enters17 (Calls.mono (refOf_any key hkey a len cap xs w.drew (hfa.keep hS0 (Nat.le_refl _)) h4) ?_)
  rintro e w1 ⟨hb1, oa, oc, rfl, hfo⟩
  have hS1 := hS0.trans (hb1.mono hS0.size)
  refine ⟨(ofR key xs).val (.slice oa len oc), rfl, hS1, ?_⟩
  refine Pl.H.call 7 37 14 [(.tmp 33), (.tmp 36)] #[27, 27] (by kernel_rfl) (by kernel_rfl) (by kernel_rfl) (Pl.guarded 7 2 32 false (by kernel_rfl) (by kernel_rfl) (by decide) rfl) (by kernel_rfl) (by decide) enters14 (Calls.mono (refSelf_any (ofR key xs) ra len rc oa len oc w1 (hfr.keep hS1 (Nat.le_refl _)) hfo) ?_)
  rintro e w2 ⟨rfl, hb2⟩
  have hS2 := hS1.trans (hb2.mono hS1.size)
  refine ⟨.bool true, rfl, hS2, ?_⟩
  refine Pl.H.take 8 38 (.bool false) (by kernel_rfl) (by kernel_rfl) (by kernel_rfl) (Pl.guarded 8 2 32 false (by kernel_rfl) (by kernel_rfl) (by decide) rfl) (Pl.neg 8 4 (.tmp 37) true (by kernel_rfl) (by decide) rfl) hS2 ?_
  refine Pl.H.take 9 39 (.bool false) (by kernel_rfl) (by kernel_rfl) (by kernel_rfl) (Pl.free 9 (by kernel_rfl)) (Pl.pickF 9 (.tmp 32) (.const (.bool true)) (.tmp 38) (by kernel_rfl) (by decide) (by decide) rfl) hS2 ?_
  refine Pl.H.take 10 40 (.bool false) (by kernel_rfl) (by kernel_rfl) (by kernel_rfl) (Pl.free 10 (by kernel_rfl)) (Pl.move 10 (.tmp 39) (by kernel_rfl) (by decide)) hS2 ?_
  refine Pl.H.take 11 41 ((ofR key xs).val (.slice ra len rc)) (by kernel_rfl) (by kernel_rfl) (by kernel_rfl) (Pl.guarded 11 10 40 false (by kernel_rfl) (by kernel_rfl) (by decide) rfl) (Pl.load 11 27 (.tmp 7) _ (by kernel_rfl) (by decide) (fun w' hS => load_rw p (ofR key xs) (.slice ra len rc) ⟨_, _, _, rfl⟩ w' (hx.keep hS))) hS2 ?_
  refine Pl.H.call 12 42 11 [(.tmp 41)] #[27] (by kernel_rfl) (by kernel_rfl) (by kernel_rfl) (Pl.guarded 12 10 40 false (by kernel_rfl) (by kernel_rfl) (by decide) rfl) (by kernel_rfl) (by decide) enters11 (Calls.mono (mayIs_any (ofR key xs) true (ofR_may key xs (by rw [hfa.len]; exact h4)) ra len rc w2 (hfr.keep hS2 (Nat.le_refl _)) (ofR_fits key hkey xs hfa.fit)) ?_)
  rintro e w3 ⟨rfl, hb3⟩
  have hS3 := hS2.trans (hb3.mono hS2.size)
  refine ⟨.bool true, rfl, hS3, ?_⟩
  refine Pl.H.take 13 43 (.bool false) (by kernel_rfl) (by kernel_rfl) (by kernel_rfl) (Pl.guarded 13 10 40 false (by kernel_rfl) (by kernel_rfl) (by decide) rfl) (Pl.neg 13 4 (.tmp 42) true (by kernel_rfl) (by decide) rfl) hS3 ?_
  refine Pl.H.take 14 44 (.bool false) (by kernel_rfl) (by kernel_rfl) (by kernel_rfl) (Pl.free 14 (by kernel_rfl)) (Pl.pickF 14 (.tmp 40) (.const (.bool true)) (.tmp 43) (by kernel_rfl) (by decide) (by decide) rfl) hS3 ?_
  refine Pl.H.done (by kernel_rfl) (fun A' hA' => ?_)
  rw [Pl.At.ext hA' (((((((((((((((hA.put 30 _).put 31 _).put 32 _).put 33 _).put 34 _).put 35 _).put 36 _).put 37 _).put 38 _).put 39 _).put 40 _).put 41 _).put 42 _).put 43 _).put 44 _)]
  exact hend (fun d => if d = 30 then .int .i64 0 else if d = 31 then .bool false else if d = 32 then .bool false else if d = 33 then (ofR key xs).val (.slice ra len rc) else if d = 34 then .float .f64 key else if d = 35 then .slice a len cap else if d = 36 then (ofR key xs).val (.slice oa len oc) else if d = 37 then .bool true else if d = 38 then .bool false else if d = 39 then .bool false else if d = 40 then .bool false else if d = 41 then (ofR key xs).val (.slice ra len rc) else if d = 42 then .bool true else if d = 43 then .bool false else undef) _ hS3

set_option maxHeartbeats 2000000 in
set_option maxRecDepth 100000 in
theorem makes9 (w0 w : World) (p q y : Nat) (X : Rw) (len : Nat) (ra : Option Addr) (rc : Nat) (qa : Option Addr) (qc : Nat) (hx : RwBlk w0 p X (.slice ra len rc)) (hq : RwBlk w0 q (plusR X y) (.slice qa len qc)) (hfr : Fs w0 ra len rc X.xs) (hfq : Fs w0 qa len qc (plusR X y).xs) (hf : X.fits) (hm : X.may = true) (hl : len ≤ 1000) (h0 : 0 < len) (hW : Below w0.heap.size w0 w)
    {Q : Exit → Act → World → Prop} {A : Act} (hsz : A.tmps.size = 80) (hdf : A.defers = []) (s2 : A.tmps.getD 2 undef = .float .f64 y) (s7 : A.tmps.getD 7 undef = .pointer (some ⟨p, 0, none⟩)) (s9 : A.tmps.getD 9 undef = .pointer (some ⟨q, 0, none⟩)) (s10 : A.tmps.getD 10 undef = .int .i64 0)
    (hend : ∀ (u : Nat → Value) w', Below w0.heap.size w0 w' → Q .normal ((((((((((((((((((A).put (some 64) (u 64)).put (some 65) (u 65)).put (some 66) (u 66)).put (some 67) (u 67)).put (some 68) (u 68)).put (some 69) (u 69)).put (some 70) (u 70)).put (some 71) (u 71)).put (some 72) (u 72)).put (some 73) (u 73)).put (some 74) (u 74)).put (some 75) (u 75)).put (some 76) (u 76)).put (some 77) (u 77)).put (some 78) (u 78)).put (some 79) (u 79)).put (some 6) (.bool true)) w') :
    (Code.region 9 (Pl.find 9 ((Try.f5.body).getD .skip)) true).wp Try.prog Q A w := by
  have hS0 : Below w0.heap.size w0 w.drew := hW.drew
  have hA := Pl.At.same (v := .int .i64 0) (d := 10) (Pl.At.same (v := .pointer (some ⟨q, 0, none⟩)) (d := 9) (Pl.At.same (v := .pointer (some ⟨p, 0, none⟩)) (d := 7) (Pl.At.same (v := .float .f64 y) (d := 2) (Pl.At.here hsz hdf) s2) s7) s9) s10
  refine Pl.H.start (S := fun w' => Below w0.heap.size w0 w') (by kernel_rfl) hA hS0 ?_
  rw [show (Pl.find 9 ((Try.f5.body).getD .skip)).size = 17 by kernel_rfl]
  refine Pl.H.take 0 64 (.int .i64 0) (by kernel_rfl) (by kernel_rfl) (by kernel_rfl) (Pl.free 0 (by kernel_rfl)) (Pl.move 0 (.tmp 10) (by kernel_rfl) (by decide)) hS0 ?_
  refine Pl.H.take 1 65 (.bool true) (by kernel_rfl) (by kernel_rfl) (by kernel_rfl) (Pl.free 1 (by kernel_rfl)) (Pl.eqlSame 1 30 30 (.tmp 64) (.const (.int .i64 0)) _ _ (by kernel_rfl) (by decide) (by decide) rfl rfl) hS0 ?_
  refine Pl.H.take 2 66 (.bool true) (by kernel_rfl) (by kernel_rfl) (by kernel_rfl) (Pl.free 2 (by kernel_rfl)) (Pl.move 2 (.tmp 65) (by kernel_rfl) (by decide)) hS0 ?_
  refine Pl.H.take 3 67 ((plusR X y).val (.slice qa len qc)) (by kernel_rfl) (by kernel_rfl) (by kernel_rfl) (Pl.guarded 3 2 66 true (by kernel_rfl) (by kernel_rfl) (by decide) rfl) (Pl.load 3 27 (.tmp 9) _ (by kernel_rfl) (by decide) (fun w' hS => load_rw q (plusR X y) (.slice qa len qc) ⟨_, _, _, rfl⟩ w' (hq.keep hS))) hS0 ?_
  refine Pl.H.take 4 68 (X.val (.slice ra len rc)) (by kernel_rfl) (by kernel_rfl) (by kernel_rfl) (Pl.guarded 4 2 66 true (by kernel_rfl) (by kernel_rfl) (by decide) rfl) (Pl.load 4 27 (.tmp 7) _ (by kernel_rfl) (by decide) (fun w' hS => load_rw p X (.slice ra len rc) ⟨_, _, _, rfl⟩ w' (hx.keep hS))) hS0 ?_
  refine Pl.H.take 5 69 (.float .f64 y) (by kernel_rfl) (by kernel_rfl) (by kernel_rfl) (Pl.guarded 5 2 66 true (by kernel_rfl) (by kernel_rfl) (by decide) rfl) (Pl.move 5 (.tmp 2) (by kernel_rfl) (by decide)) hS0 ?_
  refine Pl.H.call 6 70 19 [(.tmp 68), (.tmp 69)] #[27, 22] (by kernel_rfl) (by kernel_rfl) (by kernel_rfl) (Pl.guarded 6 2 66 true (by kernel_rfl) (by kernel_rfl) (by decide) rfl) (by kernel_rfl) (by decide) enters19 (Calls.mono (refPlus_any X ra len rc y w.drew (hfr.keep hS0 (Nat.le_refl _)) hl h0) ?_)
  rintro e w1 ⟨hb1, oa, oc, rfl, hfo⟩
  have hS1 := hS0.trans (hb1.mono hS0.size)
  refine ⟨(plusR X y).val (.slice oa len oc), rfl, hS1, ?_⟩
  refine Pl.H.call 7 71 14 [(.tmp 67), (.tmp 70)] #[27, 27] (by kernel_rfl) (by kernel_rfl) (by kernel_rfl) (Pl.guarded 7 2 66 true (by kernel_rfl) (by kernel_rfl) (by decide) rfl) (by kernel_rfl) (by decide) enters14 (Calls.mono (refSelf_any (plusR X y) qa len qc oa len oc w1 (hfq.keep hS1 (Nat.le_refl _)) hfo) ?_)
  rintro e w2 ⟨rfl, hb2⟩
  have hS2 := hS1.trans (hb2.mono hS1.size)
  refine ⟨.bool true, rfl, hS2, ?_⟩
  refine Pl.H.take 8 72 (.bool true) (by kernel_rfl) (by kernel_rfl) (by kernel_rfl) (Pl.free 8 (by kernel_rfl)) (Pl.pick 8 (.tmp 66) (.tmp 71) (.const (.bool false)) (by kernel_rfl) (by decide) (by decide) rfl) hS2 ?_
  refine Pl.H.take 9 73 (.bool true) (by kernel_rfl) (by kernel_rfl) (by kernel_rfl) (Pl.free 9 (by kernel_rfl)) (Pl.move 9 (.tmp 72) (by kernel_rfl) (by decide)) hS2 ?_
  refine Pl.H.take 10 74 ((plusR X y).val (.slice qa len qc)) (by kernel_rfl) (by kernel_rfl) (by kernel_rfl) (Pl.guarded 10 9 73 true (by kernel_rfl) (by kernel_rfl) (by decide) rfl) (Pl.load 10 27 (.tmp 9) _ (by kernel_rfl) (by decide) (fun w' hS => load_rw q (plusR X y) (.slice qa len qc) ⟨_, _, _, rfl⟩ w' (hq.keep hS))) hS2 ?_
  refine Pl.H.call 11 75 11 [(.tmp 74)] #[27] (by kernel_rfl) (by kernel_rfl) (by kernel_rfl) (Pl.guarded 11 9 73 true (by kernel_rfl) (by kernel_rfl) (by decide) rfl) (by kernel_rfl) (by decide) enters11 (Calls.mono (mayIs_any (plusR X y) true (plus_may hm (by rw [hfr.len]; exact h0) y).1 qa len qc w2 (hfq.keep hS2 (Nat.le_refl _)) (plus_fitsR hf y)) ?_)
  rintro e w3 ⟨rfl, hb3⟩
  have hS3 := hS2.trans (hb3.mono hS2.size)
  refine ⟨.bool true, rfl, hS3, ?_⟩
  refine Pl.H.take 12 76 (.bool true) (by kernel_rfl) (by kernel_rfl) (by kernel_rfl) (Pl.free 12 (by kernel_rfl)) (Pl.pick 12 (.tmp 73) (.tmp 75) (.const (.bool false)) (by kernel_rfl) (by decide) (by decide) rfl) hS3 ?_
  refine Pl.H.take 13 77 (.bool true) (by kernel_rfl) (by kernel_rfl) (by kernel_rfl) (Pl.free 13 (by kernel_rfl)) (Pl.move 13 (.tmp 76) (by kernel_rfl) (by decide)) hS3 ?_
  refine Pl.H.call 14 78 8 [] #[] (by kernel_rfl) (by kernel_rfl) (by kernel_rfl) (Pl.guarded 14 13 77 true (by kernel_rfl) (by kernel_rfl) (by decide) rfl) (by kernel_rfl) (by decide) enters8 (Calls.mono (awake_any w3) ?_)
  rintro e w4 ⟨rfl, hb4⟩
  have hS4 := hS3.trans (hb4.mono hS3.size)
  refine ⟨.bool true, rfl, hS4, ?_⟩
  refine Pl.H.take 15 79 (.bool true) (by kernel_rfl) (by kernel_rfl) (by kernel_rfl) (Pl.free 15 (by kernel_rfl)) (Pl.pick 15 (.tmp 77) (.tmp 78) (.const (.bool false)) (by kernel_rfl) (by decide) (by decide) rfl) hS4 ?_
  refine Pl.H.take 16 6 (.bool true) (by kernel_rfl) (by kernel_rfl) (by kernel_rfl) (Pl.free 16 (by kernel_rfl)) (Pl.assign 16 (.tmp 79) (by kernel_rfl) (by decide)) hS4 ?_
  refine Pl.H.done (by kernel_rfl) (fun A' hA' => ?_)
  rw [Pl.At.ext hA' (((((((((((((((((hA.put 64 _).put 65 _).put 66 _).put 67 _).put 68 _).put 69 _).put 70 _).put 71 _).put 72 _).put 73 _).put 74 _).put 75 _).put 76 _).put 77 _).put 78 _).put 79 _).put 6 _)]
  exact hend (fun d => if d = 64 then .int .i64 0 else if d = 65 then .bool true else if d = 66 then .bool true else if d = 67 then (plusR X y).val (.slice qa len qc) else if d = 68 then X.val (.slice ra len rc) else if d = 69 then .float .f64 y else if d = 70 then (plusR X y).val (.slice oa len oc) else if d = 71 then .bool true else if d = 72 then .bool true else if d = 73 then .bool true else if d = 74 then (plusR X y).val (.slice qa len qc) else if d = 75 then .bool true else if d = 76 then .bool true else if d = 77 then .bool true else if d = 78 then .bool true else if d = 79 then .bool true else undef) _ hS4

set_option maxHeartbeats 4000000 in
set_option maxRecDepth 100000 in
theorem rowMakes_many (key : Nat) (a : Option Addr) (len cap x : Nat) (w : World) (h4 : 4 < len) (hb : len ≤ 9223372036854775807) :
    Calls Try.prog 5 #[.float .f64 key, .slice a len cap, .float .f64 x] w fun e w' => e = .returned (.bool true) ∧ Below w.heap.size w w' := by
  have hsf : ∀ (w : World) (a : Addr) (m : Mode) (x : Nat), (store a (.float .f64 x) m).run Try.prog w = stored Try.prog w a (.float .f64 x) m := fun w a m x => run_store Try.prog w a _ m rfl
  have HO := hide (of_many key a len cap w h4 hb)
  have HZ := hide zero_same
  have HA := hide awake_any
  have i1 : (4 : Int) < (len : Int) := by omega
  unfold zeroV at HO HZ
  go_enter Try.func5, Try.ntmps5
  go_wp2_with fail
  refine HO.out.mono ?_
  rintro e w1 ⟨hb1, rfl⟩
  have HW1 := hide (rBelow hb1 (below_alloc w1 (.cells #[.float .f64 0, .bool false, .slice none 0 0, .int .i64 0, .int .i64 0, .int .i64 0] 27)))
  clear hb1
  go_wp2_with fail
  refine (HZ.out _).mono ?_
  rintro e w2 ⟨rfl, hb2⟩
  have HW2 := hide (rBelow HW1.out hb2)
  clear hb2
  go_wp2_with fail
  refine (HA.out _).mono ?_
  rintro e w3 ⟨rfl, hb3⟩
  have HW3 := hide (rBelow HW2.out hb3)
  clear hb3
  go_wp2_with fail
  go_ret
  exact ⟨by simp, HW3.out⟩

set_option maxHeartbeats 4000000 in
set_option maxRecDepth 100000 in
theorem rowMakes_walk (key : Nat) (hkey : key < 18446744073709551616) (a : Option Addr) (len cap : Nat) (xs : List Nat) (x : Nat) (w : World) (h : Fs w a len cap xs) (h4 : len ≤ 4) :
    Calls Try.prog 5 #[.float .f64 key, .slice a len cap, .float .f64 x] w fun e w' => e = .returned (.bool true) ∧ Below w.heap.size w w' := by
  have hsf : ∀ (w : World) (a : Addr) (m : Mode) (x : Nat), (store a (.float .f64 x) m).run Try.prog w = stored Try.prog w a (.float .f64 x) m := fun w a m x => run_store Try.prog w a _ m rfl
  have HO := hide (of_any key hkey a len cap xs w h h4)
  have HZ := hide zero_same
  have HA := hide awake_any
  have HF := hide h
  have HL := hide h.len
  have HRF := hide (ofR_fits key hkey xs h.fit)
  have HRM := hide (ofR_may key xs (by rw [h.len]; exact h4))
  have HK := hide hkey
  have HRL : Hid ((ofR key xs).xs.length = len) := by show (xs.map Fl.val).length = len; rw [List.length_map, h.len]
  have i1 : ¬ (4 : Int) < (len : Int) := by omega
  clear h hkey
  unfold zeroV at HZ
  go_enter Try.func5, Try.ntmps5
  go_wp2_with fail
  refine HO.out.mono ?_
  rintro e w1 ⟨hb1, ra, rc, rfl, hf1⟩
  obtain ⟨X, hX⟩ : ∃ X, X = ofR key xs := ⟨_, rfl⟩
  rw [← hX] at hf1 HRF HRM HRL ⊢
  have HX := hide hX
  obtain ⟨w2, hw2⟩ : ∃ w2, w2 = w1.alloc (.cells #[.float .f64 X.key, .bool X.dead, .slice ra len rc, .int .i64 X.wr, .int .i64 X.cell, .int .i64 X.no] 27) := ⟨_, rfl⟩
  have hb2 : Below w1.heap.size w1 w2 := by rw [hw2]; exact below_alloc _ _
  have hx2 : RwBlk w2 w1.heap.size X (.slice ra len rc) := by rw [hw2]; exact rwBlk_new w1 X _
  have HW2 := hide (rBelow hb1 hb2)
  have HF2 := hide (hf1.keep hb2 (Nat.le_refl _))
  have HX2 := hide hx2
  have HE2 := hide hw2
  unfold Rw.val
  clear hb1 hf1 hb2 hx2 hw2 hX HO
  go_wp2_with fail
  rw [← HE2.out]
  refine Pl.region_is (ops := Pl.find 4 ((Try.f5.body).getD .skip)) (by kernel_rfl) ?_
  refine makes4 w2 w2 w1.heap.size key HK.out xs a len cap ra rc (by rw [← HX.out]; exact HX2.out) (by rw [← HX.out]; exact HF2.out) (HF.out.keep HW2.out (Nat.le_refl _)) h4 (Below.refl _ _) (by rfl) (by rfl) (by rfl) (by rfl) (by rfl) (by rfl) ?_
  intro u w3 hb3
  simp only [Act.put, List.setIfInBounds_toArray, List.set_cons_zero, List.set_cons_succ]
  have HW3 := hide (rBelow HW2.out hb3)
  have HX3 := hide (HX2.out.keep hb3)
  have HF3 := hide (HF2.out.keep hb3 (Nat.le_refl _))
  have x0 := HX3.out.c0
  have x1 := HX3.out.c1
  have x2 := HX3.out.c2
  have x3 := HX3.out.c3
  have x4 := HX3.out.c4
  have x5 := HX3.out.c5
  clear hb3
  by_cases h0 : len = 0
  · have HP := hide (plus_bad X ra len rc x w3 HF3.out HRF.out (.inr h0))
    unfold zeroV Rw.val at HP
    subst h0
    go_wp2_with fail
    refine HP.out.mono ?_
    rintro e w4 ⟨hb4, rfl⟩
    have HW4 := hide (rBelow (rBelow HW3.out hb4) (below_alloc w4 (.cells #[.float .f64 0, .bool false, .slice none 0 0, .int .i64 0, .int .i64 0, .int .i64 0] 27)))
    clear hb4 x0 x1 x2 x3 x4 x5
    go_wp2_with fail
    refine (HZ.out _).mono ?_
    rintro e w5 ⟨rfl, hb5⟩
    have HW5 := hide (rBelow HW4.out hb5)
    clear hb5
    go_wp2_with fail
    refine (HA.out _).mono ?_
    rintro e w6 ⟨rfl, hb6⟩
    have HW6 := hide (rBelow HW5.out hb6)
    clear hb6
    go_wp2_with fail
    go_ret
    exact ⟨by simp, HW6.out⟩
  · have HP := hide (plus_any X ra len rc x w3 HF3.out HRF.out HRM.out (by omega))
    have i0 : ((len : Int) == 0) = false := beq_eq_false_iff_ne.2 (by omega)
    unfold Rw.val at HP
    go_wp2_with fail
    refine HP.out.mono ?_
    rintro e w4 ⟨hb4, qa, qc, rfl, hfq⟩
    obtain ⟨w5, hw5⟩ : ∃ w5, w5 = w4.alloc (.cells #[.float .f64 (plusR X x).key, .bool (plusR X x).dead, .slice qa len qc, .int .i64 (plusR X x).wr, .int .i64 (plusR X x).cell, .int .i64 (plusR X x).no] 27) := ⟨_, rfl⟩
    have hb5 : Below w4.heap.size w4 w5 := by rw [hw5]; exact below_alloc _ _
    have hq5 : RwBlk w5 w4.heap.size (plusR X x) (.slice qa len qc) := by rw [hw5]; exact rwBlk_new w4 (plusR X x) _
    have HW5 := hide (rBelow (rBelow HW3.out hb4) hb5)
    have HX5 := hide ((HX3.out.keep hb4).keep hb5)
    have HF5 := hide ((HF3.out.keep hb4 (Nat.le_refl _)).keep hb5 (Nat.le_refl _))
    have HFQ := hide (hfq.keep hb5 (Nat.le_refl _))
    have HQ5 := hide hq5
    have HE5 := hide hw5
    clear hb4 hb5 hq5 hw5 hfq x0 x1 x2 x3 x4 x5 HP
    go_wp2_with fail
    rw [← HE5.out]
    refine Pl.region_is (ops := Pl.find 9 ((Try.f5.body).getD .skip)) (by kernel_rfl) ?_
    refine makes9 w5 w5 w1.heap.size w4.heap.size x X len ra rc qa qc HX5.out HQ5.out HF5.out HFQ.out HRF.out HRM.out (by omega) (by omega) (Below.refl _ _) (by rfl) (by rfl) (by rfl) (by rfl) (by rfl) (by rfl) ?_
    intro u' w6 hb6
    simp only [Act.put, List.setIfInBounds_toArray, List.set_cons_zero, List.set_cons_succ]
    have HW6 := hide (rBelow HW5.out hb6)
    clear hb6
    go_wp2_with fail
    go_ret
    exact ⟨rfl, HW6.out⟩

end Go.Proofs.Ytgckcalkdojeeaa
