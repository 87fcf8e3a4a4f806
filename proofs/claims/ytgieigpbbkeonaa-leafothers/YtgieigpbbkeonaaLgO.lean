/-
  Layer 8: LeafOthers: two boxes with leaves; its drawn statements; what a turn leaves elsewhere.
-/
import Derived.Test.YtgieigpbbkeonaaLgM
namespace Go.Proofs.Ytgieigpbbkeonaa
open Go.RowKit

theorem entSet : ∀ args w, (callFunc 22 args).run Try.prog w = .ok (.enter 22 args) w := Pl.enters Try.func22 (by kernel_rfl) (by kernel_rfl)
theorem entIns : ∀ args w, (callFunc 24 args).run Try.prog w = .ok (.enter 24 args) w := Pl.enters Try.func24 (by kernel_rfl) (by kernel_rfl)
/-- A leaf that was told, in a box that was there. -/
structure Xb (w w' : World) (g : Nat) (u v : Sl) (t : List Int) (l : List Sb) : Prop where
  k : LfBlk w' g u.val v.val
  gi : Gi (fun k => w.heap.size ≤ k) w' u t
  gb : Gb (fun k => w.heap.size ≤ k) w' v l
  f : Frm (fun k => k = g) w w'
theorem xb_lay {w W w2 : World} {g : Nat} {x y : Value} {t' : List Int} {s' : List (List Nat)} {mk : Value → Value} {en : Ending} (k : LfBlk w g x y) (hb : Below w.heap.size w W) (td : Told W t' s' mk en w2) :
    ∃ (a2 : Option Addr) (n2 c2 : Nat) (a5 : Option Addr) (n5 c5 : Nat) (l' : List Sb) (W3 : World), en = .returned (mk (lfV ⟨a2, n2, c2⟩ ⟨a5, n5, c5⟩)) ∧ (Instr.storeAt 25 (.pointer (some ⟨g, 0, none⟩)) (lfV ⟨a2, n2, c2⟩ ⟨a5, n5, c5⟩)).run Try.prog w2 = .ok () W3 ∧ Xb w W3 g ⟨a2, n2, c2⟩ ⟨a5, n5, c5⟩ t' l' ∧ bss l' = s' := by
  obtain ⟨hb2, ⟨a2, n2, c2⟩, ⟨a5, n5, c5⟩, l', he, gi, gb, hbs⟩ := td
  have hg := k.lt
  have hsz := hb.size
  obtain ⟨W3, hst, k3, f⟩ := st_lf w2 _ _ _ ((k.below hb).below hb2) ⟨a2, n2, c2⟩ ⟨a5, n5, c5⟩
  have hk : Kept (fun k => w.heap.size ≤ k) w2 W3 := Kept.frm f (fun k hk e => by omega)
  exact ⟨a2, n2, c2, a5, n5, c5, l', W3, he, hst, ⟨k3, (gi.wide (fun k hk => Nat.le_trans hsz hk)).keep hk, (gb.wide (fun k hk => Nat.le_trans hsz hk)).keep hk, (Frm.ofBelow (rBelow hb hb2)).trans f (fun _ _ h => h)⟩, hbs⟩
/-- Two boxes with leaves. -/
structure B2 (w W : World) (g h : Nat) (u v : Sl) (t : List Int) (l : List Sb) (u2 v2 : Sl) (l2 : List Sb) : Prop where
  k7 : LfBlk W g u.val v.val
  k10 : LfBlk W h u2.val v2.val
  gi : Gi (fun k => k ≠ g ∧ k ≠ h) W u t
  gb : Gb (fun k => k ≠ g ∧ k ≠ h) W v l
  gi2 : Gi (fun k => k ≠ g ∧ k ≠ h) W u2 t
  gb2 : Gb (fun k => k ≠ g ∧ k ≠ h) W v2 l2
  ne : g ≠ h
  e : Below w.heap.size w W
  le7 : w.heap.size ≤ g
  le10 : w.heap.size ≤ h
theorem B2.below {w W W' : World} {g h : Nat} {u v : Sl} {t : List Int} {l : List Sb} {u2 v2 : Sl} {l2 : List Sb} (b : B2 w W g h u v t l u2 v2 l2) (hb : Below W.heap.size W W') : B2 w W' g h u v t l u2 v2 l2 :=
  ⟨b.k7.below hb, b.k10.below hb, b.gi.below hb (Nat.le_refl _), b.gb.below hb (Nat.le_refl _), b.gi2.below hb (Nat.le_refl _), b.gb2.below hb (Nat.le_refl _), b.ne, rBelow b.e hb, b.le7, b.le10⟩
theorem Gi.both {D E : Nat → Prop} {w : World} {v : Sl} {t : List Int} (h : Gi D w v t) (h2 : Gi E w v t) : Gi (fun k => D k ∧ E k) w v t := ⟨h.len, h.nil, h.le, h.big, fun ad ha hl => ⟨h.home ad ha hl, h2.home ad ha hl⟩, h.cell⟩
theorem Gb.both {D E : Nat → Prop} {w : World} {v : Sl} {l : List Sb} (h : Gb D w v l) (h2 : Gb E w v l) : Gb (fun k => D k ∧ E k) w v l := ⟨h.len, h.nil, h.le, h.big, fun ad ha hl => ⟨h.home ad ha hl, h2.home ad ha hl⟩, h.cell, fun x hx => ⟨⟨(h.bs x hx).1.came, fun ad ha hl => ⟨(h.bs x hx).1.home ad ha hl, (h2.bs x hx).1.home ad ha hl⟩⟩, (h.bs x hx).2⟩⟩
/-- x := now. -/
theorem B2.start {w W : World} {g : Nat} {u v : Sl} {t : List Int} {l : List Sb} (b : Bx w W g u v t l) :
    ∃ W3, (Instr.storeAt 25 (.pointer (some ⟨W.heap.size, 0, none⟩)) (lfV u v)).run Try.prog (W.alloc (.cells #[.slice none 0 0, .slice none 0 0] 25)) = .ok () W3 ∧ B2 w W3 g W.heap.size u v t l u v l ∧ Below W.heap.size W W3 := by
  obtain ⟨W3, hst, k3, hB⟩ := box_new W u v
  have gi := ((b.gi.both b.gi.tight).wide (E := fun k => k ≠ g ∧ k ≠ W.heap.size) (fun k hk => ⟨hk.1, Nat.ne_of_lt hk.2⟩)).below hB (Nat.le_refl _)
  have gb := ((b.gb.both b.gb.tight).wide (E := fun k => k ≠ g ∧ k ≠ W.heap.size) (fun k hk => ⟨hk.1, Nat.ne_of_lt hk.2⟩)).below hB (Nat.le_refl _)
  exact ⟨W3, hst, ⟨b.k.below hB, k3, gi, gb, gi, gb, Nat.ne_of_lt b.k.lt, rBelow b.e hB, b.le, b.e.size⟩, hB⟩
/-- x is what was told. -/
theorem B2.turn {w W W' : World} {g h : Nat} {u v : Sl} {t : List Int} {l : List Sb} {u2 v2 : Sl} {l2 : List Sb} (b : B2 w W g h u v t l u2 v2 l2) {u3 v3 : Sl} {l3 : List Sb} (x : Xb W W' h u3 v3 t l3) : B2 w W' g h u v t l u3 v3 l3 := by
  have hk : Kept (fun k => k ≠ g ∧ k ≠ h) W W' := Kept.frm x.f (fun k hk e => hk.2 e)
  have h7 := b.k7.lt
  have h10 := b.k10.lt
  have hl := b.le10
  exact ⟨b.k7.off x.f b.ne, x.k, b.gi.keep hk, b.gb.keep hk, x.gi.wide (fun k hk => ⟨by omega, by omega⟩), x.gb.wide (fun k hk => ⟨by omega, by omega⟩), b.ne, b.e.trans (x.f.below b.e.size (fun k hk => by omega)), b.le7, b.le10⟩
/-- now = x. -/
theorem B2.fin {w W : World} {g h : Nat} {u v : Sl} {t : List Int} {l : List Sb} {u2 v2 : Sl} {l2 : List Sb} (b : B2 w W g h u v t l u2 v2 l2) :
    ∃ W', (Instr.storeAt 25 (.pointer (some ⟨g, 0, none⟩)) (lfV u2 v2)).run Try.prog W = .ok () W' ∧ Bx w W' g u2 v2 t l2 := by
  obtain ⟨W', hst, k', f⟩ := st_lf W _ _ _ b.k7 u2 v2
  have hk : Kept (fun k => k ≠ g ∧ k ≠ h) W W' := Kept.frm f (fun k hk e => hk.1 e)
  have hl := b.le7
  exact ⟨W', hst, k', (b.gi2.keep hk).wide (fun k hk => hk.1), (b.gb2.keep hk).wide (fun k hk => hk.1), b.e.trans (f.below b.e.size (fun k hk => by omega)), b.le7⟩
/-- What a turn leaves: the slots, which one, the code. -/
structure Tn (t : List Int) (s : List (List Nat)) (s' : List (List Nat)) (z c : Int) : Prop where
  may : MayL ⟨t, s'⟩
  err : c ≠ 0 → s' = s
  rest : ∀ k, k < s.length → ((k : Nat) : Int) ≠ z → sl s k ≠ [] → k < s'.length ∧ sl s' k = sl s k
theorem tn_set {t : List Int} {s : List (List Nat)} (h : MayL ⟨t, s⟩) (i : Int) (r : List Nat) : Tn t s (setA s i r).s i (setA s i r).e := by
  refine ⟨setA_may h i r, fun hc => ?_, fun k hk hne hs => ?_⟩
  · unfold setA at hc ⊢
    split
    · rfl
    · rename_i h1
      split
      · rfl
      · rename_i h2
        split
        · rfl
        · rename_i h3
          rw [if_neg h1, if_neg h2, if_neg h3] at hc
          exact absurd rfl hc
  · unfold setA
    split
    · exact ⟨hk, rfl⟩
    · rename_i h0
      split
      · exact ⟨hk, rfl⟩
      · split
        · exact ⟨hk, rfl⟩
        · obtain ⟨j, rfl, _⟩ := standsB_is (by simpa using h0)
          exact set_other hs (fun e => hne (by rw [e]; simp))
theorem tn_drop {t : List Int} {s : List (List Nat)} (h : MayL ⟨t, s⟩) (i : Int) : Tn t s (dropA s i).s i (dropA s i).e := by
  refine ⟨dropA_may h i, fun hc => ?_, fun k hk hne hs => ?_⟩
  · unfold dropA at hc ⊢
    split
    · rfl
    · rename_i h1
      rw [if_neg h1] at hc
      exact absurd rfl hc
  · unfold dropA
    split
    · exact ⟨hk, rfl⟩
    · rename_i h0
      obtain ⟨j, rfl, _⟩ := standsB_is (by simpa using h0)
      exact drop_other hs (fun e => hne (by rw [e]; simp))
theorem tn_ins {t : List Int} {s : List (List Nat)} (h : MayL ⟨t, s⟩) (r : List Nat) : Tn t s (insA s r).s (insA s r).at_ (insA s r).e := by
  refine ⟨insA_may h r, fun hc => ?_, fun k hk hne hs => ?_⟩
  · unfold insA at hc ⊢
    split
    · rfl
    · rename_i h1
      split
      · rfl
      · rename_i h2
        rw [if_neg h1, if_neg h2] at hc
        exact absurd rfl hc
  · unfold insA at hne ⊢
    split
    · exact ⟨hk, rfl⟩
    · rename_i h1
      split
      · exact ⟨hk, rfl⟩
      · rename_i h2
        rw [if_neg h1, if_neg h2] at hne
        exact insS_other hs (fun e => hne (by rw [e]))

set_option maxHeartbeats 2000000 in
set_option maxRecDepth 100000 in
theorem others13 (w : World) (g7 g10 b o len cap i : Nat) (u v x : Sl) (q1 q2 : Value) (z c : Int) (t : List Int) (s' : List (List Nat)) (hi : i < len) (hk7 : LfBlk w g7 u.val v.val) (hk10 : LfBlk w g10 q1 q2) (hne : g7 ≠ g10) (hrow : ∀ W, Frm (fun k => k = g10) w W → W.cell? ⟨b, o + i, none⟩ = some x.val) (hO : ∀ W, Below w.heap.size w W → Calls Try.prog 22 #[lfV u v, .int .i64 z, x.val] W fun e w' => Told W t s' (mk2 c) e w')
    {Q : Exit → Act → World → Prop} {A : Act} (hsz : A.tmps.size = 139) (hdf : A.defers = []) (s1 : A.tmps.getD 1 undef = .slice (some ⟨b, o, none⟩) len cap) (s7 : A.tmps.getD 7 undef = .pointer (some ⟨g7, 0, none⟩)) (s8 : A.tmps.getD 8 undef = .int .i64 ((i : Nat) : Int)) (s9 : A.tmps.getD 9 undef = .int .i64 z) (s10 : A.tmps.getD 10 undef = .pointer (some ⟨g10, 0, none⟩))
    (hend : ∀ (u : Nat → Value) w' (a2 : Option Addr) (n2 d2 : Nat) (a5 : Option Addr) (n5 d5 : Nat) (l2 : List Sb), Xb w w' g10 ⟨a2, n2, d2⟩ ⟨a5, n5, d5⟩ t l2 ∧ bss l2 = s' → Q .normal ((((((((((((A).put (some 71) (u 71)).put (some 72) (u 72)).put (some 73) (u 73)).put (some 74) (u 74)).put (some 75) (u 75)).put (some 76) (u 76)).put (some 77) (u 77)).put (some 70) (u 70)).put (some 78) (u 78)).put (some 79) (u 79)).put (some 11) (.int .i64 c)) w') :
    (Code.region 13 (Pl.find 13 ((Try.f6.body).getD .skip)) true).wp Try.prog Q A w := by
  have hA := Pl.At.same (v := .pointer (some ⟨g10, 0, none⟩)) (d := 10) (Pl.At.same (v := .int .i64 z) (d := 9) (Pl.At.same (v := .int .i64 ((i : Nat) : Int)) (d := 8) (Pl.At.same (v := .pointer (some ⟨g7, 0, none⟩)) (d := 7) (Pl.At.same (v := .slice (some ⟨b, o, none⟩) len cap) (d := 1) (Pl.At.here hsz hdf) s1) s7) s8) s9) s10
  refine Pl.H.start (S := (fun w' => Frm (fun k => k = g10) w w')) (by kernel_rfl) hA (Frm.ofBelow (below_drew w)) ?_
  rw [show (Pl.find 13 ((Try.f6.body).getD .skip)).size = 12 by kernel_rfl]
  refine Pl.H.take 0 71 (lfV u v) (by kernel_rfl) (by kernel_rfl) (by kernel_rfl) (Pl.free 0 (by kernel_rfl)) (Pl.load 0 25 (.tmp 7) _ (by kernel_rfl) (by decide) (fun w' hS => ldLf g7 u v w' (hS.lf hk7 hne))) (Frm.ofBelow (below_drew w)) ?_
  refine Pl.H.take 1 72 (.int .i64 z) (by kernel_rfl) (by kernel_rfl) (by kernel_rfl) (Pl.free 1 (by kernel_rfl)) (Pl.move 1 (.tmp 9) (by kernel_rfl) (by decide)) (Frm.ofBelow (below_drew w)) ?_
  refine Pl.H.take 2 73 (.slice (some ⟨b, o, none⟩) len cap) (by kernel_rfl) (by kernel_rfl) (by kernel_rfl) (Pl.free 2 (by kernel_rfl)) (Pl.move 2 (.tmp 1) (by kernel_rfl) (by decide)) (Frm.ofBelow (below_drew w)) ?_
  refine Pl.H.take 3 74 (.int .i64 ((i : Nat) : Int)) (by kernel_rfl) (by kernel_rfl) (by kernel_rfl) (Pl.free 3 (by kernel_rfl)) (Pl.move 3 (.tmp 8) (by kernel_rfl) (by decide)) (Frm.ofBelow (below_drew w)) ?_
  refine Pl.H.take 4 75 (.pointer (some ⟨b, o + i, none⟩)) (by kernel_rfl) (by kernel_rfl) (by kernel_rfl) (Pl.free 4 (by kernel_rfl)) (Pl.index 4 23 (.tmp 73) (.tmp 74) _ (by kernel_rfl) (by decide) (by decide) (ixB1 b o len cap i hi)) (Frm.ofBelow (below_drew w)) ?_
  refine Pl.H.take 5 76 (Sl.val x) (by kernel_rfl) (by kernel_rfl) (by kernel_rfl) (Pl.free 5 (by kernel_rfl)) (Pl.load 5 28 (.tmp 75) _ (by kernel_rfl) (by decide) (fun w' hS => ldS1 b (o + i) x w' (hrow w' hS))) (Frm.ofBelow (below_drew w)) ?_
  refine Pl.H.call 6 77 22 [(.tmp 71), (.tmp 72), (.tmp 76)] #[25, 3, 28] (by kernel_rfl) (by kernel_rfl) (by kernel_rfl) (Pl.free 6 (by kernel_rfl)) (by kernel_rfl) (by decide) entSet (Calls.mono (hO w.drew (below_drew w)) ?_)
  rintro e w1 td
  have hb1 := rBelow (below_drew w) td.1
  obtain ⟨a2, n2, d2, a5, n5, d5, l2, W3, rfl, hst3, xb3, hbs3⟩ := xb_lay hk10 (below_drew w) td
  refine ⟨.tuple #[lfV ⟨a2, n2, d2⟩ ⟨a5, n5, d5⟩, .int .i64 c], rfl, (Frm.ofBelow hb1), ?_⟩
  refine Pl.H.take 7 70 (.tuple #[lfV ⟨a2, n2, d2⟩ ⟨a5, n5, d5⟩, .int .i64 c]) (by kernel_rfl) (by kernel_rfl) (by kernel_rfl) (Pl.free 7 (by kernel_rfl)) (Pl.move 7 (.tmp 77) (by kernel_rfl) (by decide)) (Frm.ofBelow hb1) ?_
  refine Pl.H.take 8 78 (lfV ⟨a2, n2, d2⟩ ⟨a5, n5, d5⟩) (by kernel_rfl) (by kernel_rfl) (by kernel_rfl) (Pl.free 8 (by kernel_rfl)) (Pl.extr 8 (.tmp 70) 0 _ (by kernel_rfl) (by decide) (fun _ => rfl)) (Frm.ofBelow hb1) ?_
  refine Pl.H.take 9 79 (.int .i64 c) (by kernel_rfl) (by kernel_rfl) (by kernel_rfl) (Pl.free 9 (by kernel_rfl)) (Pl.extr 9 (.tmp 70) 1 _ (by kernel_rfl) (by decide) (fun _ => rfl)) (Frm.ofBelow hb1) ?_
  refine Pl.H.store 10 W3 (by kernel_rfl) (by kernel_rfl) (by kernel_rfl) (Pl.free 10 (by kernel_rfl)) (Pl.storeV 10 25 (.tmp 10) (.tmp 78) _ (by kernel_rfl) (by decide) (by decide) hst3) xb3.f ?_
  refine Pl.H.take 11 11 (.int .i64 c) (by kernel_rfl) (by kernel_rfl) (by kernel_rfl) (Pl.free 11 (by kernel_rfl)) (Pl.assign 11 (.tmp 79) (by kernel_rfl) (by decide)) xb3.f ?_
  refine Pl.H.done (by kernel_rfl) (fun A' hA' => ?_)
  rw [Pl.At.ext hA' (((((((((((hA.put 71 _).put 72 _).put 73 _).put 74 _).put 75 _).put 76 _).put 77 _).put 70 _).put 78 _).put 79 _).put 11 _)]
  exact hend (fun d => if d = 71 then lfV u v else if d = 72 then .int .i64 z else if d = 73 then .slice (some ⟨b, o, none⟩) len cap else if d = 74 then .int .i64 ((i : Nat) : Int) else if d = 75 then .pointer (some ⟨b, o + i, none⟩) else if d = 76 then Sl.val x else if d = 77 then .tuple #[lfV ⟨a2, n2, d2⟩ ⟨a5, n5, d5⟩, .int .i64 c] else if d = 70 then .tuple #[lfV ⟨a2, n2, d2⟩ ⟨a5, n5, d5⟩, .int .i64 c] else if d = 78 then lfV ⟨a2, n2, d2⟩ ⟨a5, n5, d5⟩ else if d = 79 then .int .i64 c else undef) _ a2 n2 d2 a5 n5 d5 l2 ⟨xb3, hbs3⟩

set_option maxHeartbeats 2000000 in
set_option maxRecDepth 100000 in
theorem others11 (w : World) (g7 g10 b o len cap i : Nat) (u v x : Sl) (q1 q2 : Value) (z c : Int) (t : List Int) (s' : List (List Nat)) (hi : i < len) (hk7 : LfBlk w g7 u.val v.val) (hk10 : LfBlk w g10 q1 q2) (hne : g7 ≠ g10) (hrow : ∀ W, Frm (fun k => k = g10) w W → W.cell? ⟨b, o + i, none⟩ = some x.val) (hO : ∀ W, Below w.heap.size w W → Calls Try.prog 24 #[lfV u v, x.val] W fun e w' => Told W t s' (mk3 z c) e w')
    {Q : Exit → Act → World → Prop} {A : Act} (hsz : A.tmps.size = 139) (hdf : A.defers = []) (s1 : A.tmps.getD 1 undef = .slice (some ⟨b, o, none⟩) len cap) (s7 : A.tmps.getD 7 undef = .pointer (some ⟨g7, 0, none⟩)) (s8 : A.tmps.getD 8 undef = .int .i64 ((i : Nat) : Int)) (s10 : A.tmps.getD 10 undef = .pointer (some ⟨g10, 0, none⟩))
    (hend : ∀ (u : Nat → Value) w' (a2 : Option Addr) (n2 d2 : Nat) (a5 : Option Addr) (n5 d5 : Nat) (l2 : List Sb), Xb w w' g10 ⟨a2, n2, d2⟩ ⟨a5, n5, d5⟩ t l2 ∧ bss l2 = s' → Q .normal (((((((((((((A).put (some 59) (u 59)).put (some 60) (u 60)).put (some 61) (u 61)).put (some 62) (u 62)).put (some 63) (u 63)).put (some 64) (u 64)).put (some 58) (u 58)).put (some 65) (u 65)).put (some 66) (u 66)).put (some 67) (u 67)).put (some 9) (.int .i64 z)).put (some 11) (.int .i64 c)) w') :
    (Code.region 11 (Pl.find 11 ((Try.f6.body).getD .skip)) true).wp Try.prog Q A w := by
  have hA := Pl.At.same (v := .pointer (some ⟨g10, 0, none⟩)) (d := 10) (Pl.At.same (v := .int .i64 ((i : Nat) : Int)) (d := 8) (Pl.At.same (v := .pointer (some ⟨g7, 0, none⟩)) (d := 7) (Pl.At.same (v := .slice (some ⟨b, o, none⟩) len cap) (d := 1) (Pl.At.here hsz hdf) s1) s7) s8) s10
  refine Pl.H.start (S := (fun w' => Frm (fun k => k = g10) w w')) (by kernel_rfl) hA (Frm.ofBelow (below_drew w)) ?_
  rw [show (Pl.find 11 ((Try.f6.body).getD .skip)).size = 13 by kernel_rfl]
  refine Pl.H.take 0 59 (lfV u v) (by kernel_rfl) (by kernel_rfl) (by kernel_rfl) (Pl.free 0 (by kernel_rfl)) (Pl.load 0 25 (.tmp 7) _ (by kernel_rfl) (by decide) (fun w' hS => ldLf g7 u v w' (hS.lf hk7 hne))) (Frm.ofBelow (below_drew w)) ?_
  refine Pl.H.take 1 60 (.slice (some ⟨b, o, none⟩) len cap) (by kernel_rfl) (by kernel_rfl) (by kernel_rfl) (Pl.free 1 (by kernel_rfl)) (Pl.move 1 (.tmp 1) (by kernel_rfl) (by decide)) (Frm.ofBelow (below_drew w)) ?_
  refine Pl.H.take 2 61 (.int .i64 ((i : Nat) : Int)) (by kernel_rfl) (by kernel_rfl) (by kernel_rfl) (Pl.free 2 (by kernel_rfl)) (Pl.move 2 (.tmp 8) (by kernel_rfl) (by decide)) (Frm.ofBelow (below_drew w)) ?_
  refine Pl.H.take 3 62 (.pointer (some ⟨b, o + i, none⟩)) (by kernel_rfl) (by kernel_rfl) (by kernel_rfl) (Pl.free 3 (by kernel_rfl)) (Pl.index 3 23 (.tmp 60) (.tmp 61) _ (by kernel_rfl) (by decide) (by decide) (ixB1 b o len cap i hi)) (Frm.ofBelow (below_drew w)) ?_
  refine Pl.H.take 4 63 (Sl.val x) (by kernel_rfl) (by kernel_rfl) (by kernel_rfl) (Pl.free 4 (by kernel_rfl)) (Pl.load 4 28 (.tmp 62) _ (by kernel_rfl) (by decide) (fun w' hS => ldS1 b (o + i) x w' (hrow w' hS))) (Frm.ofBelow (below_drew w)) ?_
  refine Pl.H.call 5 64 24 [(.tmp 59), (.tmp 63)] #[25, 28] (by kernel_rfl) (by kernel_rfl) (by kernel_rfl) (Pl.free 5 (by kernel_rfl)) (by kernel_rfl) (by decide) entIns (Calls.mono (hO w.drew (below_drew w)) ?_)
  rintro e w1 td
  have hb1 := rBelow (below_drew w) td.1
  obtain ⟨a2, n2, d2, a5, n5, d5, l2, W3, rfl, hst3, xb3, hbs3⟩ := xb_lay hk10 (below_drew w) td
  refine ⟨.tuple #[lfV ⟨a2, n2, d2⟩ ⟨a5, n5, d5⟩, .int .i64 z, .int .i64 c], rfl, (Frm.ofBelow hb1), ?_⟩
  refine Pl.H.take 6 58 (.tuple #[lfV ⟨a2, n2, d2⟩ ⟨a5, n5, d5⟩, .int .i64 z, .int .i64 c]) (by kernel_rfl) (by kernel_rfl) (by kernel_rfl) (Pl.free 6 (by kernel_rfl)) (Pl.move 6 (.tmp 64) (by kernel_rfl) (by decide)) (Frm.ofBelow hb1) ?_
  refine Pl.H.take 7 65 (lfV ⟨a2, n2, d2⟩ ⟨a5, n5, d5⟩) (by kernel_rfl) (by kernel_rfl) (by kernel_rfl) (Pl.free 7 (by kernel_rfl)) (Pl.extr 7 (.tmp 58) 0 _ (by kernel_rfl) (by decide) (fun _ => rfl)) (Frm.ofBelow hb1) ?_
  refine Pl.H.take 8 66 (.int .i64 z) (by kernel_rfl) (by kernel_rfl) (by kernel_rfl) (Pl.free 8 (by kernel_rfl)) (Pl.extr 8 (.tmp 58) 1 _ (by kernel_rfl) (by decide) (fun _ => rfl)) (Frm.ofBelow hb1) ?_
  refine Pl.H.take 9 67 (.int .i64 c) (by kernel_rfl) (by kernel_rfl) (by kernel_rfl) (Pl.free 9 (by kernel_rfl)) (Pl.extr 9 (.tmp 58) 2 _ (by kernel_rfl) (by decide) (fun _ => rfl)) (Frm.ofBelow hb1) ?_
  refine Pl.H.store 10 W3 (by kernel_rfl) (by kernel_rfl) (by kernel_rfl) (Pl.free 10 (by kernel_rfl)) (Pl.storeV 10 25 (.tmp 10) (.tmp 65) _ (by kernel_rfl) (by decide) (by decide) hst3) xb3.f ?_
  refine Pl.H.take 11 9 (.int .i64 z) (by kernel_rfl) (by kernel_rfl) (by kernel_rfl) (Pl.free 11 (by kernel_rfl)) (Pl.assign 11 (.tmp 66) (by kernel_rfl) (by decide)) xb3.f ?_
  refine Pl.H.take 12 11 (.int .i64 c) (by kernel_rfl) (by kernel_rfl) (by kernel_rfl) (Pl.free 12 (by kernel_rfl)) (Pl.assign 12 (.tmp 67) (by kernel_rfl) (by decide)) xb3.f ?_
  refine Pl.H.done (by kernel_rfl) (fun A' hA' => ?_)
  rw [Pl.At.ext hA' ((((((((((((hA.put 59 _).put 60 _).put 61 _).put 62 _).put 63 _).put 64 _).put 58 _).put 65 _).put 66 _).put 67 _).put 9 _).put 11 _)]
  exact hend (fun d => if d = 59 then lfV u v else if d = 60 then .slice (some ⟨b, o, none⟩) len cap else if d = 61 then .int .i64 ((i : Nat) : Int) else if d = 62 then .pointer (some ⟨b, o + i, none⟩) else if d = 63 then Sl.val x else if d = 64 then .tuple #[lfV ⟨a2, n2, d2⟩ ⟨a5, n5, d5⟩, .int .i64 z, .int .i64 c] else if d = 58 then .tuple #[lfV ⟨a2, n2, d2⟩ ⟨a5, n5, d5⟩, .int .i64 z, .int .i64 c] else if d = 65 then lfV ⟨a2, n2, d2⟩ ⟨a5, n5, d5⟩ else if d = 66 then .int .i64 z else if d = 67 then .int .i64 c else undef) _ a2 n2 d2 a5 n5 d5 l2 ⟨xb3, hbs3⟩

set_option maxHeartbeats 2000000 in
set_option maxRecDepth 100000 in
theorem others21A (w : World) (g7 g10 k : Nat) (z : Int) (h0 : ¬ (((k : Nat) : Int) ≠ z))
    {Q : Exit → Act → World → Prop} {A : Act} (hsz : A.tmps.size = 139) (hdf : A.defers = []) (s7 : A.tmps.getD 7 undef = .pointer (some ⟨g7, 0, none⟩)) (s9 : A.tmps.getD 9 undef = .int .i64 z) (s10 : A.tmps.getD 10 undef = .pointer (some ⟨g10, 0, none⟩)) (s12 : A.tmps.getD 12 undef = .int .i64 ((k : Nat) : Int))
    (hend : ∀ (u : Nat → Value) w', Below w.heap.size w w' → Q .normal (((((((((((((((((((((((((((((((((((A).put (some 103) (u 103)).put (some 104) (u 104)).put (some 105) (u 105)).put (some 106) (u 106)).put (some 107) (u 107)).put (some 108) (u 108)).put (some 109) (u 109)).put (some 110) (u 110)).put (some 111) (u 111)).put (some 112) (u 112)).put (some 113) (u 113)).put (some 114) (u 114)).put (some 115) (u 115)).put (some 116) (u 116)).put (some 117) (u 117)).put (some 118) (u 118)).put (some 119) (u 119)).put (some 120) (u 120)).put (some 121) (u 121)).put (some 122) (u 122)).put (some 123) (u 123)).put (some 124) (u 124)).put (some 125) (u 125)).put (some 126) (u 126)).put (some 127) (u 127)).put (some 128) (u 128)).put (some 129) (u 129)).put (some 130) (u 130)).put (some 131) (u 131)).put (some 132) (u 132)).put (some 133) (u 133)).put (some 134) (u 134)).put (some 135) (u 135)).put (some 136) (.bool false)) w') :
    (Code.region 21 (Pl.find 21 ((Try.f6.body).getD .skip)) true).wp Try.prog Q A w := by
  have hA := Pl.At.same (v := .int .i64 ((k : Nat) : Int)) (d := 12) (Pl.At.same (v := .pointer (some ⟨g10, 0, none⟩)) (d := 10) (Pl.At.same (v := .int .i64 z) (d := 9) (Pl.At.same (v := .pointer (some ⟨g7, 0, none⟩)) (d := 7) (Pl.At.here hsz hdf) s7) s9) s10) s12
  refine Pl.H.start (S := (fun w' => Below w.heap.size w w')) (by kernel_rfl) hA (below_drew w) ?_
  rw [show (Pl.find 21 ((Try.f6.body).getD .skip)).size = 34 by kernel_rfl]
  refine Pl.H.take 0 103 (.int .i64 ((k : Nat) : Int)) (by kernel_rfl) (by kernel_rfl) (by kernel_rfl) (Pl.free 0 (by kernel_rfl)) (Pl.move 0 (.tmp 12) (by kernel_rfl) (by decide)) (below_drew w) ?_
  refine Pl.H.take 1 104 (.int .i64 z) (by kernel_rfl) (by kernel_rfl) (by kernel_rfl) (Pl.free 1 (by kernel_rfl)) (Pl.move 1 (.tmp 9) (by kernel_rfl) (by decide)) (below_drew w) ?_
  refine Pl.H.take 2 105 (.bool false) (by kernel_rfl) (by kernel_rfl) (by kernel_rfl) (Pl.free 2 (by kernel_rfl)) (Pl.binV 2 .neq 3 3 (.tmp 103) (.tmp 104) (.int .i64 ((k : Nat) : Int)) (.int .i64 z) _ (by kernel_rfl) (by decide) (by decide) rfl rfl (neqF ((k : Nat) : Int) z _ _ h0)) (below_drew w) ?_
  refine Pl.H.take 3 106 (.bool false) (by kernel_rfl) (by kernel_rfl) (by kernel_rfl) (Pl.free 3 (by kernel_rfl)) (Pl.move 3 (.tmp 105) (by kernel_rfl) (by decide)) (below_drew w) ?_
  refine Pl.H.skip 4 107 (by kernel_rfl) (by kernel_rfl) (by kernel_rfl) (Pl.unwanted 4 3 106 true (by kernel_rfl) (by kernel_rfl) (by decide) rfl) (below_drew w) ?_
  refine Pl.H.skip 5 108 (by kernel_rfl) (by kernel_rfl) (by kernel_rfl) (Pl.unwanted 5 3 106 true (by kernel_rfl) (by kernel_rfl) (by decide) rfl) (below_drew w) ?_
  refine Pl.H.skip 6 109 (by kernel_rfl) (by kernel_rfl) (by kernel_rfl) (Pl.unwanted 6 3 106 true (by kernel_rfl) (by kernel_rfl) (by decide) rfl) (below_drew w) ?_
  refine Pl.H.skip 7 110 (by kernel_rfl) (by kernel_rfl) (by kernel_rfl) (Pl.unwanted 7 3 106 true (by kernel_rfl) (by kernel_rfl) (by decide) rfl) (below_drew w) ?_
  refine Pl.H.skip 8 111 (by kernel_rfl) (by kernel_rfl) (by kernel_rfl) (Pl.unwanted 8 3 106 true (by kernel_rfl) (by kernel_rfl) (by decide) rfl) (below_drew w) ?_
  refine Pl.H.skip 9 112 (by kernel_rfl) (by kernel_rfl) (by kernel_rfl) (Pl.unwanted 9 3 106 true (by kernel_rfl) (by kernel_rfl) (by decide) rfl) (below_drew w) ?_
  refine Pl.H.skip 10 113 (by kernel_rfl) (by kernel_rfl) (by kernel_rfl) (Pl.unwanted 10 3 106 true (by kernel_rfl) (by kernel_rfl) (by decide) rfl) (below_drew w) ?_
  refine Pl.H.take 11 114 (.bool false) (by kernel_rfl) (by kernel_rfl) (by kernel_rfl) (Pl.free 11 (by kernel_rfl)) (Pl.pickF 11 (.tmp 106) (.tmp 113) (.const (.bool false)) (by kernel_rfl) (by decide) (by decide) rfl) (below_drew w) ?_
  refine Pl.H.take 12 115 (.bool false) (by kernel_rfl) (by kernel_rfl) (by kernel_rfl) (Pl.free 12 (by kernel_rfl)) (Pl.move 12 (.tmp 114) (by kernel_rfl) (by decide)) (below_drew w) ?_
  refine Pl.H.skip 13 116 (by kernel_rfl) (by kernel_rfl) (by kernel_rfl) (Pl.unwanted 13 12 115 true (by kernel_rfl) (by kernel_rfl) (by decide) rfl) (below_drew w) ?_
  refine Pl.H.skip 14 117 (by kernel_rfl) (by kernel_rfl) (by kernel_rfl) (Pl.unwanted 14 12 115 true (by kernel_rfl) (by kernel_rfl) (by decide) rfl) (below_drew w) ?_
  refine Pl.H.skip 15 118 (by kernel_rfl) (by kernel_rfl) (by kernel_rfl) (Pl.unwanted 15 12 115 true (by kernel_rfl) (by kernel_rfl) (by decide) rfl) (below_drew w) ?_
  refine Pl.H.skip 16 119 (by kernel_rfl) (by kernel_rfl) (by kernel_rfl) (Pl.unwanted 16 12 115 true (by kernel_rfl) (by kernel_rfl) (by decide) rfl) (below_drew w) ?_
  refine Pl.H.skip 17 120 (by kernel_rfl) (by kernel_rfl) (by kernel_rfl) (Pl.unwanted 17 12 115 true (by kernel_rfl) (by kernel_rfl) (by decide) rfl) (below_drew w) ?_
  refine Pl.H.skip 18 121 (by kernel_rfl) (by kernel_rfl) (by kernel_rfl) (Pl.unwanted 18 12 115 true (by kernel_rfl) (by kernel_rfl) (by decide) rfl) (below_drew w) ?_
  refine Pl.H.skip 19 122 (by kernel_rfl) (by kernel_rfl) (by kernel_rfl) (Pl.unwantedU 19 18 121 false (by kernel_rfl) (by kernel_rfl) (by decide) rfl) (below_drew w) ?_
  refine Pl.H.skip 20 123 (by kernel_rfl) (by kernel_rfl) (by kernel_rfl) (Pl.unwantedU 20 18 121 false (by kernel_rfl) (by kernel_rfl) (by decide) rfl) (below_drew w) ?_
  refine Pl.H.skip 21 124 (by kernel_rfl) (by kernel_rfl) (by kernel_rfl) (Pl.unwantedU 21 18 121 false (by kernel_rfl) (by kernel_rfl) (by decide) rfl) (below_drew w) ?_
  refine Pl.H.skip 22 125 (by kernel_rfl) (by kernel_rfl) (by kernel_rfl) (Pl.unwantedU 22 18 121 false (by kernel_rfl) (by kernel_rfl) (by decide) rfl) (below_drew w) ?_
  refine Pl.H.skip 23 126 (by kernel_rfl) (by kernel_rfl) (by kernel_rfl) (Pl.unwantedU 23 18 121 false (by kernel_rfl) (by kernel_rfl) (by decide) rfl) (below_drew w) ?_
  refine Pl.H.skip 24 127 (by kernel_rfl) (by kernel_rfl) (by kernel_rfl) (Pl.unwantedU 24 18 121 false (by kernel_rfl) (by kernel_rfl) (by decide) rfl) (below_drew w) ?_
  refine Pl.H.skip 25 128 (by kernel_rfl) (by kernel_rfl) (by kernel_rfl) (Pl.unwantedU 25 18 121 false (by kernel_rfl) (by kernel_rfl) (by decide) rfl) (below_drew w) ?_
  refine Pl.H.skip 26 129 (by kernel_rfl) (by kernel_rfl) (by kernel_rfl) (Pl.unwantedU 26 18 121 false (by kernel_rfl) (by kernel_rfl) (by decide) rfl) (below_drew w) ?_
  refine Pl.H.skip 27 130 (by kernel_rfl) (by kernel_rfl) (by kernel_rfl) (Pl.unwantedU 27 18 121 false (by kernel_rfl) (by kernel_rfl) (by decide) rfl) (below_drew w) ?_
  refine Pl.H.skip 28 131 (by kernel_rfl) (by kernel_rfl) (by kernel_rfl) (Pl.unwantedU 28 18 121 false (by kernel_rfl) (by kernel_rfl) (by decide) rfl) (below_drew w) ?_
  refine Pl.H.skip 29 132 (by kernel_rfl) (by kernel_rfl) (by kernel_rfl) (Pl.unwantedU 29 18 121 false (by kernel_rfl) (by kernel_rfl) (by decide) rfl) (below_drew w) ?_
  refine Pl.H.skip 30 133 (by kernel_rfl) (by kernel_rfl) (by kernel_rfl) (Pl.unwantedU 30 18 121 false (by kernel_rfl) (by kernel_rfl) (by decide) rfl) (below_drew w) ?_
  refine Pl.H.skip 31 134 (by kernel_rfl) (by kernel_rfl) (by kernel_rfl) (Pl.unwantedU 31 18 121 false (by kernel_rfl) (by kernel_rfl) (by decide) rfl) (below_drew w) ?_
  refine Pl.H.skip 32 135 (by kernel_rfl) (by kernel_rfl) (by kernel_rfl) (Pl.unwanted 32 12 115 true (by kernel_rfl) (by kernel_rfl) (by decide) rfl) (below_drew w) ?_
  refine Pl.H.take 33 136 (.bool false) (by kernel_rfl) (by kernel_rfl) (by kernel_rfl) (Pl.free 33 (by kernel_rfl)) (Pl.pickF 33 (.tmp 115) (.tmp 135) (.const (.bool false)) (by kernel_rfl) (by decide) (by decide) rfl) (below_drew w) ?_
  refine Pl.H.done (by kernel_rfl) (fun A' hA' => ?_)
  rw [Pl.At.ext hA' ((((((((((((((((((((((((((((((((((hA.put 103 _).put 104 _).put 105 _).put 106 _).put 107 _).put 108 _).put 109 _).put 110 _).put 111 _).put 112 _).put 113 _).put 114 _).put 115 _).put 116 _).put 117 _).put 118 _).put 119 _).put 120 _).put 121 _).put 122 _).put 123 _).put 124 _).put 125 _).put 126 _).put 127 _).put 128 _).put 129 _).put 130 _).put 131 _).put 132 _).put 133 _).put 134 _).put 135 _).put 136 _)]
  exact hend (fun d => if d = 103 then .int .i64 ((k : Nat) : Int) else if d = 104 then .int .i64 z else if d = 105 then .bool false else if d = 106 then .bool false else if d = 107 then undef else if d = 108 then undef else if d = 109 then undef else if d = 110 then undef else if d = 111 then undef else if d = 112 then undef else if d = 113 then undef else if d = 114 then .bool false else if d = 115 then .bool false else if d = 116 then undef else if d = 117 then undef else if d = 118 then undef else if d = 119 then undef else if d = 120 then undef else if d = 121 then undef else if d = 122 then undef else if d = 123 then undef else if d = 124 then undef else if d = 125 then undef else if d = 126 then undef else if d = 127 then undef else if d = 128 then undef else if d = 129 then undef else if d = 130 then undef else if d = 131 then undef else if d = 132 then undef else if d = 133 then undef else if d = 134 then undef else if d = 135 then undef else undef) _ (below_drew w)

set_option maxHeartbeats 2000000 in
set_option maxRecDepth 100000 in
theorem others21B (w : World) (g7 g10 k b o len cap : Nat) (q1 : Value) (sa : Option Addr) (sc : Nat) (z : Int) (hk : k < len) (h0 : ((k : Nat) : Int) ≠ z) (hk7 : LfBlk w g7 q1 (.slice (some ⟨b, o, none⟩) len cap)) (hx : w.cell? ⟨b, o + k, none⟩ = some (.slice sa 0 sc))
    {Q : Exit → Act → World → Prop} {A : Act} (hsz : A.tmps.size = 139) (hdf : A.defers = []) (s7 : A.tmps.getD 7 undef = .pointer (some ⟨g7, 0, none⟩)) (s9 : A.tmps.getD 9 undef = .int .i64 z) (s10 : A.tmps.getD 10 undef = .pointer (some ⟨g10, 0, none⟩)) (s12 : A.tmps.getD 12 undef = .int .i64 ((k : Nat) : Int))
    (hend : ∀ (u : Nat → Value) w', Below w.heap.size w w' → Q .normal (((((((((((((((((((((((((((((((((((A).put (some 103) (u 103)).put (some 104) (u 104)).put (some 105) (u 105)).put (some 106) (u 106)).put (some 107) (u 107)).put (some 108) (u 108)).put (some 109) (u 109)).put (some 110) (u 110)).put (some 111) (u 111)).put (some 112) (u 112)).put (some 113) (u 113)).put (some 114) (u 114)).put (some 115) (u 115)).put (some 116) (u 116)).put (some 117) (u 117)).put (some 118) (u 118)).put (some 119) (u 119)).put (some 120) (u 120)).put (some 121) (u 121)).put (some 122) (u 122)).put (some 123) (u 123)).put (some 124) (u 124)).put (some 125) (u 125)).put (some 126) (u 126)).put (some 127) (u 127)).put (some 128) (u 128)).put (some 129) (u 129)).put (some 130) (u 130)).put (some 131) (u 131)).put (some 132) (u 132)).put (some 133) (u 133)).put (some 134) (u 134)).put (some 135) (u 135)).put (some 136) (.bool false)) w') :
    (Code.region 21 (Pl.find 21 ((Try.f6.body).getD .skip)) true).wp Try.prog Q A w := by
  have hA := Pl.At.same (v := .int .i64 ((k : Nat) : Int)) (d := 12) (Pl.At.same (v := .pointer (some ⟨g10, 0, none⟩)) (d := 10) (Pl.At.same (v := .int .i64 z) (d := 9) (Pl.At.same (v := .pointer (some ⟨g7, 0, none⟩)) (d := 7) (Pl.At.here hsz hdf) s7) s9) s10) s12
  refine Pl.H.start (S := (fun w' => Below w.heap.size w w')) (by kernel_rfl) hA (below_drew w) ?_
  rw [show (Pl.find 21 ((Try.f6.body).getD .skip)).size = 34 by kernel_rfl]
  refine Pl.H.take 0 103 (.int .i64 ((k : Nat) : Int)) (by kernel_rfl) (by kernel_rfl) (by kernel_rfl) (Pl.free 0 (by kernel_rfl)) (Pl.move 0 (.tmp 12) (by kernel_rfl) (by decide)) (below_drew w) ?_
  refine Pl.H.take 1 104 (.int .i64 z) (by kernel_rfl) (by kernel_rfl) (by kernel_rfl) (Pl.free 1 (by kernel_rfl)) (Pl.move 1 (.tmp 9) (by kernel_rfl) (by decide)) (below_drew w) ?_
  refine Pl.H.take 2 105 (.bool true) (by kernel_rfl) (by kernel_rfl) (by kernel_rfl) (Pl.free 2 (by kernel_rfl)) (Pl.binV 2 .neq 3 3 (.tmp 103) (.tmp 104) (.int .i64 ((k : Nat) : Int)) (.int .i64 z) _ (by kernel_rfl) (by decide) (by decide) rfl rfl (neqT ((k : Nat) : Int) z _ _ h0)) (below_drew w) ?_
  refine Pl.H.take 3 106 (.bool true) (by kernel_rfl) (by kernel_rfl) (by kernel_rfl) (Pl.free 3 (by kernel_rfl)) (Pl.move 3 (.tmp 105) (by kernel_rfl) (by decide)) (below_drew w) ?_
  refine Pl.H.take 4 107 (.pointer (some ⟨g7, 1, none⟩)) (by kernel_rfl) (by kernel_rfl) (by kernel_rfl) (Pl.guarded 4 3 106 true (by kernel_rfl) (by kernel_rfl) (by decide) rfl) (Pl.field 4 25 (.tmp 7) 1 _ (by kernel_rfl) (by decide) (fdLf1 g7)) (below_drew w) ?_
  refine Pl.H.take 5 108 (.slice (some ⟨b, o, none⟩) len cap) (by kernel_rfl) (by kernel_rfl) (by kernel_rfl) (Pl.guarded 5 3 106 true (by kernel_rfl) (by kernel_rfl) (by decide) rfl) (Pl.load 5 23 (.tmp 107) _ (by kernel_rfl) (by decide) (fun w' hS => ldLf1 g7 q1 ⟨some ⟨b, o, none⟩, len, cap⟩ w' (hk7.below hS))) (below_drew w) ?_
  refine Pl.H.take 6 109 (.int .i64 ((k : Nat) : Int)) (by kernel_rfl) (by kernel_rfl) (by kernel_rfl) (Pl.guarded 6 3 106 true (by kernel_rfl) (by kernel_rfl) (by decide) rfl) (Pl.move 6 (.tmp 12) (by kernel_rfl) (by decide)) (below_drew w) ?_
  refine Pl.H.take 7 110 (.pointer (some ⟨b, o + k, none⟩)) (by kernel_rfl) (by kernel_rfl) (by kernel_rfl) (Pl.guarded 7 3 106 true (by kernel_rfl) (by kernel_rfl) (by decide) rfl) (Pl.index 7 23 (.tmp 108) (.tmp 109) _ (by kernel_rfl) (by decide) (by decide) (ixB1 b o len cap k hk)) (below_drew w) ?_
  refine Pl.H.take 8 111 (.slice sa 0 sc) (by kernel_rfl) (by kernel_rfl) (by kernel_rfl) (Pl.guarded 8 3 106 true (by kernel_rfl) (by kernel_rfl) (by decide) rfl) (Pl.load 8 28 (.tmp 110) _ (by kernel_rfl) (by decide) (fun w' hS => ldS1 b (o + k) ⟨sa, 0, sc⟩ w' (cell_below hx hS))) (below_drew w) ?_
  refine Pl.H.take 9 112 (.int .i64 ((0 : Nat) : Int)) (by kernel_rfl) (by kernel_rfl) (by kernel_rfl) (Pl.guarded 9 3 106 true (by kernel_rfl) (by kernel_rfl) (by decide) rfl) (Pl.lenOf 9 28 (.tmp 111) _ (by kernel_rfl) (by decide) (fun _ _ => rfl)) (below_drew w) ?_
  refine Pl.H.take 10 113 (.bool false) (by kernel_rfl) (by kernel_rfl) (by kernel_rfl) (Pl.guarded 10 3 106 true (by kernel_rfl) (by kernel_rfl) (by decide) rfl) (Pl.binV 10 .gtr 3 3 (.tmp 112) (.const (.int .i64 0)) (.int .i64 ((0 : Nat) : Int)) (.int .i64 0) _ (by kernel_rfl) (by decide) (by decide) rfl rfl (gtrF ((0 : Nat) : Int) 0 _ _ (by decide))) (below_drew w) ?_
  refine Pl.H.take 11 114 (.bool false) (by kernel_rfl) (by kernel_rfl) (by kernel_rfl) (Pl.free 11 (by kernel_rfl)) (Pl.pick 11 (.tmp 106) (.tmp 113) (.const (.bool false)) (by kernel_rfl) (by decide) (by decide) rfl) (below_drew w) ?_
  refine Pl.H.take 12 115 (.bool false) (by kernel_rfl) (by kernel_rfl) (by kernel_rfl) (Pl.free 12 (by kernel_rfl)) (Pl.move 12 (.tmp 114) (by kernel_rfl) (by decide)) (below_drew w) ?_
  refine Pl.H.skip 13 116 (by kernel_rfl) (by kernel_rfl) (by kernel_rfl) (Pl.unwanted 13 12 115 true (by kernel_rfl) (by kernel_rfl) (by decide) rfl) (below_drew w) ?_
  refine Pl.H.skip 14 117 (by kernel_rfl) (by kernel_rfl) (by kernel_rfl) (Pl.unwanted 14 12 115 true (by kernel_rfl) (by kernel_rfl) (by decide) rfl) (below_drew w) ?_
  refine Pl.H.skip 15 118 (by kernel_rfl) (by kernel_rfl) (by kernel_rfl) (Pl.unwanted 15 12 115 true (by kernel_rfl) (by kernel_rfl) (by decide) rfl) (below_drew w) ?_
  refine Pl.H.skip 16 119 (by kernel_rfl) (by kernel_rfl) (by kernel_rfl) (Pl.unwanted 16 12 115 true (by kernel_rfl) (by kernel_rfl) (by decide) rfl) (below_drew w) ?_
  refine Pl.H.skip 17 120 (by kernel_rfl) (by kernel_rfl) (by kernel_rfl) (Pl.unwanted 17 12 115 true (by kernel_rfl) (by kernel_rfl) (by decide) rfl) (below_drew w) ?_
  refine Pl.H.skip 18 121 (by kernel_rfl) (by kernel_rfl) (by kernel_rfl) (Pl.unwanted 18 12 115 true (by kernel_rfl) (by kernel_rfl) (by decide) rfl) (below_drew w) ?_
  refine Pl.H.skip 19 122 (by kernel_rfl) (by kernel_rfl) (by kernel_rfl) (Pl.unwantedU 19 18 121 false (by kernel_rfl) (by kernel_rfl) (by decide) rfl) (below_drew w) ?_
  refine Pl.H.skip 20 123 (by kernel_rfl) (by kernel_rfl) (by kernel_rfl) (Pl.unwantedU 20 18 121 false (by kernel_rfl) (by kernel_rfl) (by decide) rfl) (below_drew w) ?_
  refine Pl.H.skip 21 124 (by kernel_rfl) (by kernel_rfl) (by kernel_rfl) (Pl.unwantedU 21 18 121 false (by kernel_rfl) (by kernel_rfl) (by decide) rfl) (below_drew w) ?_
  refine Pl.H.skip 22 125 (by kernel_rfl) (by kernel_rfl) (by kernel_rfl) (Pl.unwantedU 22 18 121 false (by kernel_rfl) (by kernel_rfl) (by decide) rfl) (below_drew w) ?_
  refine Pl.H.skip 23 126 (by kernel_rfl) (by kernel_rfl) (by kernel_rfl) (Pl.unwantedU 23 18 121 false (by kernel_rfl) (by kernel_rfl) (by decide) rfl) (below_drew w) ?_
  refine Pl.H.skip 24 127 (by kernel_rfl) (by kernel_rfl) (by kernel_rfl) (Pl.unwantedU 24 18 121 false (by kernel_rfl) (by kernel_rfl) (by decide) rfl) (below_drew w) ?_
  refine Pl.H.skip 25 128 (by kernel_rfl) (by kernel_rfl) (by kernel_rfl) (Pl.unwantedU 25 18 121 false (by kernel_rfl) (by kernel_rfl) (by decide) rfl) (below_drew w) ?_
  refine Pl.H.skip 26 129 (by kernel_rfl) (by kernel_rfl) (by kernel_rfl) (Pl.unwantedU 26 18 121 false (by kernel_rfl) (by kernel_rfl) (by decide) rfl) (below_drew w) ?_
  refine Pl.H.skip 27 130 (by kernel_rfl) (by kernel_rfl) (by kernel_rfl) (Pl.unwantedU 27 18 121 false (by kernel_rfl) (by kernel_rfl) (by decide) rfl) (below_drew w) ?_
  refine Pl.H.skip 28 131 (by kernel_rfl) (by kernel_rfl) (by kernel_rfl) (Pl.unwantedU 28 18 121 false (by kernel_rfl) (by kernel_rfl) (by decide) rfl) (below_drew w) ?_
  refine Pl.H.skip 29 132 (by kernel_rfl) (by kernel_rfl) (by kernel_rfl) (Pl.unwantedU 29 18 121 false (by kernel_rfl) (by kernel_rfl) (by decide) rfl) (below_drew w) ?_
  refine Pl.H.skip 30 133 (by kernel_rfl) (by kernel_rfl) (by kernel_rfl) (Pl.unwantedU 30 18 121 false (by kernel_rfl) (by kernel_rfl) (by decide) rfl) (below_drew w) ?_
  refine Pl.H.skip 31 134 (by kernel_rfl) (by kernel_rfl) (by kernel_rfl) (Pl.unwantedU 31 18 121 false (by kernel_rfl) (by kernel_rfl) (by decide) rfl) (below_drew w) ?_
  refine Pl.H.skip 32 135 (by kernel_rfl) (by kernel_rfl) (by kernel_rfl) (Pl.unwanted 32 12 115 true (by kernel_rfl) (by kernel_rfl) (by decide) rfl) (below_drew w) ?_
  refine Pl.H.take 33 136 (.bool false) (by kernel_rfl) (by kernel_rfl) (by kernel_rfl) (Pl.free 33 (by kernel_rfl)) (Pl.pickF 33 (.tmp 115) (.tmp 135) (.const (.bool false)) (by kernel_rfl) (by decide) (by decide) rfl) (below_drew w) ?_
  refine Pl.H.done (by kernel_rfl) (fun A' hA' => ?_)
  rw [Pl.At.ext hA' ((((((((((((((((((((((((((((((((((hA.put 103 _).put 104 _).put 105 _).put 106 _).put 107 _).put 108 _).put 109 _).put 110 _).put 111 _).put 112 _).put 113 _).put 114 _).put 115 _).put 116 _).put 117 _).put 118 _).put 119 _).put 120 _).put 121 _).put 122 _).put 123 _).put 124 _).put 125 _).put 126 _).put 127 _).put 128 _).put 129 _).put 130 _).put 131 _).put 132 _).put 133 _).put 134 _).put 135 _).put 136 _)]
  exact hend (fun d => if d = 103 then .int .i64 ((k : Nat) : Int) else if d = 104 then .int .i64 z else if d = 105 then .bool true else if d = 106 then .bool true else if d = 107 then .pointer (some ⟨g7, 1, none⟩) else if d = 108 then .slice (some ⟨b, o, none⟩) len cap else if d = 109 then .int .i64 ((k : Nat) : Int) else if d = 110 then .pointer (some ⟨b, o + k, none⟩) else if d = 111 then .slice sa 0 sc else if d = 112 then .int .i64 ((0 : Nat) : Int) else if d = 113 then .bool false else if d = 114 then .bool false else if d = 115 then .bool false else if d = 116 then undef else if d = 117 then undef else if d = 118 then undef else if d = 119 then undef else if d = 120 then undef else if d = 121 then undef else if d = 122 then undef else if d = 123 then undef else if d = 124 then undef else if d = 125 then undef else if d = 126 then undef else if d = 127 then undef else if d = 128 then undef else if d = 129 then undef else if d = 130 then undef else if d = 131 then undef else if d = 132 then undef else if d = 133 then undef else if d = 134 then undef else if d = 135 then undef else undef) _ (below_drew w)

set_option maxHeartbeats 2000000 in
set_option maxRecDepth 100000 in
theorem others21C (w : World) (g7 g10 k b o len cap b2 o2 len2 cap2 : Nat) (q1 q2 : Value) (sa : Option Addr) (sn sc : Nat) (sa2 : Option Addr) (sn2 sc2 : Nat) (z : Int) (xs : List Nat) (hk : k < len) (hk2 : k < len2) (h0 : ((k : Nat) : Int) ≠ z) (h1 : 0 < sn) (hk7 : LfBlk w g7 q1 (.slice (some ⟨b, o, none⟩) len cap)) (hk10 : LfBlk w g10 q2 (.slice (some ⟨b2, o2, none⟩) len2 cap2)) (hx : w.cell? ⟨b, o + k, none⟩ = some (.slice sa sn sc)) (hy : w.cell? ⟨b2, o2 + k, none⟩ = some (.slice sa2 sn2 sc2)) (hs : Bs w sa sn xs) (hs2 : Bs w sa2 sn2 xs)
    {Q : Exit → Act → World → Prop} {A : Act} (hsz : A.tmps.size = 139) (hdf : A.defers = []) (s7 : A.tmps.getD 7 undef = .pointer (some ⟨g7, 0, none⟩)) (s9 : A.tmps.getD 9 undef = .int .i64 z) (s10 : A.tmps.getD 10 undef = .pointer (some ⟨g10, 0, none⟩)) (s12 : A.tmps.getD 12 undef = .int .i64 ((k : Nat) : Int))
    (hend : ∀ (u : Nat → Value) w', Below w.heap.size w w' → Q .normal (((((((((((((((((((((((((((((((((((A).put (some 103) (u 103)).put (some 104) (u 104)).put (some 105) (u 105)).put (some 106) (u 106)).put (some 107) (u 107)).put (some 108) (u 108)).put (some 109) (u 109)).put (some 110) (u 110)).put (some 111) (u 111)).put (some 112) (u 112)).put (some 113) (u 113)).put (some 114) (u 114)).put (some 115) (u 115)).put (some 116) (u 116)).put (some 117) (u 117)).put (some 118) (u 118)).put (some 119) (u 119)).put (some 120) (u 120)).put (some 121) (u 121)).put (some 122) (u 122)).put (some 123) (u 123)).put (some 124) (u 124)).put (some 125) (u 125)).put (some 126) (u 126)).put (some 127) (u 127)).put (some 128) (u 128)).put (some 129) (u 129)).put (some 130) (u 130)).put (some 131) (u 131)).put (some 132) (u 132)).put (some 133) (u 133)).put (some 134) (u 134)).put (some 135) (u 135)).put (some 136) (.bool false)) w') :
    (Code.region 21 (Pl.find 21 ((Try.f6.body).getD .skip)) true).wp Try.prog Q A w := by
  have hA := Pl.At.same (v := .int .i64 ((k : Nat) : Int)) (d := 12) (Pl.At.same (v := .pointer (some ⟨g10, 0, none⟩)) (d := 10) (Pl.At.same (v := .int .i64 z) (d := 9) (Pl.At.same (v := .pointer (some ⟨g7, 0, none⟩)) (d := 7) (Pl.At.here hsz hdf) s7) s9) s10) s12
  refine Pl.H.start (S := (fun w' => Below w.heap.size w w')) (by kernel_rfl) hA (below_drew w) ?_
  rw [show (Pl.find 21 ((Try.f6.body).getD .skip)).size = 34 by kernel_rfl]
  refine Pl.H.take 0 103 (.int .i64 ((k : Nat) : Int)) (by kernel_rfl) (by kernel_rfl) (by kernel_rfl) (Pl.free 0 (by kernel_rfl)) (Pl.move 0 (.tmp 12) (by kernel_rfl) (by decide)) (below_drew w) ?_
  refine Pl.H.take 1 104 (.int .i64 z) (by kernel_rfl) (by kernel_rfl) (by kernel_rfl) (Pl.free 1 (by kernel_rfl)) (Pl.move 1 (.tmp 9) (by kernel_rfl) (by decide)) (below_drew w) ?_
  refine Pl.H.take 2 105 (.bool true) (by kernel_rfl) (by kernel_rfl) (by kernel_rfl) (Pl.free 2 (by kernel_rfl)) (Pl.binV 2 .neq 3 3 (.tmp 103) (.tmp 104) (.int .i64 ((k : Nat) : Int)) (.int .i64 z) _ (by kernel_rfl) (by decide) (by decide) rfl rfl (neqT ((k : Nat) : Int) z _ _ h0)) (below_drew w) ?_
  refine Pl.H.take 3 106 (.bool true) (by kernel_rfl) (by kernel_rfl) (by kernel_rfl) (Pl.free 3 (by kernel_rfl)) (Pl.move 3 (.tmp 105) (by kernel_rfl) (by decide)) (below_drew w) ?_
  refine Pl.H.take 4 107 (.pointer (some ⟨g7, 1, none⟩)) (by kernel_rfl) (by kernel_rfl) (by kernel_rfl) (Pl.guarded 4 3 106 true (by kernel_rfl) (by kernel_rfl) (by decide) rfl) (Pl.field 4 25 (.tmp 7) 1 _ (by kernel_rfl) (by decide) (fdLf1 g7)) (below_drew w) ?_
  refine Pl.H.take 5 108 (.slice (some ⟨b, o, none⟩) len cap) (by kernel_rfl) (by kernel_rfl) (by kernel_rfl) (Pl.guarded 5 3 106 true (by kernel_rfl) (by kernel_rfl) (by decide) rfl) (Pl.load 5 23 (.tmp 107) _ (by kernel_rfl) (by decide) (fun w' hS => ldLf1 g7 q1 ⟨some ⟨b, o, none⟩, len, cap⟩ w' (hk7.below hS))) (below_drew w) ?_
  refine Pl.H.take 6 109 (.int .i64 ((k : Nat) : Int)) (by kernel_rfl) (by kernel_rfl) (by kernel_rfl) (Pl.guarded 6 3 106 true (by kernel_rfl) (by kernel_rfl) (by decide) rfl) (Pl.move 6 (.tmp 12) (by kernel_rfl) (by decide)) (below_drew w) ?_
  refine Pl.H.take 7 110 (.pointer (some ⟨b, o + k, none⟩)) (by kernel_rfl) (by kernel_rfl) (by kernel_rfl) (Pl.guarded 7 3 106 true (by kernel_rfl) (by kernel_rfl) (by decide) rfl) (Pl.index 7 23 (.tmp 108) (.tmp 109) _ (by kernel_rfl) (by decide) (by decide) (ixB1 b o len cap k hk)) (below_drew w) ?_
  refine Pl.H.take 8 111 (.slice sa sn sc) (by kernel_rfl) (by kernel_rfl) (by kernel_rfl) (Pl.guarded 8 3 106 true (by kernel_rfl) (by kernel_rfl) (by decide) rfl) (Pl.load 8 28 (.tmp 110) _ (by kernel_rfl) (by decide) (fun w' hS => ldS1 b (o + k) ⟨sa, sn, sc⟩ w' (cell_below hx hS))) (below_drew w) ?_
  refine Pl.H.take 9 112 (.int .i64 ((sn : Nat) : Int)) (by kernel_rfl) (by kernel_rfl) (by kernel_rfl) (Pl.guarded 9 3 106 true (by kernel_rfl) (by kernel_rfl) (by decide) rfl) (Pl.lenOf 9 28 (.tmp 111) _ (by kernel_rfl) (by decide) (fun _ _ => rfl)) (below_drew w) ?_
  refine Pl.H.take 10 113 (.bool true) (by kernel_rfl) (by kernel_rfl) (by kernel_rfl) (Pl.guarded 10 3 106 true (by kernel_rfl) (by kernel_rfl) (by decide) rfl) (Pl.binV 10 .gtr 3 3 (.tmp 112) (.const (.int .i64 0)) (.int .i64 ((sn : Nat) : Int)) (.int .i64 0) _ (by kernel_rfl) (by decide) (by decide) rfl rfl (gtrT ((sn : Nat) : Int) 0 _ _ (by omega))) (below_drew w) ?_
  refine Pl.H.take 11 114 (.bool true) (by kernel_rfl) (by kernel_rfl) (by kernel_rfl) (Pl.free 11 (by kernel_rfl)) (Pl.pick 11 (.tmp 106) (.tmp 113) (.const (.bool false)) (by kernel_rfl) (by decide) (by decide) rfl) (below_drew w) ?_
  refine Pl.H.take 12 115 (.bool true) (by kernel_rfl) (by kernel_rfl) (by kernel_rfl) (Pl.free 12 (by kernel_rfl)) (Pl.move 12 (.tmp 114) (by kernel_rfl) (by decide)) (below_drew w) ?_
  refine Pl.H.take 13 116 (.int .i64 ((k : Nat) : Int)) (by kernel_rfl) (by kernel_rfl) (by kernel_rfl) (Pl.guarded 13 12 115 true (by kernel_rfl) (by kernel_rfl) (by decide) rfl) (Pl.move 13 (.tmp 12) (by kernel_rfl) (by decide)) (below_drew w) ?_
  refine Pl.H.take 14 117 (.pointer (some ⟨g10, 1, none⟩)) (by kernel_rfl) (by kernel_rfl) (by kernel_rfl) (Pl.guarded 14 12 115 true (by kernel_rfl) (by kernel_rfl) (by decide) rfl) (Pl.field 14 25 (.tmp 10) 1 _ (by kernel_rfl) (by decide) (fdLf1 g10)) (below_drew w) ?_
  refine Pl.H.take 15 118 (.slice (some ⟨b2, o2, none⟩) len2 cap2) (by kernel_rfl) (by kernel_rfl) (by kernel_rfl) (Pl.guarded 15 12 115 true (by kernel_rfl) (by kernel_rfl) (by decide) rfl) (Pl.load 15 23 (.tmp 117) _ (by kernel_rfl) (by decide) (fun w' hS => ldLf1 g10 q2 ⟨some ⟨b2, o2, none⟩, len2, cap2⟩ w' (hk10.below hS))) (below_drew w) ?_
  refine Pl.H.take 16 119 (.int .i64 ((len2 : Nat) : Int)) (by kernel_rfl) (by kernel_rfl) (by kernel_rfl) (Pl.guarded 16 12 115 true (by kernel_rfl) (by kernel_rfl) (by decide) rfl) (Pl.lenOf 16 23 (.tmp 118) _ (by kernel_rfl) (by decide) (fun _ _ => rfl)) (below_drew w) ?_
  refine Pl.H.take 17 120 (.bool false) (by kernel_rfl) (by kernel_rfl) (by kernel_rfl) (Pl.guarded 17 12 115 true (by kernel_rfl) (by kernel_rfl) (by decide) rfl) (Pl.binV 17 .geq 3 3 (.tmp 116) (.tmp 119) (.int .i64 ((k : Nat) : Int)) (.int .i64 ((len2 : Nat) : Int)) _ (by kernel_rfl) (by decide) (by decide) rfl rfl (geqF ((k : Nat) : Int) ((len2 : Nat) : Int) _ _ (by omega))) (below_drew w) ?_
  refine Pl.H.take 18 121 (.bool false) (by kernel_rfl) (by kernel_rfl) (by kernel_rfl) (Pl.guarded 18 12 115 true (by kernel_rfl) (by kernel_rfl) (by decide) rfl) (Pl.move 18 (.tmp 120) (by kernel_rfl) (by decide)) (below_drew w) ?_
  refine Pl.H.take 19 122 (.pointer (some ⟨g10, 1, none⟩)) (by kernel_rfl) (by kernel_rfl) (by kernel_rfl) (Pl.guarded 19 18 121 false (by kernel_rfl) (by kernel_rfl) (by decide) rfl) (Pl.field 19 25 (.tmp 10) 1 _ (by kernel_rfl) (by decide) (fdLf1 g10)) (below_drew w) ?_
  refine Pl.H.take 20 123 (.slice (some ⟨b2, o2, none⟩) len2 cap2) (by kernel_rfl) (by kernel_rfl) (by kernel_rfl) (Pl.guarded 20 18 121 false (by kernel_rfl) (by kernel_rfl) (by decide) rfl) (Pl.load 20 23 (.tmp 122) _ (by kernel_rfl) (by decide) (fun w' hS => ldLf1 g10 q2 ⟨some ⟨b2, o2, none⟩, len2, cap2⟩ w' (hk10.below hS))) (below_drew w) ?_
  refine Pl.H.take 21 124 (.int .i64 ((k : Nat) : Int)) (by kernel_rfl) (by kernel_rfl) (by kernel_rfl) (Pl.guarded 21 18 121 false (by kernel_rfl) (by kernel_rfl) (by decide) rfl) (Pl.move 21 (.tmp 12) (by kernel_rfl) (by decide)) (below_drew w) ?_
  refine Pl.H.take 22 125 (.pointer (some ⟨b2, o2 + k, none⟩)) (by kernel_rfl) (by kernel_rfl) (by kernel_rfl) (Pl.guarded 22 18 121 false (by kernel_rfl) (by kernel_rfl) (by decide) rfl) (Pl.index 22 23 (.tmp 123) (.tmp 124) _ (by kernel_rfl) (by decide) (by decide) (ixB1 b2 o2 len2 cap2 k hk2)) (below_drew w) ?_
  refine Pl.H.take 23 126 (.slice sa2 sn2 sc2) (by kernel_rfl) (by kernel_rfl) (by kernel_rfl) (Pl.guarded 23 18 121 false (by kernel_rfl) (by kernel_rfl) (by decide) rfl) (Pl.load 23 28 (.tmp 125) _ (by kernel_rfl) (by decide) (fun w' hS => ldS1 b2 (o2 + k) ⟨sa2, sn2, sc2⟩ w' (cell_below hy hS))) (below_drew w) ?_
  refine Pl.H.take 24 127 (.string (bstr xs)) (by kernel_rfl) (by kernel_rfl) (by kernel_rfl) (Pl.guarded 24 18 121 false (by kernel_rfl) (by kernel_rfl) (by decide) rfl) (Pl.convV 24 28 9 (.tmp 126) (.slice sa2 sn2 sc2) _ (by kernel_rfl) (by decide) rfl (fun w' hS => run_string_of sc2 (hs2.keep hS (Nat.le_refl _)))) (below_drew w) ?_
  refine Pl.H.take 25 128 (.pointer (some ⟨g7, 1, none⟩)) (by kernel_rfl) (by kernel_rfl) (by kernel_rfl) (Pl.guarded 25 18 121 false (by kernel_rfl) (by kernel_rfl) (by decide) rfl) (Pl.field 25 25 (.tmp 7) 1 _ (by kernel_rfl) (by decide) (fdLf1 g7)) (below_drew w) ?_
  refine Pl.H.take 26 129 (.slice (some ⟨b, o, none⟩) len cap) (by kernel_rfl) (by kernel_rfl) (by kernel_rfl) (Pl.guarded 26 18 121 false (by kernel_rfl) (by kernel_rfl) (by decide) rfl) (Pl.load 26 23 (.tmp 128) _ (by kernel_rfl) (by decide) (fun w' hS => ldLf1 g7 q1 ⟨some ⟨b, o, none⟩, len, cap⟩ w' (hk7.below hS))) (below_drew w) ?_
  refine Pl.H.take 27 130 (.int .i64 ((k : Nat) : Int)) (by kernel_rfl) (by kernel_rfl) (by kernel_rfl) (Pl.guarded 27 18 121 false (by kernel_rfl) (by kernel_rfl) (by decide) rfl) (Pl.move 27 (.tmp 12) (by kernel_rfl) (by decide)) (below_drew w) ?_
  refine Pl.H.take 28 131 (.pointer (some ⟨b, o + k, none⟩)) (by kernel_rfl) (by kernel_rfl) (by kernel_rfl) (Pl.guarded 28 18 121 false (by kernel_rfl) (by kernel_rfl) (by decide) rfl) (Pl.index 28 23 (.tmp 129) (.tmp 130) _ (by kernel_rfl) (by decide) (by decide) (ixB1 b o len cap k hk)) (below_drew w) ?_
  refine Pl.H.take 29 132 (.slice sa sn sc) (by kernel_rfl) (by kernel_rfl) (by kernel_rfl) (Pl.guarded 29 18 121 false (by kernel_rfl) (by kernel_rfl) (by decide) rfl) (Pl.load 29 28 (.tmp 131) _ (by kernel_rfl) (by decide) (fun w' hS => ldS1 b (o + k) ⟨sa, sn, sc⟩ w' (cell_below hx hS))) (below_drew w) ?_
  refine Pl.H.take 30 133 (.string (bstr xs)) (by kernel_rfl) (by kernel_rfl) (by kernel_rfl) (Pl.guarded 30 18 121 false (by kernel_rfl) (by kernel_rfl) (by decide) rfl) (Pl.convV 30 28 9 (.tmp 132) (.slice sa sn sc) _ (by kernel_rfl) (by decide) rfl (fun w' hS => run_string_of sc (hs.keep hS (Nat.le_refl _)))) (below_drew w) ?_
  refine Pl.H.take 31 134 (.bool false) (by kernel_rfl) (by kernel_rfl) (by kernel_rfl) (Pl.guarded 31 18 121 false (by kernel_rfl) (by kernel_rfl) (by decide) rfl) (Pl.binV 31 .neq 9 9 (.tmp 127) (.tmp 133) (.string (bstr xs)) (.string (bstr xs)) _ (by kernel_rfl) (by decide) (by decide) rfl rfl (fun w => by simp [go_sem, eqGuard])) (below_drew w) ?_
  refine Pl.H.take 32 135 (.bool false) (by kernel_rfl) (by kernel_rfl) (by kernel_rfl) (Pl.guarded 32 12 115 true (by kernel_rfl) (by kernel_rfl) (by decide) rfl) (Pl.pickF 32 (.tmp 121) (.const (.bool true)) (.tmp 134) (by kernel_rfl) (by decide) (by decide) rfl) (below_drew w) ?_
  refine Pl.H.take 33 136 (.bool false) (by kernel_rfl) (by kernel_rfl) (by kernel_rfl) (Pl.free 33 (by kernel_rfl)) (Pl.pick 33 (.tmp 115) (.tmp 135) (.const (.bool false)) (by kernel_rfl) (by decide) (by decide) rfl) (below_drew w) ?_
  refine Pl.H.done (by kernel_rfl) (fun A' hA' => ?_)
  rw [Pl.At.ext hA' ((((((((((((((((((((((((((((((((((hA.put 103 _).put 104 _).put 105 _).put 106 _).put 107 _).put 108 _).put 109 _).put 110 _).put 111 _).put 112 _).put 113 _).put 114 _).put 115 _).put 116 _).put 117 _).put 118 _).put 119 _).put 120 _).put 121 _).put 122 _).put 123 _).put 124 _).put 125 _).put 126 _).put 127 _).put 128 _).put 129 _).put 130 _).put 131 _).put 132 _).put 133 _).put 134 _).put 135 _).put 136 _)]
  exact hend (fun d => if d = 103 then .int .i64 ((k : Nat) : Int) else if d = 104 then .int .i64 z else if d = 105 then .bool true else if d = 106 then .bool true else if d = 107 then .pointer (some ⟨g7, 1, none⟩) else if d = 108 then .slice (some ⟨b, o, none⟩) len cap else if d = 109 then .int .i64 ((k : Nat) : Int) else if d = 110 then .pointer (some ⟨b, o + k, none⟩) else if d = 111 then .slice sa sn sc else if d = 112 then .int .i64 ((sn : Nat) : Int) else if d = 113 then .bool true else if d = 114 then .bool true else if d = 115 then .bool true else if d = 116 then .int .i64 ((k : Nat) : Int) else if d = 117 then .pointer (some ⟨g10, 1, none⟩) else if d = 118 then .slice (some ⟨b2, o2, none⟩) len2 cap2 else if d = 119 then .int .i64 ((len2 : Nat) : Int) else if d = 120 then .bool false else if d = 121 then .bool false else if d = 122 then .pointer (some ⟨g10, 1, none⟩) else if d = 123 then .slice (some ⟨b2, o2, none⟩) len2 cap2 else if d = 124 then .int .i64 ((k : Nat) : Int) else if d = 125 then .pointer (some ⟨b2, o2 + k, none⟩) else if d = 126 then .slice sa2 sn2 sc2 else if d = 127 then .string (bstr xs) else if d = 128 then .pointer (some ⟨g7, 1, none⟩) else if d = 129 then .slice (some ⟨b, o, none⟩) len cap else if d = 130 then .int .i64 ((k : Nat) : Int) else if d = 131 then .pointer (some ⟨b, o + k, none⟩) else if d = 132 then .slice sa sn sc else if d = 133 then .string (bstr xs) else if d = 134 then .bool false else if d = 135 then .bool false else undef) _ (below_drew w)
end Go.Proofs.Ytgieigpbbkeonaa
