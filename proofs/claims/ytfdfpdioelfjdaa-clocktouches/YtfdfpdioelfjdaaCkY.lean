/-
  Layer 7: any page used, pinned and dropped: the drawn statement; clocks in boxes.
-/
import Derived.Test.YtfdfpdioelfjdaaCkX
import Derived.Test.YtfdfpdioelfjdaaCkM
import Derived.Test.YtfdfpdioelfjdaaCkQ
namespace Go.Proofs.Ytfdfpdioelfjdaa
open Go.RowKit

theorem entRSame : ∀ args w, (callFunc 13 args).run Try.prog w = .ok (.enter 13 args) w := Pl.enters Try.func13 (by kernel_rfl) (by kernel_rfl)
theorem entSame : ∀ args w, (callFunc 17 args).run Try.prog w = .ok (.enter 17 args) w := Pl.enters Try.func17 (by kernel_rfl) (by kernel_rfl)
theorem entAwake : ∀ args w, (callFunc 7 args).run Try.prog w = .ok (.enter 7 args) w := Pl.enters Try.func7 (by kernel_rfl) (by kernel_rfl)
theorem eqlB (b : Bool) (x y : Operand) (w : World) : (do eqGuard .eql 4 x y (.bool b) (.bool b); binOp .eql 4 (.bool b) (.bool b) : Sem Value).run Try.prog w = .ok (.bool true) w := by
  cases b <;> simp [go_sem, eqGuard]

/-- A clock in its box, all below a bound. -/
structure Hc (B : Nat) (wr : World) (g : Nat) (s : Sl) (h : Int) (l : List Sp) : Prop where
  k : CkBlk wr g s.val h
  sp : Gs (fun k => k < B) wr s l
  lt : g < B
theorem Hc.below {B : Nat} {wr w' : World} {g : Nat} {s : Sl} {h : Int} {l : List Sp} (x : Hc B wr g s h l) (hb : Below wr.heap.size wr w') : Hc B w' g s h l := ⟨x.k.below hb, x.sp.below hb (Nat.le_refl _), x.lt⟩
theorem Hc.off {B : Nat} {wr w' : World} {g p : Nat} {s : Sl} {h : Int} {l : List Sp} (x : Hc B wr g s h l) (f : Frm (fun k => k = p) wr w') (hp : B ≤ p) : Hc B w' g s h l :=
  ⟨x.k.off f (by have := x.lt; omega), x.sp.keep (Kept.frm f (fun k hk e => by omega)), x.lt⟩
theorem Hc.mk' {wr : World} {g : Nat} {s : Sl} {h : Int} {l : List Sp} {D : Nat → Prop} (k : CkBlk wr g s.val h) (sp : Gs D wr s l) : Hc wr.heap.size wr g s h l := ⟨k, sp.mono (fun _ _ hl => hl), k.lt⟩
theorem Hc.up {B C : Nat} {wr : World} {g : Nat} {s : Sl} {h : Int} {l : List Sp} (x : Hc B wr g s h l) (hC : B ≤ C) : Hc C wr g s h l := ⟨x.k, x.sp.mono (fun _ hk _ => Nat.lt_of_lt_of_le hk hC), Nat.lt_of_lt_of_le x.lt hC⟩
/-- The answer that is held against it. -/
structure Yc (wr : World) (g : Nat) (s : Sl) (h : Int) (l : List Sp) : Prop where
  k : CkBlk wr g s.val h
  sp : Gs (fun k => k ≠ g) wr s l
theorem Yc.below {wr w' : World} {g : Nat} {s : Sl} {h : Int} {l : List Sp} (x : Yc wr g s h l) (hb : Below wr.heap.size wr w') : Yc w' g s h l := ⟨x.k.below hb, x.sp.below hb (Nat.le_refl _)⟩
theorem Yc.store {wr w' : World} {g B : Nat} {s : Sl} {h : Int} {l : List Sp} (x : Yc wr g s h l) (hb : Below wr.heap.size wr w') {s' : Sl} {l' : List Sp} (hB : B ≤ g) (hg : Gs (Old (fun k => k < B) wr) w' s' l') (h' : Int) : ∃ W, (Instr.storeAt 24 (.pointer (some ⟨g, 0, none⟩)) (ckV s' h')).run Try.prog w' = .ok () W ∧ Yc W g s' h' l' ∧ Frm (fun k => k = g) w' W := by
  have x1 := x.below hb
  have hlt := x.k.lt
  have f := setCk_frm w' g s'.val h'
  have hg' := hg.mono (fun k hk _ => (by rcases hk with e | e <;> omega : k ≠ g))
  exact ⟨_, store_ck g s' h' w' x1.k, ⟨x1.k.set s'.val h', hg'.keep (Kept.frm f (fun k hk e => hk e))⟩, f⟩

/-- The four boxes. -/
def TcS (g3 g7 g13 g16 : Nat) (sc sx sd sy : Sl) (hc hx hd hy : Int) (w : World) : Prop := CkBlk w g3 sc.val hc ∧ CkBlk w g7 sx.val hx ∧ CkBlk w g13 sd.val hd ∧ CkBlk w g16 sy.val hy
theorem TcS.below {g3 g7 g13 g16 : Nat} {sc sx sd sy : Sl} {hc hx hd hy : Int} {w w' : World} (k : TcS g3 g7 g13 g16 sc sx sd sy hc hx hd hy w) (hb : Below w.heap.size w w') : TcS g3 g7 g13 g16 sc sx sd sy hc hx hd hy w' := ⟨k.1.below hb, k.2.1.below hb, k.2.2.1.below hb, k.2.2.2.below hb⟩

set_option maxHeartbeats 2000000 in
set_option maxRecDepth 100000 in
theorem touches16 (w : World) (g3 g7 g13 g16 : Nat) (sc sx sd sy : Sl) (hc hx hd hy ge : Int) (b : Bool) (hS : TcS g3 g7 g13 g16 sc sx sd sy hc hx hd hy w) (h1 : (∀ W, Below w.heap.size w W → Calls Try.prog 13 #[ckV sd hd, ckV sy hy] W fun e w' => e = .returned (.bool true) ∧ Below W.heap.size W w')) (h2 : (∀ W, Below w.heap.size w W → Calls Try.prog 17 #[ckV sc hc, ckV sx hx] W fun e w' => e = .returned (.bool b) ∧ Below W.heap.size W w')) (h3 : (∀ W, Below w.heap.size w W → Calls Try.prog 13 #[ckV sc hc, ckV sx hx] W fun e w' => e = .returned (.bool b) ∧ Below W.heap.size W w')) (h4 : (∀ W, Below w.heap.size w W → Calls Try.prog 7 #[] W fun e w' => e = .returned (.bool true) ∧ Below W.heap.size W w'))
    {Q : Exit → Act → World → Prop} {A : Act} (hsz : A.tmps.size = 170) (hdf : A.defers = []) (s3 : A.tmps.getD 3 undef = .pointer (some ⟨g3, 0, none⟩)) (s7 : A.tmps.getD 7 undef = .pointer (some ⟨g7, 0, none⟩)) (s13 : A.tmps.getD 13 undef = .pointer (some ⟨g13, 0, none⟩)) (s14 : A.tmps.getD 14 undef = .int .i64 ge) (s16 : A.tmps.getD 16 undef = .pointer (some ⟨g16, 0, none⟩)) (s19 : A.tmps.getD 19 undef = .int .i64 ge)
    (hend : ∀ (u : Nat → Value) w', Below w.heap.size w w' → Q .normal ((((((((((((((((((((((A).put (some 150) (u 150)).put (some 151) (u 151)).put (some 152) (u 152)).put (some 153) (u 153)).put (some 154) (u 154)).put (some 155) (u 155)).put (some 156) (u 156)).put (some 157) (u 157)).put (some 158) (u 158)).put (some 159) (u 159)).put (some 160) (u 160)).put (some 162) (u 162)).put (some 163) (u 163)).put (some 161) (u 161)).put (some 164) (u 164)).put (some 165) (u 165)).put (some 166) (u 166)).put (some 167) (u 167)).put (some 168) (u 168)).put (some 169) (u 169)).put (some 6) (.bool true)) w') :
    (Code.region 16 (Pl.find 16 ((Try.f3.body).getD .skip)) true).wp Try.prog Q A w := by
  have hA := Pl.At.same (v := .int .i64 ge) (d := 19) (Pl.At.same (v := .pointer (some ⟨g16, 0, none⟩)) (d := 16) (Pl.At.same (v := .int .i64 ge) (d := 14) (Pl.At.same (v := .pointer (some ⟨g13, 0, none⟩)) (d := 13) (Pl.At.same (v := .pointer (some ⟨g7, 0, none⟩)) (d := 7) (Pl.At.same (v := .pointer (some ⟨g3, 0, none⟩)) (d := 3) (Pl.At.here hsz hdf) s3) s7) s13) s14) s16) s19
  refine Pl.H.start (S := (TcS g3 g7 g13 g16 sc sx sd sy hc hx hd hy)) (by kernel_rfl) hA (hS.below (below_drew w)) ?_
  rw [show (Pl.find 16 ((Try.f3.body).getD .skip)).size = 21 by kernel_rfl]
  refine Pl.H.take 0 150 (ckV sd hd) (by kernel_rfl) (by kernel_rfl) (by kernel_rfl) (Pl.free 0 (by kernel_rfl)) (Pl.load 0 24 (.tmp 13) _ (by kernel_rfl) (by decide) (fun w' hS => ldCk g13 sd hd w' hS.2.2.1)) (hS.below (below_drew w)) ?_
  refine Pl.H.take 1 151 (ckV sy hy) (by kernel_rfl) (by kernel_rfl) (by kernel_rfl) (Pl.free 1 (by kernel_rfl)) (Pl.load 1 24 (.tmp 16) _ (by kernel_rfl) (by decide) (fun w' hS => ldCk g16 sy hy w' hS.2.2.2)) (hS.below (below_drew w)) ?_
  refine Pl.H.call 2 152 13 [(.tmp 150), (.tmp 151)] #[24, 24] (by kernel_rfl) (by kernel_rfl) (by kernel_rfl) (Pl.free 2 (by kernel_rfl)) (by kernel_rfl) (by decide) entRSame (Calls.mono (h1 w.drew (below_drew w)) ?_)
  rintro e w1 ⟨rfl, hb1⟩
  have hE1 := rBelow (below_drew w) hb1
  have hS1 := hS.below hE1
  refine ⟨.bool true, rfl, hS1, ?_⟩
  refine Pl.H.take 3 153 (.bool true) (by kernel_rfl) (by kernel_rfl) (by kernel_rfl) (Pl.free 3 (by kernel_rfl)) (Pl.move 3 (.tmp 152) (by kernel_rfl) (by decide)) hS1 ?_
  refine Pl.H.take 4 154 (.int .i64 ge) (by kernel_rfl) (by kernel_rfl) (by kernel_rfl) (Pl.guarded 4 3 153 true (by kernel_rfl) (by kernel_rfl) (by decide) rfl) (Pl.move 4 (.tmp 14) (by kernel_rfl) (by decide)) hS1 ?_
  refine Pl.H.take 5 155 (.int .i64 ge) (by kernel_rfl) (by kernel_rfl) (by kernel_rfl) (Pl.guarded 5 3 153 true (by kernel_rfl) (by kernel_rfl) (by decide) rfl) (Pl.move 5 (.tmp 19) (by kernel_rfl) (by decide)) hS1 ?_
  refine Pl.H.take 6 156 (.bool true) (by kernel_rfl) (by kernel_rfl) (by kernel_rfl) (Pl.guarded 6 3 153 true (by kernel_rfl) (by kernel_rfl) (by decide) rfl) (Pl.binV 6 .eql 26 26 (.tmp 154) (.tmp 155) (.int .i64 ge) (.int .i64 ge) _ (by kernel_rfl) (by decide) (by decide) rfl rfl (eqlTE ge ge _ _ rfl)) hS1 ?_
  refine Pl.H.take 7 157 (.bool true) (by kernel_rfl) (by kernel_rfl) (by kernel_rfl) (Pl.free 7 (by kernel_rfl)) (Pl.pick 7 (.tmp 153) (.tmp 156) (.const (.bool false)) (by kernel_rfl) (by decide) (by decide) rfl) hS1 ?_
  refine Pl.H.take 8 158 (.bool true) (by kernel_rfl) (by kernel_rfl) (by kernel_rfl) (Pl.free 8 (by kernel_rfl)) (Pl.move 8 (.tmp 157) (by kernel_rfl) (by decide)) hS1 ?_
  refine Pl.H.take 9 159 (ckV sc hc) (by kernel_rfl) (by kernel_rfl) (by kernel_rfl) (Pl.guarded 9 8 158 true (by kernel_rfl) (by kernel_rfl) (by decide) rfl) (Pl.load 9 24 (.tmp 3) _ (by kernel_rfl) (by decide) (fun w' hS => ldCk g3 sc hc w' hS.1)) hS1 ?_
  refine Pl.H.take 10 160 (ckV sx hx) (by kernel_rfl) (by kernel_rfl) (by kernel_rfl) (Pl.guarded 10 8 158 true (by kernel_rfl) (by kernel_rfl) (by decide) rfl) (Pl.load 10 24 (.tmp 7) _ (by kernel_rfl) (by decide) (fun w' hS => ldCk g7 sx hx w' hS.2.1)) hS1 ?_
  refine Pl.H.take 12 162 (ckV sc hc) (by kernel_rfl) (by kernel_rfl) (by kernel_rfl) (Pl.guarded 12 8 158 true (by kernel_rfl) (by kernel_rfl) (by decide) rfl) (Pl.load 12 24 (.tmp 3) _ (by kernel_rfl) (by decide) (fun w' hS => ldCk g3 sc hc w' hS.1)) hS1 ?_
  refine Pl.H.take 13 163 (ckV sx hx) (by kernel_rfl) (by kernel_rfl) (by kernel_rfl) (Pl.guarded 13 8 158 true (by kernel_rfl) (by kernel_rfl) (by decide) rfl) (Pl.load 13 24 (.tmp 7) _ (by kernel_rfl) (by decide) (fun w' hS => ldCk g7 sx hx w' hS.2.1)) hS1 ?_
  refine Pl.H.call 11 161 17 [(.tmp 159), (.tmp 160)] #[24, 24] (by kernel_rfl) (by kernel_rfl) (by kernel_rfl) (Pl.guarded 11 8 158 true (by kernel_rfl) (by kernel_rfl) (by decide) rfl) (by kernel_rfl) (by decide) entSame (Calls.mono (h2 w1 hE1) ?_)
  rintro e w2 ⟨rfl, hb2⟩
  have hE2 := rBelow hE1 hb2
  have hS2 := hS.below hE2
  refine ⟨.bool b, rfl, hS2, ?_⟩
  refine Pl.H.call 14 164 13 [(.tmp 162), (.tmp 163)] #[24, 24] (by kernel_rfl) (by kernel_rfl) (by kernel_rfl) (Pl.guarded 14 8 158 true (by kernel_rfl) (by kernel_rfl) (by decide) rfl) (by kernel_rfl) (by decide) entRSame (Calls.mono (h3 w2 hE2) ?_)
  rintro e w3 ⟨rfl, hb3⟩
  have hE3 := rBelow hE2 hb3
  have hS3 := hS.below hE3
  refine ⟨.bool b, rfl, hS3, ?_⟩
  refine Pl.H.take 15 165 (.bool true) (by kernel_rfl) (by kernel_rfl) (by kernel_rfl) (Pl.guarded 15 8 158 true (by kernel_rfl) (by kernel_rfl) (by decide) rfl) (Pl.binV 15 .eql 4 4 (.tmp 161) (.tmp 164) (.bool b) (.bool b) _ (by kernel_rfl) (by decide) (by decide) rfl rfl (eqlB b _ _)) hS3 ?_
  refine Pl.H.take 16 166 (.bool true) (by kernel_rfl) (by kernel_rfl) (by kernel_rfl) (Pl.free 16 (by kernel_rfl)) (Pl.pick 16 (.tmp 158) (.tmp 165) (.const (.bool false)) (by kernel_rfl) (by decide) (by decide) rfl) hS3 ?_
  refine Pl.H.take 17 167 (.bool true) (by kernel_rfl) (by kernel_rfl) (by kernel_rfl) (Pl.free 17 (by kernel_rfl)) (Pl.move 17 (.tmp 166) (by kernel_rfl) (by decide)) hS3 ?_
  refine Pl.H.call 18 168 7 [] #[] (by kernel_rfl) (by kernel_rfl) (by kernel_rfl) (Pl.guarded 18 17 167 true (by kernel_rfl) (by kernel_rfl) (by decide) rfl) (by kernel_rfl) (by decide) entAwake (Calls.mono (h4 w3 hE3) ?_)
  rintro e w4 ⟨rfl, hb4⟩
  have hE4 := rBelow hE3 hb4
  have hS4 := hS.below hE4
  refine ⟨.bool true, rfl, hS4, ?_⟩
  refine Pl.H.take 19 169 (.bool true) (by kernel_rfl) (by kernel_rfl) (by kernel_rfl) (Pl.free 19 (by kernel_rfl)) (Pl.pick 19 (.tmp 167) (.tmp 168) (.const (.bool false)) (by kernel_rfl) (by decide) (by decide) rfl) hS4 ?_
  refine Pl.H.take 20 6 (.bool true) (by kernel_rfl) (by kernel_rfl) (by kernel_rfl) (Pl.free 20 (by kernel_rfl)) (Pl.assign 20 (.tmp 169) (by kernel_rfl) (by decide)) hS4 ?_
  refine Pl.H.done (by kernel_rfl) (fun A' hA' => ?_)
  rw [Pl.At.ext hA' (((((((((((((((((((((hA.put 150 _).put 151 _).put 152 _).put 153 _).put 154 _).put 155 _).put 156 _).put 157 _).put 158 _).put 159 _).put 160 _).put 162 _).put 163 _).put 161 _).put 164 _).put 165 _).put 166 _).put 167 _).put 168 _).put 169 _).put 6 _)]
  exact hend (fun d => if d = 150 then ckV sd hd else if d = 151 then ckV sy hy else if d = 152 then .bool true else if d = 153 then .bool true else if d = 154 then .int .i64 ge else if d = 155 then .int .i64 ge else if d = 156 then .bool true else if d = 157 then .bool true else if d = 158 then .bool true else if d = 159 then ckV sc hc else if d = 160 then ckV sx hx else if d = 162 then ckV sc hc else if d = 163 then ckV sx hx else if d = 161 then .bool b else if d = 164 then .bool b else if d = 165 then .bool true else if d = 166 then .bool true else if d = 167 then .bool true else if d = 168 then .bool true else if d = 169 then .bool true else undef) _ hE4

theorem touch_may {l : List Sp} {h p : Int} (hm : may l h = true) : may (touch l h p).l (touch l h p).h = true := by
  cases hp : isPg p with
  | false =>
    rw [touch_arg hp]
    exact hm
  | true =>
    rcases touch_keeps hm hp with ⟨he, hall, hno⟩ | ⟨k, T⟩
    · have hi : ixP l p = -1 := by
        rcases ixP_cases l p with ⟨h1, _⟩ | ⟨i, hi, _, h2, _⟩
        · exact h1
        · exact absurd h2 (hno i hi)
      rw [touch_find hm hp hi] at he ⊢
      split at he
      · rename_i hc
        rw [if_pos hc]
        exact hm
      · cases he
    · exact T.may
end Go.Proofs.Ytfdfpdioelfjdaa
