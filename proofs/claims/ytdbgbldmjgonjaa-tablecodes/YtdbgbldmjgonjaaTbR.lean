/-
  The law of what turns, over what the functions say.
-/
import Derived.Test.YtdbgbldmjgonjaaTbQ
namespace Go.Proofs.Ytdbgbldmjgonjaa
open Go.RowKit
set_option linter.unusedVariables false

/-- All that the functions of table say. -/
structure TableS : Prop where
  first : FirstTS
  check : CheckTS
  enc : EncTS
  dec : DecTS
  find : FindTS
  live : LiveTS
  eld : EldTS
  ent : EntTS
  wri : WriTS
  com : ComTS
  lea : LeaTS
  same : SameTS
theorem TableS.awake (H : TableS) : AwakeT := awakeT_any H.first H.ent H.com H.eld

/-- A box with a table, and its entries. -/
structure Bx (w : World) (p : Nat) (t : Tb) (v : Sl) : Prop where
  blk : TbBlk w p t v
  es : Es w v t.es
theorem Bx.keep {w w' : World} {p : Nat} {t : Tb} {v : Sl} (h : Bx w p t v) (hb : Below w.heap.size w w') : Bx w' p t v := ⟨h.blk.keep hb, h.es.keep hb (Nat.le_refl _)⟩
theorem Bx.other {w w' : World} {p q : Nat} {t t0 : Tb} {v v0 : Sl} (h : Bx w p t v) (hq : TbBlk w q t0 v0) (hf : Frm (fun k => k = q) w w') (hn : p ≠ q) : Bx w' p t v := ⟨h.blk.other hf hn, h.es.otherT hq hf⟩
theorem Bx.may {w : World} {p : Nat} {t : Tb} {v : Sl} (h : Bx w p t v) (hm : t.May) : v.len ≤ 100 := es_few h.es hm.len
theorem bxT (w : World) (t : Tb) (v : Sl) (h : Es w v t.es) : ∃ W, (Instr.storeAt 24 (.pointer (some ⟨w.heap.size, 0, none⟩)) (t.val v)).run Try.prog (w.alloc (.cells #[.int .i64 0, .int .i64 0, .int .i64 0, .slice none 0 0] 24)) = .ok () W ∧ Bx W w.heap.size t v ∧ Below w.heap.size w W := by
  obtain ⟨W, h1, h2, h3, _⟩ := boxT w t v
  exact ⟨W, h1, ⟨h2, h.keep h3 (Nat.le_refl _)⟩, h3⟩
theorem Bx.lay {w : World} {p : Nat} {t0 : Tb} {v0 : Sl} (h : Bx w p t0 v0) (t : Tb) (v : Sl) (hE : Es w v t.es) : ∃ W, (Instr.storeAt 24 (.pointer (some ⟨p, 0, none⟩)) (t.val v)).run Try.prog w = .ok () W ∧ Bx W p t v ∧ Frm (fun k => k = p) w W := by
  obtain ⟨W, h1, h2, h3, _⟩ := h.blk.store t v
  exact ⟨W, h1, ⟨h2, hE.otherT h.blk h3⟩, h3⟩

theorem enters14 : ∀ args w, (callFunc 14 args).run Try.prog w = .ok (.enter 14 args) w := Pl.enters Try.func14 (by kernel_rfl) (by kernel_rfl)

theorem enters30 : ∀ args w, (callFunc 30 args).run Try.prog w = .ok (.enter 30 args) w := Pl.enters Try.func30 (by kernel_rfl) (by kernel_rfl)

theorem enters12 : ∀ args w, (callFunc 12 args).run Try.prog w = .ok (.enter 12 args) w := Pl.enters Try.func12 (by kernel_rfl) (by kernel_rfl)

theorem enters32 : ∀ args w, (callFunc 32 args).run Try.prog w = .ok (.enter 32 args) w := Pl.enters Try.func32 (by kernel_rfl) (by kernel_rfl)

theorem enters31 : ∀ args w, (callFunc 31 args).run Try.prog w = .ok (.enter 31 args) w := Pl.enters Try.func31 (by kernel_rfl) (by kernel_rfl)

theorem enters13 : ∀ args w, (callFunc 13 args).run Try.prog w = .ok (.enter 13 args) w := Pl.enters Try.func13 (by kernel_rfl) (by kernel_rfl)

theorem enters33 : ∀ args w, (callFunc 33 args).run Try.prog w = .ok (.enter 33 args) w := Pl.enters Try.func33 (by kernel_rfl) (by kernel_rfl)

theorem enters34 : ∀ args w, (callFunc 34 args).run Try.prog w = .ok (.enter 34 args) w := Pl.enters Try.func34 (by kernel_rfl) (by kernel_rfl)

theorem find_yes (H : TableS) {t : Tb} (hm : t.May) (v : Sl) (tx : Int) (w : World) (h : Es w v t.es) : Calls Try.prog 14 #[t.val v, .int .i64 tx] w fun e w' => e = .returned (.int .i64 (ixN (findN t tx))) ∧ Below w.heap.size w w' := by
  have := H.find t v tx w h (es_few h hm.len)
  rw [findL_yes hm] at this
  exact this
theorem eld_yes (H : TableS) {t : Tb} (hm : t.May) (v : Sl) (w : World) (h : Es w v t.es) : Calls Try.prog 13 #[t.val v] w fun e w' => e = .returned (.int .i64 (eldestT t)) ∧ Below w.heap.size w w' := by
  have := H.eld t v w h (es_few h hm.len)
  rw [eldestL_yes hm] at this
  exact this
def LiveSays (t : Tb) (w : World) (e : Ending) (w' : World) : Prop := ∃ a c, e = .returned (.slice a (liveT t).length c) ∧ Ks w' a (liveT t).length (liveT t) ∧ Below w.heap.size w w'
theorem live_says {t : Tb} {w : World} {e : Ending} {w' : World} (h : ∃ s, e = .returned s ∧ OwnsV 3 w' w.heap.size s (kVals (liveT t)) ∧ Below w.heap.size w w') : LiveSays t w e w' := by
  obtain ⟨s, rfl, ho, hb⟩ := h
  have hl : (kVals (liveT t)).length = (liveT t).length := by simp [kVals]
  obtain ⟨a, c, rfl, hv, _, _⟩ := ho.vs (kVals_oneT _)
  rw [hl] at hv ⊢
  exact ⟨a, c, rfl, ks_of_vsT hv, hb⟩
theorem live_yes (H : TableS) {t : Tb} (hm : t.May) (v : Sl) (w : World) (h : Es w v t.es) : Calls Try.prog 12 #[t.val v] w (LiveSays t w) := by
  have := H.live t v w h (es_few h hm.len)
  rw [liveL_yes hm] at this
  exact this.mono (fun e w' k => live_says k)
theorem rlive_yes {t : Tb} (hm : t.May) (v : Sl) (w : World) (h : Es w v t.es) : Calls Try.prog 32 #[t.val v] w (LiveSays t w) :=
  (rliveT_any t v w h (by have := es_few h hm.len; omega)).mono (fun e w' k => live_says k)
theorem liveT_few {t : Tb} (hm : t.May) : (liveT t).length ≤ 9223372036854775807 := by
  have h1 := hm.len
  have : (liveT t).length ≤ t.es.length := by
    unfold liveT
    rw [List.length_map]
    exact List.length_filter_le _ _
  omega
theorem ints_yes (a b : Option Addr) (c d : Nat) (l : List Int) (n : Nat) (w : World) (h : Ks w a n l) (k : Ks w b n l) (hl : n ≤ 9223372036854775807) : Calls Try.prog 31 #[.slice a n c, .slice b n d] w fun e w' => e = .returned (.bool true) ∧ Below w.heap.size w w' := by
  have := rints_any a n c l b n d l w h k hl hl
  simpa using this

set_option maxHeartbeats 2000000 in
set_option maxRecDepth 100000 in
theorem ttr19 (H : TableS) (w0 w : World) (t : Tb) (hm : t.May) (v : Sl) (tx le : Int) (ea la : Tb) (hea : ea.May) (hla : mayB la = true) (sa sd sx : Sl) (p a d x : Nat) (hP : Bx w0 p t v) (hA1 : Bx w0 a ea sa) (hD : Bx w0 d la sd) (hX : Bx w0 x la sx) (hW : Below w0.heap.size w0 w)
    {Q : Exit → Act → World → Prop} {A : Act} (hsz : A.tmps.size = 210) (hdf : A.defers = []) (s1 : A.tmps.getD 1 undef = .int .i64 tx) (s3 : A.tmps.getD 3 undef = .pointer (some ⟨p, 0, none⟩)) (s7 : A.tmps.getD 7 undef = .pointer (some ⟨a, 0, none⟩)) (s15 : A.tmps.getD 15 undef = .pointer (some ⟨d, 0, none⟩)) (s16 : A.tmps.getD 16 undef = .int .i64 le) (s17 : A.tmps.getD 17 undef = .pointer (some ⟨x, 0, none⟩)) (s19 : A.tmps.getD 19 undef = .int .i64 le)
    (hend : ∀ (u : Nat → Value) w', Below w0.heap.size w0 w' → Q .normal (((((((((((((((((((((((((((((((((((((((((((((((((A).put (some 163) (u 163)).put (some 164) (u 164)).put (some 165) (u 165)).put (some 166) (u 166)).put (some 167) (u 167)).put (some 168) (u 168)).put (some 169) (u 169)).put (some 170) (u 170)).put (some 171) (u 171)).put (some 172) (u 172)).put (some 173) (u 173)).put (some 174) (u 174)).put (some 175) (u 175)).put (some 176) (u 176)).put (some 177) (u 177)).put (some 179) (u 179)).put (some 180) (u 180)).put (some 178) (u 178)).put (some 181) (u 181)).put (some 182) (u 182)).put (some 183) (u 183)).put (some 184) (u 184)).put (some 185) (u 185)).put (some 187) (u 187)).put (some 186) (u 186)).put (some 188) (u 188)).put (some 189) (u 189)).put (some 190) (u 190)).put (some 191) (u 191)).put (some 192) (u 192)).put (some 194) (u 194)).put (some 193) (u 193)).put (some 195) (u 195)).put (some 196) (u 196)).put (some 197) (u 197)).put (some 198) (u 198)).put (some 199) (u 199)).put (some 200) (u 200)).put (some 202) (u 202)).put (some 203) (u 203)).put (some 201) (u 201)).put (some 204) (u 204)).put (some 205) (u 205)).put (some 206) (u 206)).put (some 207) (u 207)).put (some 208) (u 208)).put (some 209) (u 209)).put (some 6) (.bool true)) w') :
    (Code.region 19 (Pl.find 19 ((Try.f5.body).getD .skip)) true).wp Try.prog Q A w := by
  have hS0 : Below w0.heap.size w0 w.drew := hW.drew
  have hA := Pl.At.same (v := .int .i64 le) (d := 19) (Pl.At.same (v := .pointer (some ⟨x, 0, none⟩)) (d := 17) (Pl.At.same (v := .int .i64 le) (d := 16) (Pl.At.same (v := .pointer (some ⟨d, 0, none⟩)) (d := 15) (Pl.At.same (v := .pointer (some ⟨a, 0, none⟩)) (d := 7) (Pl.At.same (v := .pointer (some ⟨p, 0, none⟩)) (d := 3) (Pl.At.same (v := .int .i64 tx) (d := 1) (Pl.At.here hsz hdf) s1) s3) s7) s15) s16) s17) s19
  refine Pl.H.start (S := fun w' => Below w0.heap.size w0 w') (by kernel_rfl) hA hS0 ?_
  rw [show (Pl.find 19 ((Try.f5.body).getD .skip)).size = 48 by kernel_rfl]
  refine Pl.H.take 0 163 (la.val sd) (by kernel_rfl) (by kernel_rfl) (by kernel_rfl) (Pl.free 0 (by kernel_rfl)) (Pl.load 0 24 (.tmp 15) _ (by kernel_rfl) (by decide) (fun w' hS => load_tb d la sd w' (hD.keep hS).blk)) hS0 ?_
  refine Pl.H.take 1 164 (la.val sx) (by kernel_rfl) (by kernel_rfl) (by kernel_rfl) (Pl.free 1 (by kernel_rfl)) (Pl.load 1 24 (.tmp 17) _ (by kernel_rfl) (by decide) (fun w' hS => load_tb x la sx w' (hX.keep hS).blk)) hS0 ?_
  refine Pl.H.call 2 165 17 [(.tmp 163), (.tmp 164)] #[24, 24] (by kernel_rfl) (by kernel_rfl) (by kernel_rfl) (Pl.free 2 (by kernel_rfl)) (by kernel_rfl) (by decide) enters17 (Calls.mono (same_yes la sd sx w.drew (hD.keep hS0).es (hX.keep hS0).es) ?_)
  rintro e w1 ⟨rfl, hb1⟩
  have hS1 : Below w0.heap.size w0 w1 := rBelowT hS0 hb1
  refine ⟨.bool true, rfl, hS1, ?_⟩
  refine Pl.H.take 3 166 (.bool true) (by kernel_rfl) (by kernel_rfl) (by kernel_rfl) (Pl.free 3 (by kernel_rfl)) (Pl.move 3 (.tmp 165) (by kernel_rfl) (by decide)) hS1 ?_
  refine Pl.H.take 4 167 (.int .i64 le) (by kernel_rfl) (by kernel_rfl) (by kernel_rfl) (Pl.guarded 4 3 166 true (by kernel_rfl) (by kernel_rfl) (by decide) rfl) (Pl.move 4 (.tmp 16) (by kernel_rfl) (by decide)) hS1 ?_
  refine Pl.H.take 5 168 (.int .i64 le) (by kernel_rfl) (by kernel_rfl) (by kernel_rfl) (Pl.guarded 5 3 166 true (by kernel_rfl) (by kernel_rfl) (by decide) rfl) (Pl.move 5 (.tmp 19) (by kernel_rfl) (by decide)) hS1 ?_
  refine Pl.H.take 6 169 (.bool true) (by kernel_rfl) (by kernel_rfl) (by kernel_rfl) (Pl.guarded 6 3 166 true (by kernel_rfl) (by kernel_rfl) (by decide) rfl) (Pl.binV 6 .eql 27 27 (.tmp 167) (.tmp 168) (.int .i64 le) (.int .i64 le) _ (by kernel_rfl) (by decide) (by decide) rfl rfl (fun w => by simp [go_sem, eqGuard])) hS1 ?_
  refine Pl.H.take 7 170 (.bool true) (by kernel_rfl) (by kernel_rfl) (by kernel_rfl) (Pl.free 7 (by kernel_rfl)) (Pl.pick 7 (.tmp 166) (.tmp 169) (.const (.bool false)) (by kernel_rfl) (by decide) (by decide) rfl) hS1 ?_
  refine Pl.H.take 8 171 (.bool true) (by kernel_rfl) (by kernel_rfl) (by kernel_rfl) (Pl.free 8 (by kernel_rfl)) (Pl.move 8 (.tmp 170) (by kernel_rfl) (by decide)) hS1 ?_
  refine Pl.H.take 9 172 (la.val sd) (by kernel_rfl) (by kernel_rfl) (by kernel_rfl) (Pl.guarded 9 8 171 true (by kernel_rfl) (by kernel_rfl) (by decide) rfl) (Pl.load 9 24 (.tmp 15) _ (by kernel_rfl) (by decide) (fun w' hS => load_tb d la sd w' (hD.keep hS).blk)) hS1 ?_
  refine Pl.H.call 10 173 10 [(.tmp 172)] #[24] (by kernel_rfl) (by kernel_rfl) (by kernel_rfl) (Pl.guarded 10 8 171 true (by kernel_rfl) (by kernel_rfl) (by decide) rfl) (by kernel_rfl) (by decide) enters10 (Calls.mono (mayTIs hla sd w1 (hD.keep hS1).es) ?_)
  rintro e w2 ⟨rfl, hb2⟩
  have hS2 : Below w0.heap.size w0 w2 := rBelowT hS1 hb2
  refine ⟨.bool true, rfl, hS2, ?_⟩
  refine Pl.H.take 11 174 (.bool true) (by kernel_rfl) (by kernel_rfl) (by kernel_rfl) (Pl.free 11 (by kernel_rfl)) (Pl.pick 11 (.tmp 171) (.tmp 173) (.const (.bool false)) (by kernel_rfl) (by decide) (by decide) rfl) hS2 ?_
  refine Pl.H.take 12 175 (.bool true) (by kernel_rfl) (by kernel_rfl) (by kernel_rfl) (Pl.free 12 (by kernel_rfl)) (Pl.move 12 (.tmp 174) (by kernel_rfl) (by decide)) hS2 ?_
  refine Pl.H.take 13 176 (t.val v) (by kernel_rfl) (by kernel_rfl) (by kernel_rfl) (Pl.guarded 13 12 175 true (by kernel_rfl) (by kernel_rfl) (by decide) rfl) (Pl.load 13 24 (.tmp 3) _ (by kernel_rfl) (by decide) (fun w' hS => load_tb p t v w' (hP.keep hS).blk)) hS2 ?_
  refine Pl.H.take 14 177 (.int .i64 tx) (by kernel_rfl) (by kernel_rfl) (by kernel_rfl) (Pl.guarded 14 12 175 true (by kernel_rfl) (by kernel_rfl) (by decide) rfl) (Pl.move 14 (.tmp 1) (by kernel_rfl) (by decide)) hS2 ?_
  refine Pl.H.take 16 179 (t.val v) (by kernel_rfl) (by kernel_rfl) (by kernel_rfl) (Pl.guarded 16 12 175 true (by kernel_rfl) (by kernel_rfl) (by decide) rfl) (Pl.load 16 24 (.tmp 3) _ (by kernel_rfl) (by decide) (fun w' hS => load_tb p t v w' (hP.keep hS).blk)) hS2 ?_
  refine Pl.H.take 17 180 (.int .i64 tx) (by kernel_rfl) (by kernel_rfl) (by kernel_rfl) (Pl.guarded 17 12 175 true (by kernel_rfl) (by kernel_rfl) (by decide) rfl) (Pl.move 17 (.tmp 1) (by kernel_rfl) (by decide)) hS2 ?_
  refine Pl.H.call 15 178 14 [(.tmp 176), (.tmp 177)] #[24, 3] (by kernel_rfl) (by kernel_rfl) (by kernel_rfl) (Pl.guarded 15 12 175 true (by kernel_rfl) (by kernel_rfl) (by decide) rfl) (by kernel_rfl) (by decide) enters14 (Calls.mono (find_yes H hm v tx w2 (hP.keep hS2).es) ?_)
  rintro e w3 ⟨rfl, hb3⟩
  have hS3 : Below w0.heap.size w0 w3 := rBelowT hS2 hb3
  refine ⟨.int .i64 (ixN (findN t tx)), rfl, hS3, ?_⟩
  refine Pl.H.call 18 181 30 [(.tmp 179), (.tmp 180)] #[24, 3] (by kernel_rfl) (by kernel_rfl) (by kernel_rfl) (Pl.guarded 18 12 175 true (by kernel_rfl) (by kernel_rfl) (by decide) rfl) (by kernel_rfl) (by decide) enters30 (Calls.mono (rfindT_any t v tx w3 (hP.keep hS3).es) ?_)
  rintro e w4 ⟨rfl, hb4⟩
  have hS4 : Below w0.heap.size w0 w4 := rBelowT hS3 hb4
  refine ⟨.int .i64 (ixN (findN t tx)), rfl, hS4, ?_⟩
  refine Pl.H.take 19 182 (.bool true) (by kernel_rfl) (by kernel_rfl) (by kernel_rfl) (Pl.guarded 19 12 175 true (by kernel_rfl) (by kernel_rfl) (by decide) rfl) (Pl.binV 19 .eql 3 3 (.tmp 178) (.tmp 181) (.int .i64 (ixN (findN t tx))) (.int .i64 (ixN (findN t tx))) _ (by kernel_rfl) (by decide) (by decide) rfl rfl (fun w => by simp [go_sem, eqGuard])) hS4 ?_
  refine Pl.H.take 20 183 (.bool true) (by kernel_rfl) (by kernel_rfl) (by kernel_rfl) (Pl.free 20 (by kernel_rfl)) (Pl.pick 20 (.tmp 175) (.tmp 182) (.const (.bool false)) (by kernel_rfl) (by decide) (by decide) rfl) hS4 ?_
  refine Pl.H.take 21 184 (.bool true) (by kernel_rfl) (by kernel_rfl) (by kernel_rfl) (Pl.free 21 (by kernel_rfl)) (Pl.move 21 (.tmp 183) (by kernel_rfl) (by decide)) hS4 ?_
  refine Pl.H.take 22 185 (t.val v) (by kernel_rfl) (by kernel_rfl) (by kernel_rfl) (Pl.guarded 22 21 184 true (by kernel_rfl) (by kernel_rfl) (by decide) rfl) (Pl.load 22 24 (.tmp 3) _ (by kernel_rfl) (by decide) (fun w' hS => load_tb p t v w' (hP.keep hS).blk)) hS4 ?_
  refine Pl.H.take 24 187 (t.val v) (by kernel_rfl) (by kernel_rfl) (by kernel_rfl) (Pl.guarded 24 21 184 true (by kernel_rfl) (by kernel_rfl) (by decide) rfl) (Pl.load 24 24 (.tmp 3) _ (by kernel_rfl) (by decide) (fun w' hS => load_tb p t v w' (hP.keep hS).blk)) hS4 ?_
  refine Pl.H.call 23 186 12 [(.tmp 185)] #[24] (by kernel_rfl) (by kernel_rfl) (by kernel_rfl) (Pl.guarded 23 21 184 true (by kernel_rfl) (by kernel_rfl) (by decide) rfl) (by kernel_rfl) (by decide) enters12 (Calls.mono (live_yes H hm v w4 (hP.keep hS4).es) ?_)
  rintro e w5 ⟨ka5, kc5, rfl, hk5, hb5⟩
  have hS5 : Below w0.heap.size w0 w5 := rBelowT hS4 hb5
  refine ⟨.slice ka5 (liveT t).length kc5, rfl, hS5, ?_⟩
  refine Pl.H.call 25 188 32 [(.tmp 187)] #[24] (by kernel_rfl) (by kernel_rfl) (by kernel_rfl) (Pl.guarded 25 21 184 true (by kernel_rfl) (by kernel_rfl) (by decide) rfl) (by kernel_rfl) (by decide) enters32 (Calls.mono (rlive_yes hm v w5 (hP.keep hS5).es) ?_)
  rintro e w6 ⟨ka6, kc6, rfl, hk6, hb6⟩
  have hS6 : Below w0.heap.size w0 w6 := rBelowT hS5 hb6
  refine ⟨.slice ka6 (liveT t).length kc6, rfl, hS6, ?_⟩
  refine Pl.H.call 26 189 31 [(.tmp 186), (.tmp 188)] #[32, 32] (by kernel_rfl) (by kernel_rfl) (by kernel_rfl) (Pl.guarded 26 21 184 true (by kernel_rfl) (by kernel_rfl) (by decide) rfl) (by kernel_rfl) (by decide) enters31 (Calls.mono (ints_yes ka5 ka6 kc5 kc6 (liveT t) (liveT t).length w6 (hk5.keep hb6 (Nat.le_refl _)) hk6 (liveT_few hm)) ?_)
  rintro e w7 ⟨rfl, hb7⟩
  have hS7 : Below w0.heap.size w0 w7 := rBelowT hS6 hb7
  refine ⟨.bool true, rfl, hS7, ?_⟩
  refine Pl.H.take 27 190 (.bool true) (by kernel_rfl) (by kernel_rfl) (by kernel_rfl) (Pl.free 27 (by kernel_rfl)) (Pl.pick 27 (.tmp 184) (.tmp 189) (.const (.bool false)) (by kernel_rfl) (by decide) (by decide) rfl) hS7 ?_
  refine Pl.H.take 28 191 (.bool true) (by kernel_rfl) (by kernel_rfl) (by kernel_rfl) (Pl.free 28 (by kernel_rfl)) (Pl.move 28 (.tmp 190) (by kernel_rfl) (by decide)) hS7 ?_
  refine Pl.H.take 29 192 (t.val v) (by kernel_rfl) (by kernel_rfl) (by kernel_rfl) (Pl.guarded 29 28 191 true (by kernel_rfl) (by kernel_rfl) (by decide) rfl) (Pl.load 29 24 (.tmp 3) _ (by kernel_rfl) (by decide) (fun w' hS => load_tb p t v w' (hP.keep hS).blk)) hS7 ?_
  refine Pl.H.take 31 194 (t.val v) (by kernel_rfl) (by kernel_rfl) (by kernel_rfl) (Pl.guarded 31 28 191 true (by kernel_rfl) (by kernel_rfl) (by decide) rfl) (Pl.load 31 24 (.tmp 3) _ (by kernel_rfl) (by decide) (fun w' hS => load_tb p t v w' (hP.keep hS).blk)) hS7 ?_
  refine Pl.H.call 30 193 13 [(.tmp 192)] #[24] (by kernel_rfl) (by kernel_rfl) (by kernel_rfl) (Pl.guarded 30 28 191 true (by kernel_rfl) (by kernel_rfl) (by decide) rfl) (by kernel_rfl) (by decide) enters13 (Calls.mono (eld_yes H hm v w7 (hP.keep hS7).es) ?_)
  rintro e w8 ⟨rfl, hb8⟩
  have hS8 : Below w0.heap.size w0 w8 := rBelowT hS7 hb8
  refine ⟨.int .i64 (eldestT t), rfl, hS8, ?_⟩
  refine Pl.H.call 32 195 33 [(.tmp 194)] #[24] (by kernel_rfl) (by kernel_rfl) (by kernel_rfl) (Pl.guarded 32 28 191 true (by kernel_rfl) (by kernel_rfl) (by decide) rfl) (by kernel_rfl) (by decide) enters33 (Calls.mono (reldT_any t v w8 (hP.keep hS8).es) ?_)
  rintro e w9 ⟨rfl, hb9⟩
  have hS9 : Below w0.heap.size w0 w9 := rBelowT hS8 hb9
  refine ⟨.int .i64 (eldestT t), rfl, hS9, ?_⟩
  refine Pl.H.take 33 196 (.bool true) (by kernel_rfl) (by kernel_rfl) (by kernel_rfl) (Pl.guarded 33 28 191 true (by kernel_rfl) (by kernel_rfl) (by decide) rfl) (Pl.binV 33 .eql 3 3 (.tmp 193) (.tmp 195) (.int .i64 (eldestT t)) (.int .i64 (eldestT t)) _ (by kernel_rfl) (by decide) (by decide) rfl rfl (fun w => by simp [go_sem, eqGuard])) hS9 ?_
  refine Pl.H.take 34 197 (.bool true) (by kernel_rfl) (by kernel_rfl) (by kernel_rfl) (Pl.free 34 (by kernel_rfl)) (Pl.pick 34 (.tmp 191) (.tmp 196) (.const (.bool false)) (by kernel_rfl) (by decide) (by decide) rfl) hS9 ?_
  refine Pl.H.take 35 198 (.bool true) (by kernel_rfl) (by kernel_rfl) (by kernel_rfl) (Pl.free 35 (by kernel_rfl)) (Pl.move 35 (.tmp 197) (by kernel_rfl) (by decide)) hS9 ?_
  refine Pl.H.take 36 199 (t.val v) (by kernel_rfl) (by kernel_rfl) (by kernel_rfl) (Pl.guarded 36 35 198 true (by kernel_rfl) (by kernel_rfl) (by decide) rfl) (Pl.load 36 24 (.tmp 3) _ (by kernel_rfl) (by decide) (fun w' hS => load_tb p t v w' (hP.keep hS).blk)) hS9 ?_
  refine Pl.H.take 37 200 (ea.val sa) (by kernel_rfl) (by kernel_rfl) (by kernel_rfl) (Pl.guarded 37 35 198 true (by kernel_rfl) (by kernel_rfl) (by decide) rfl) (Pl.load 37 24 (.tmp 7) _ (by kernel_rfl) (by decide) (fun w' hS => load_tb a ea sa w' (hA1.keep hS).blk)) hS9 ?_
  refine Pl.H.take 39 202 (t.val v) (by kernel_rfl) (by kernel_rfl) (by kernel_rfl) (Pl.guarded 39 35 198 true (by kernel_rfl) (by kernel_rfl) (by decide) rfl) (Pl.load 39 24 (.tmp 3) _ (by kernel_rfl) (by decide) (fun w' hS => load_tb p t v w' (hP.keep hS).blk)) hS9 ?_
  refine Pl.H.take 40 203 (ea.val sa) (by kernel_rfl) (by kernel_rfl) (by kernel_rfl) (Pl.guarded 40 35 198 true (by kernel_rfl) (by kernel_rfl) (by decide) rfl) (Pl.load 40 24 (.tmp 7) _ (by kernel_rfl) (by decide) (fun w' hS => load_tb a ea sa w' (hA1.keep hS).blk)) hS9 ?_
  refine Pl.H.call 38 201 34 [(.tmp 199), (.tmp 200)] #[24, 24] (by kernel_rfl) (by kernel_rfl) (by kernel_rfl) (Pl.guarded 38 35 198 true (by kernel_rfl) (by kernel_rfl) (by decide) rfl) (by kernel_rfl) (by decide) enters34 (Calls.mono (H.same t v ea sa w9 (hP.keep hS9).es (hA1.keep hS9).es (hP.may hm) (hA1.may hea)) ?_)
  rintro e w10 ⟨rfl, hb10⟩
  have hS10 : Below w0.heap.size w0 w10 := rBelowT hS9 hb10
  refine ⟨.bool (sameT t ea), rfl, hS10, ?_⟩
  refine Pl.H.call 41 204 17 [(.tmp 202), (.tmp 203)] #[24, 24] (by kernel_rfl) (by kernel_rfl) (by kernel_rfl) (Pl.guarded 41 35 198 true (by kernel_rfl) (by kernel_rfl) (by decide) rfl) (by kernel_rfl) (by decide) enters17 (Calls.mono (rsameT_any t v ea sa w10 (hP.keep hS10).es (hA1.keep hS10).es) ?_)
  rintro e w11 ⟨rfl, hb11⟩
  have hS11 : Below w0.heap.size w0 w11 := rBelowT hS10 hb11
  refine ⟨.bool (sameT t ea), rfl, hS11, ?_⟩
  refine Pl.H.take 42 205 (.bool true) (by kernel_rfl) (by kernel_rfl) (by kernel_rfl) (Pl.guarded 42 35 198 true (by kernel_rfl) (by kernel_rfl) (by decide) rfl) (Pl.binV 42 .eql 4 4 (.tmp 201) (.tmp 204) (.bool (sameT t ea)) (.bool (sameT t ea)) _ (by kernel_rfl) (by decide) (by decide) rfl rfl (fun w => by simp [go_sem, eqGuard])) hS11 ?_
  refine Pl.H.take 43 206 (.bool true) (by kernel_rfl) (by kernel_rfl) (by kernel_rfl) (Pl.free 43 (by kernel_rfl)) (Pl.pick 43 (.tmp 198) (.tmp 205) (.const (.bool false)) (by kernel_rfl) (by decide) (by decide) rfl) hS11 ?_
  refine Pl.H.take 44 207 (.bool true) (by kernel_rfl) (by kernel_rfl) (by kernel_rfl) (Pl.free 44 (by kernel_rfl)) (Pl.move 44 (.tmp 206) (by kernel_rfl) (by decide)) hS11 ?_
  refine Pl.H.call 45 208 8 [] #[] (by kernel_rfl) (by kernel_rfl) (by kernel_rfl) (Pl.guarded 45 44 207 true (by kernel_rfl) (by kernel_rfl) (by decide) rfl) (by kernel_rfl) (by decide) enters8 (Calls.mono (H.awake w11) ?_)
  rintro e w12 ⟨rfl, hb12⟩
  have hS12 : Below w0.heap.size w0 w12 := rBelowT hS11 hb12
  refine ⟨.bool true, rfl, hS12, ?_⟩
  refine Pl.H.take 46 209 (.bool true) (by kernel_rfl) (by kernel_rfl) (by kernel_rfl) (Pl.free 46 (by kernel_rfl)) (Pl.pick 46 (.tmp 207) (.tmp 208) (.const (.bool false)) (by kernel_rfl) (by decide) (by decide) rfl) hS12 ?_
  refine Pl.H.take 47 6 (.bool true) (by kernel_rfl) (by kernel_rfl) (by kernel_rfl) (Pl.free 47 (by kernel_rfl)) (Pl.assign 47 (.tmp 209) (by kernel_rfl) (by decide)) hS12 ?_
  refine Pl.H.done (by kernel_rfl) (fun A' hA' => ?_)
  rw [Pl.At.ext hA' ((((((((((((((((((((((((((((((((((((((((((((((((hA.put 163 _).put 164 _).put 165 _).put 166 _).put 167 _).put 168 _).put 169 _).put 170 _).put 171 _).put 172 _).put 173 _).put 174 _).put 175 _).put 176 _).put 177 _).put 179 _).put 180 _).put 178 _).put 181 _).put 182 _).put 183 _).put 184 _).put 185 _).put 187 _).put 186 _).put 188 _).put 189 _).put 190 _).put 191 _).put 192 _).put 194 _).put 193 _).put 195 _).put 196 _).put 197 _).put 198 _).put 199 _).put 200 _).put 202 _).put 203 _).put 201 _).put 204 _).put 205 _).put 206 _).put 207 _).put 208 _).put 209 _).put 6 _)]
  exact hend (fun d => if d = 163 then la.val sd else if d = 164 then la.val sx else if d = 165 then .bool true else if d = 166 then .bool true else if d = 167 then .int .i64 le else if d = 168 then .int .i64 le else if d = 169 then .bool true else if d = 170 then .bool true else if d = 171 then .bool true else if d = 172 then la.val sd else if d = 173 then .bool true else if d = 174 then .bool true else if d = 175 then .bool true else if d = 176 then t.val v else if d = 177 then .int .i64 tx else if d = 179 then t.val v else if d = 180 then .int .i64 tx else if d = 178 then .int .i64 (ixN (findN t tx)) else if d = 181 then .int .i64 (ixN (findN t tx)) else if d = 182 then .bool true else if d = 183 then .bool true else if d = 184 then .bool true else if d = 185 then t.val v else if d = 187 then t.val v else if d = 186 then .slice ka5 (liveT t).length kc5 else if d = 188 then .slice ka6 (liveT t).length kc6 else if d = 189 then .bool true else if d = 190 then .bool true else if d = 191 then .bool true else if d = 192 then t.val v else if d = 194 then t.val v else if d = 193 then .int .i64 (eldestT t) else if d = 195 then .int .i64 (eldestT t) else if d = 196 then .bool true else if d = 197 then .bool true else if d = 198 then .bool true else if d = 199 then t.val v else if d = 200 then ea.val sa else if d = 202 then t.val v else if d = 203 then ea.val sa else if d = 201 then .bool (sameT t ea) else if d = 204 then .bool (sameT t ea) else if d = 205 then .bool true else if d = 206 then .bool true else if d = 207 then .bool true else if d = 208 then .bool true else if d = 209 then .bool true else undef) _ hS12

set_option maxHeartbeats 8000000 in
set_option maxRecDepth 100000 in
theorem turnsT_no (H : TableS) (t : Tb) (v : Sl) (tx c : Int) (w : World) (h : Es w v t.es) (hl : v.len ≤ 40) (hm : mayB t = false) :
    Calls Try.prog 5 #[t.val v, .int .i64 tx, .int .i64 c] w fun e w' => e = .returned (.bool true) ∧ Below w.heap.size w w' := by
  have HM := hide hm
  clear hm
  have hb0 := below_box w t v
  have HB := hide hb0
  have HXp : Hid (Bx _ w.heap.size t v) := ⟨TbBlk.new w t v, h.keep hb0 (Nat.le_refl _)⟩
  have HAW := hide H.awake
  have HH := hide H
  clear h hb0 H
  obtain ⟨va, vl, vc⟩ := v
  simp only at hl
  have hvl : (⟨va, vl, vc⟩ : Sl).len ≤ 100 := by show vl ≤ 100; omega
  have HVL := hide hvl
  clear hvl
  unfold Tb.val
  have i1 : ¬ (40 : Int) < ((vl : Nat) : Int) := by omega
  go_enter Try.func5, Try.ntmps5
  simp only at HB HXp
  generalize hW0 : w.alloc (.cells #[.int .i64 t.nx, .int .i64 t.no, .int .i64 t.cm, .slice va vl vc] 24) = W0 at *
  have pc0 := HXp.out.blk.c0
  have pc1 := HXp.out.blk.c1
  have pc2 := HXp.out.blk.c2
  have pc3 := HXp.out.blk.c3
  have hcw1 := HH.out.ent t ⟨va, vl, vc⟩ tx W0 HXp.out.es HVL.out
  rw [enterL_no HM.out] at hcw1
  simp only at hcw1
  have HCw1 := hide hcw1
  clear hcw1
  go_wp2_with fail
  refine HCw1.out.mono ?_
  rintro e w1 ⟨sw1, rfl, hew1, hbw1⟩
  clear pc0 pc1 pc2 pc3
  replace HXp := hide (HXp.out.keep hbw1)
  replace HB := hide (rBelow HB.out hbw1)
  obtain ⟨Ww1, hstw1, hbxw1, hbbw1⟩ := bxT w1 Tb.zero sw1 hew1
  have HSTw1 := hide hstw1
  replace HXp := hide (HXp.out.keep hbbw1)
  replace HB := hide (rBelow HB.out hbbw1)
  have HXa := hide hbxw1
  clear hstw1 hbxw1 hbbw1 hew1 hbw1
  have pc0 := HXp.out.blk.c0
  have pc1 := HXp.out.blk.c1
  have pc2 := HXp.out.blk.c2
  have pc3 := HXp.out.blk.c3
  have hcw2 := HH.out.wri t ⟨va, vl, vc⟩ tx c Ww1 HXp.out.es HVL.out
  rw [writeL_no HM.out] at hcw2
  simp only at hcw2
  have HCw2 := hide hcw2
  clear hcw2
  go_wp2_with (refine wpList_store _ rfl rfl 24 (.tmp 7) (.tmp 29) rfl (.pointer (some ⟨w1.heap.size, 0, none⟩)) (Tb.zero.val sw1) rfl rfl Ww1 HSTw1.out ?_)
  refine HCw2.out.mono ?_
  rintro e w2 ⟨sw2, rfl, hew2, hbw2⟩
  clear pc0 pc1 pc2 pc3
  replace HXp := hide (HXp.out.keep hbw2)
  replace HXa := hide (HXa.out.keep hbw2)
  replace HB := hide (rBelow HB.out hbw2)
  obtain ⟨Ww2, hstw2, hbxw2, hbbw2⟩ := bxT w2 Tb.zero sw2 hew2
  have HSTw2 := hide hstw2
  replace HXp := hide (HXp.out.keep hbbw2)
  replace HXa := hide (HXa.out.keep hbbw2)
  replace HB := hide (rBelow HB.out hbbw2)
  have HXb := hide hbxw2
  clear hstw2 hbxw2 hbbw2 hew2 hbw2
  have pc0 := HXp.out.blk.c0
  have pc1 := HXp.out.blk.c1
  have pc2 := HXp.out.blk.c2
  have pc3 := HXp.out.blk.c3
  have hcw3 := HH.out.com t ⟨va, vl, vc⟩ tx Ww2 HXp.out.es HVL.out
  rw [commitL_no HM.out] at hcw3
  simp only at hcw3
  have HCw3 := hide hcw3
  clear hcw3
  go_wp2_with (refine wpList_store _ rfl rfl 24 (.tmp 10) (.tmp 37) rfl (.pointer (some ⟨w2.heap.size, 0, none⟩)) (Tb.zero.val sw2) rfl rfl Ww2 HSTw2.out ?_)
  refine HCw3.out.mono ?_
  rintro e w3 ⟨sw3, rfl, hew3, hbw3⟩
  clear pc0 pc1 pc2 pc3
  replace HXp := hide (HXp.out.keep hbw3)
  replace HXa := hide (HXa.out.keep hbw3)
  replace HXb := hide (HXb.out.keep hbw3)
  replace HB := hide (rBelow HB.out hbw3)
  obtain ⟨Ww3, hstw3, hbxw3, hbbw3⟩ := bxT w3 Tb.zero sw3 hew3
  have HSTw3 := hide hstw3
  replace HXp := hide (HXp.out.keep hbbw3)
  replace HXa := hide (HXa.out.keep hbbw3)
  replace HXb := hide (HXb.out.keep hbbw3)
  replace HB := hide (rBelow HB.out hbbw3)
  have HXc := hide hbxw3
  clear hstw3 hbxw3 hbbw3 hew3 hbw3
  have pc0 := HXp.out.blk.c0
  have pc1 := HXp.out.blk.c1
  have pc2 := HXp.out.blk.c2
  have pc3 := HXp.out.blk.c3
  have hcw4 := HH.out.lea t ⟨va, vl, vc⟩ tx Ww3 HXp.out.es HVL.out
  rw [leaveL_no HM.out] at hcw4
  simp only at hcw4
  have HCw4 := hide hcw4
  clear hcw4
  go_wp2_with (refine wpList_store _ rfl rfl 24 (.tmp 12) (.tmp 43) rfl (.pointer (some ⟨w3.heap.size, 0, none⟩)) (Tb.zero.val sw3) rfl rfl Ww3 HSTw3.out ?_)
  refine HCw4.out.mono ?_
  rintro e w4 ⟨sw4, rfl, hew4, hbw4⟩
  clear pc0 pc1 pc2 pc3
  replace HXp := hide (HXp.out.keep hbw4)
  replace HXa := hide (HXa.out.keep hbw4)
  replace HXb := hide (HXb.out.keep hbw4)
  replace HXc := hide (HXc.out.keep hbw4)
  replace HB := hide (rBelow HB.out hbw4)
  obtain ⟨Ww4, hstw4, hbxw4, hbbw4⟩ := bxT w4 Tb.zero sw4 hew4
  have HSTw4 := hide hstw4
  replace HXp := hide (HXp.out.keep hbbw4)
  replace HXa := hide (HXa.out.keep hbbw4)
  replace HXb := hide (HXb.out.keep hbbw4)
  replace HXc := hide (HXc.out.keep hbbw4)
  replace HB := hide (rBelow HB.out hbbw4)
  have HXd := hide hbxw4
  clear hstw4 hbxw4 hbbw4 hew4 hbw4
  have pc0 := HXp.out.blk.c0
  have pc1 := HXp.out.blk.c1
  have pc2 := HXp.out.blk.c2
  have pc3 := HXp.out.blk.c3
  have HMy := hide (mayTIs HM.out ⟨va, vl, vc⟩ Ww4 HXp.out.es)
  go_wp2_with (refine wpList_store _ rfl rfl 24 (.tmp 15) (.tmp 50) rfl (.pointer (some ⟨w4.heap.size, 0, none⟩)) (Tb.zero.val sw4) rfl rfl Ww4 HSTw4.out ?_)
  refine HMy.out.mono ?_
  rintro e w5 ⟨rfl, hbw5⟩
  clear pc0 pc1 pc2 pc3
  replace HXp := hide (HXp.out.keep hbw5)
  replace HXa := hide (HXa.out.keep hbw5)
  replace HXb := hide (HXb.out.keep hbw5)
  replace HXc := hide (HXc.out.keep hbw5)
  replace HXd := hide (HXd.out.keep hbw5)
  replace HB := hide (rBelow HB.out hbw5)
  clear hbw5
  have ac0 := HXa.out.blk.c0
  have ac1 := HXa.out.blk.c1
  have ac2 := HXa.out.blk.c2
  have ac3 := HXa.out.blk.c3
  have HNw6 := hide (noneT_any sw1 w5 HXa.out.es)
  go_wp2_with fail
  refine HNw6.out.mono ?_
  rintro e w6 ⟨rfl, hbw6⟩
  clear ac0 ac1 ac2 ac3
  replace HXp := hide (HXp.out.keep hbw6)
  replace HXa := hide (HXa.out.keep hbw6)
  replace HXb := hide (HXb.out.keep hbw6)
  replace HXc := hide (HXc.out.keep hbw6)
  replace HXd := hide (HXd.out.keep hbw6)
  replace HB := hide (rBelow HB.out hbw6)
  clear hbw6
  have bc0 := HXb.out.blk.c0
  have bc1 := HXb.out.blk.c1
  have bc2 := HXb.out.blk.c2
  have bc3 := HXb.out.blk.c3
  have HNw7 := hide (noneT_any sw2 w6 HXb.out.es)
  go_wp2_with fail
  refine HNw7.out.mono ?_
  rintro e w7 ⟨rfl, hbw7⟩
  clear bc0 bc1 bc2 bc3
  replace HXp := hide (HXp.out.keep hbw7)
  replace HXa := hide (HXa.out.keep hbw7)
  replace HXb := hide (HXb.out.keep hbw7)
  replace HXc := hide (HXc.out.keep hbw7)
  replace HXd := hide (HXd.out.keep hbw7)
  replace HB := hide (rBelow HB.out hbw7)
  clear hbw7
  have cc0 := HXc.out.blk.c0
  have cc1 := HXc.out.blk.c1
  have cc2 := HXc.out.blk.c2
  have cc3 := HXc.out.blk.c3
  have HNw8 := hide (noneT_any sw3 w7 HXc.out.es)
  go_wp2_with fail
  refine HNw8.out.mono ?_
  rintro e w8 ⟨rfl, hbw8⟩
  clear cc0 cc1 cc2 cc3
  replace HXp := hide (HXp.out.keep hbw8)
  replace HXa := hide (HXa.out.keep hbw8)
  replace HXb := hide (HXb.out.keep hbw8)
  replace HXc := hide (HXc.out.keep hbw8)
  replace HXd := hide (HXd.out.keep hbw8)
  replace HB := hide (rBelow HB.out hbw8)
  clear hbw8
  have dc0 := HXd.out.blk.c0
  have dc1 := HXd.out.blk.c1
  have dc2 := HXd.out.blk.c2
  have dc3 := HXd.out.blk.c3
  have HNw9 := hide (noneT_any sw4 w8 HXd.out.es)
  go_wp2_with fail
  refine HNw9.out.mono ?_
  rintro e w9 ⟨rfl, hbw9⟩
  clear dc0 dc1 dc2 dc3
  replace HXp := hide (HXp.out.keep hbw9)
  replace HXa := hide (HXa.out.keep hbw9)
  replace HXb := hide (HXb.out.keep hbw9)
  replace HXc := hide (HXc.out.keep hbw9)
  replace HXd := hide (HXd.out.keep hbw9)
  replace HB := hide (rBelow HB.out hbw9)
  clear hbw9
  go_wp2_with fail
  refine (HAW.out _).mono ?_
  rintro e w10 ⟨rfl, hbw10⟩
  replace HXp := hide (HXp.out.keep hbw10)
  replace HXa := hide (HXa.out.keep hbw10)
  replace HXb := hide (HXb.out.keep hbw10)
  replace HXc := hide (HXc.out.keep hbw10)
  replace HXd := hide (HXd.out.keep hbw10)
  replace HB := hide (rBelow HB.out hbw10)
  clear hbw10
  go_wp2_with fail
  go_ret
  exact ⟨by simp, HB.out⟩

set_option maxHeartbeats 8000000 in
set_option maxRecDepth 100000 in
theorem turnsT_yes (H : TableS) (t : Tb) (v : Sl) (tx c : Int) (w : World) (h : Es w v t.es) (hl : v.len ≤ 40) (hm : t.May) :
    Calls Try.prog 5 #[t.val v, .int .i64 tx, .int .i64 c] w fun e w' => e = .returned (.bool true) ∧ Below w.heap.size w w' := by
  have HM := hide hm
  have q1 : Hid (∀ v w, Es w v t.es → v.len ≤ 100 → Calls Try.prog 21 #[t.val v, .int .i64 tx] w (TbTold (enterT t tx).1 w (fun x => .tuple #[x, .int .i64 (enterT t tx).2.1, .int .i64 (enterT t tx).2.2]))) := fun v w h k => by have := H.ent t v tx w h k; rw [enterL_yes hm] at this; exact this
  have q2 : Hid (∀ v w, Es w v t.es → v.len ≤ 100 → Calls Try.prog 22 #[t.val v, .int .i64 tx, .int .i64 c] w (TbTold (writeT t tx c).1 w (fun x => .tuple #[x, .int .i64 (writeT t tx c).2]))) := fun v w h k => by have := H.wri t v tx c w h k; rw [writeL_yes hm] at this; exact this
  have q3 : Hid (∀ v w, Es w v t.es → v.len ≤ 100 → Calls Try.prog 23 #[t.val v, .int .i64 tx] w (TbTold (commitT t tx).1 w (fun x => .tuple #[x, .int .i64 (commitT t tx).2.1, .int .i64 (commitT t tx).2.2]))) := fun v w h k => by have := H.com t v tx w h k; rw [commitL_yes hm] at this; exact this
  have q4 : Hid (∀ v w, Es w v t.es → v.len ≤ 100 → Calls Try.prog 24 #[t.val v, .int .i64 tx] w (TbTold (leaveT t tx).1 w (fun x => .tuple #[x, .int .i64 (leaveT t tx).2]))) := fun v w h k => by have := H.lea t v tx w h k; rw [leaveL_yes hm] at this; exact this
  have r1 : Hid (∀ v w, Es w v t.es → v.len ≤ 100 → Calls Try.prog 26 #[t.val v, .int .i64 tx] w (TbTold (enterT t tx).1 w (fun x => .tuple #[x, .int .i64 (enterT t tx).2.1, .int .i64 (enterT t tx).2.2]))) := fun v w h k => renterT_any t v tx w h (by omega)
  have r2 : Hid (∀ v w, Es w v t.es → v.len ≤ 100 → Calls Try.prog 27 #[t.val v, .int .i64 tx, .int .i64 c] w (TbTold (writeT t tx c).1 w (fun x => .tuple #[x, .int .i64 (writeT t tx c).2]))) := fun v w h k => rwriteT_any t v tx c w h (by omega) hm.no
  have r3 : Hid (∀ v w, Es w v t.es → v.len ≤ 100 → Calls Try.prog 28 #[t.val v, .int .i64 tx] w (TbTold (commitT t tx).1 w (fun x => .tuple #[x, .int .i64 (commitT t tx).2.1, .int .i64 (commitT t tx).2.2]))) := fun v w h k => rcommitT_any t v tx w h (by omega) hm.cm
  have r4 : Hid (∀ v w, Es w v t.es → v.len ≤ 100 → Calls Try.prog 29 #[t.val v, .int .i64 tx] w (TbTold (leaveT t tx).1 w (fun x => .tuple #[x, .int .i64 (leaveT t tx).2]))) := fun v w h k => rleaveT_any t v tx w h (by omega)
  have m1 := hide (enter_may hm tx)
  have m2 := hide (write_may hm tx c)
  have m3 := hide (commit_may hm tx)
  have m4 := hide (leave_may hm tx)
  clear hm
  generalize (enterT t tx).2.1 = ei at *
  generalize (enterT t tx).2.2 = ee at *
  generalize (enterT t tx).1 = ea at *
  generalize (writeT t tx c).2 = we at *
  generalize (writeT t tx c).1 = wa at *
  generalize (commitT t tx).2.1 = ci at *
  generalize (commitT t tx).2.2 = ce at *
  generalize (commitT t tx).1 = ca at *
  generalize (leaveT t tx).2 = le at *
  generalize (leaveT t tx).1 = la at *
  have hb0 := below_box w t v
  have HB := hide hb0
  have HXp : Hid (Bx _ w.heap.size t v) := ⟨TbBlk.new w t v, h.keep hb0 (Nat.le_refl _)⟩
  have HAW := hide H.awake
  have HH := hide H
  clear h hb0 H
  obtain ⟨va, vl, vc⟩ := v
  simp only at hl
  have hvl : (⟨va, vl, vc⟩ : Sl).len ≤ 100 := by show vl ≤ 100; omega
  have HVL := hide hvl
  clear hvl
  unfold Tb.val
  have i1 : ¬ (40 : Int) < ((vl : Nat) : Int) := by omega
  go_enter Try.func5, Try.ntmps5
  simp only at HB HXp
  generalize hW0 : w.alloc (.cells #[.int .i64 t.nx, .int .i64 t.no, .int .i64 t.cm, .slice va vl vc] 24) = W0 at *
  have pc0 := HXp.out.blk.c0
  have pc1 := HXp.out.blk.c1
  have pc2 := HXp.out.blk.c2
  have pc3 := HXp.out.blk.c3
  have HCw1 := hide (q1.out ⟨va, vl, vc⟩ W0 HXp.out.es HVL.out)
  go_wp2_with fail
  refine HCw1.out.mono ?_
  rintro e w1 ⟨sw1, rfl, hew1, hbw1⟩
  clear pc0 pc1 pc2 pc3
  replace HXp := hide (HXp.out.keep hbw1)
  replace HB := hide (rBelow HB.out hbw1)
  obtain ⟨Ww1, hstw1, hbxw1, hbbw1⟩ := bxT w1 ea sw1 hew1
  have HSTw1 := hide hstw1
  replace HXp := hide (HXp.out.keep hbbw1)
  replace HB := hide (rBelow HB.out hbbw1)
  have HXa := hide hbxw1
  clear hstw1 hbxw1 hbbw1 hew1 hbw1
  have pc0 := HXp.out.blk.c0
  have pc1 := HXp.out.blk.c1
  have pc2 := HXp.out.blk.c2
  have pc3 := HXp.out.blk.c3
  have HCw2 := hide (q2.out ⟨va, vl, vc⟩ Ww1 HXp.out.es HVL.out)
  go_wp2_with (refine wpList_store _ rfl rfl 24 (.tmp 7) (.tmp 29) rfl (.pointer (some ⟨w1.heap.size, 0, none⟩)) (ea.val sw1) rfl rfl Ww1 HSTw1.out ?_)
  refine HCw2.out.mono ?_
  rintro e w2 ⟨sw2, rfl, hew2, hbw2⟩
  clear pc0 pc1 pc2 pc3
  replace HXp := hide (HXp.out.keep hbw2)
  replace HXa := hide (HXa.out.keep hbw2)
  replace HB := hide (rBelow HB.out hbw2)
  obtain ⟨Ww2, hstw2, hbxw2, hbbw2⟩ := bxT w2 wa sw2 hew2
  have HSTw2 := hide hstw2
  replace HXp := hide (HXp.out.keep hbbw2)
  replace HXa := hide (HXa.out.keep hbbw2)
  replace HB := hide (rBelow HB.out hbbw2)
  have HXb := hide hbxw2
  clear hstw2 hbxw2 hbbw2 hew2 hbw2
  have pc0 := HXp.out.blk.c0
  have pc1 := HXp.out.blk.c1
  have pc2 := HXp.out.blk.c2
  have pc3 := HXp.out.blk.c3
  have HCw3 := hide (q3.out ⟨va, vl, vc⟩ Ww2 HXp.out.es HVL.out)
  go_wp2_with (refine wpList_store _ rfl rfl 24 (.tmp 10) (.tmp 37) rfl (.pointer (some ⟨w2.heap.size, 0, none⟩)) (wa.val sw2) rfl rfl Ww2 HSTw2.out ?_)
  refine HCw3.out.mono ?_
  rintro e w3 ⟨sw3, rfl, hew3, hbw3⟩
  clear pc0 pc1 pc2 pc3
  replace HXp := hide (HXp.out.keep hbw3)
  replace HXa := hide (HXa.out.keep hbw3)
  replace HXb := hide (HXb.out.keep hbw3)
  replace HB := hide (rBelow HB.out hbw3)
  obtain ⟨Ww3, hstw3, hbxw3, hbbw3⟩ := bxT w3 ca sw3 hew3
  have HSTw3 := hide hstw3
  replace HXp := hide (HXp.out.keep hbbw3)
  replace HXa := hide (HXa.out.keep hbbw3)
  replace HXb := hide (HXb.out.keep hbbw3)
  replace HB := hide (rBelow HB.out hbbw3)
  have HXc := hide hbxw3
  clear hstw3 hbxw3 hbbw3 hew3 hbw3
  have pc0 := HXp.out.blk.c0
  have pc1 := HXp.out.blk.c1
  have pc2 := HXp.out.blk.c2
  have pc3 := HXp.out.blk.c3
  have HCw4 := hide (q4.out ⟨va, vl, vc⟩ Ww3 HXp.out.es HVL.out)
  go_wp2_with (refine wpList_store _ rfl rfl 24 (.tmp 12) (.tmp 43) rfl (.pointer (some ⟨w3.heap.size, 0, none⟩)) (ca.val sw3) rfl rfl Ww3 HSTw3.out ?_)
  refine HCw4.out.mono ?_
  rintro e w4 ⟨sw4, rfl, hew4, hbw4⟩
  clear pc0 pc1 pc2 pc3
  replace HXp := hide (HXp.out.keep hbw4)
  replace HXa := hide (HXa.out.keep hbw4)
  replace HXb := hide (HXb.out.keep hbw4)
  replace HXc := hide (HXc.out.keep hbw4)
  replace HB := hide (rBelow HB.out hbw4)
  obtain ⟨Ww4, hstw4, hbxw4, hbbw4⟩ := bxT w4 la sw4 hew4
  have HSTw4 := hide hstw4
  replace HXp := hide (HXp.out.keep hbbw4)
  replace HXa := hide (HXa.out.keep hbbw4)
  replace HXb := hide (HXb.out.keep hbbw4)
  replace HXc := hide (HXc.out.keep hbbw4)
  replace HB := hide (rBelow HB.out hbbw4)
  have HXd := hide hbxw4
  clear hstw4 hbxw4 hbbw4 hew4 hbw4
  have pc0 := HXp.out.blk.c0
  have pc1 := HXp.out.blk.c1
  have pc2 := HXp.out.blk.c2
  have pc3 := HXp.out.blk.c3
  have HMy := hide (mayTIs (mayB_yes HM.out) ⟨va, vl, vc⟩ Ww4 HXp.out.es)
  go_wp2_with (refine wpList_store _ rfl rfl 24 (.tmp 15) (.tmp 50) rfl (.pointer (some ⟨w4.heap.size, 0, none⟩)) (la.val sw4) rfl rfl Ww4 HSTw4.out ?_)
  refine HMy.out.mono ?_
  rintro e w5 ⟨rfl, hbw5⟩
  clear pc0 pc1 pc2 pc3
  replace HXp := hide (HXp.out.keep hbw5)
  replace HXa := hide (HXa.out.keep hbw5)
  replace HXb := hide (HXb.out.keep hbw5)
  replace HXc := hide (HXc.out.keep hbw5)
  replace HXd := hide (HXd.out.keep hbw5)
  replace HB := hide (rBelow HB.out hbw5)
  clear hbw5
  have pc0 := HXp.out.blk.c0
  have pc1 := HXp.out.blk.c1
  have pc2 := HXp.out.blk.c2
  have pc3 := HXp.out.blk.c3
  have HCw6 := hide (r1.out ⟨va, vl, vc⟩ w5 HXp.out.es HVL.out)
  go_wp2_with fail
  refine HCw6.out.mono ?_
  rintro e w6 ⟨sw6, rfl, hew6, hbw6⟩
  clear pc0 pc1 pc2 pc3
  replace HXp := hide (HXp.out.keep hbw6)
  replace HXa := hide (HXa.out.keep hbw6)
  replace HXb := hide (HXb.out.keep hbw6)
  replace HXc := hide (HXc.out.keep hbw6)
  replace HXd := hide (HXd.out.keep hbw6)
  replace HB := hide (rBelow HB.out hbw6)
  have HLT6 : Hid (w.heap.size < w6.heap.size) := HXp.out.blk.lt
  have HNExp : Hid (w.heap.size < w6.heap.size) := HXp.out.blk.lt
  have HNExa : Hid (w1.heap.size < w6.heap.size) := HXa.out.blk.lt
  have HNExb : Hid (w2.heap.size < w6.heap.size) := HXb.out.blk.lt
  have HNExc : Hid (w3.heap.size < w6.heap.size) := HXc.out.blk.lt
  have HNExd : Hid (w4.heap.size < w6.heap.size) := HXd.out.blk.lt
  obtain ⟨Ww6, hstw6, hbxw6, hbbw6⟩ := bxT w6 ea sw6 hew6
  have HSTw6 := hide hstw6
  replace HXp := hide (HXp.out.keep hbbw6)
  replace HXa := hide (HXa.out.keep hbbw6)
  replace HXb := hide (HXb.out.keep hbbw6)
  replace HXc := hide (HXc.out.keep hbbw6)
  replace HXd := hide (HXd.out.keep hbbw6)
  replace HB := hide (rBelow HB.out hbbw6)
  have HXx := hide hbxw6
  clear hstw6 hbxw6 hbbw6 hew6 hbw6
  have HGEx : Hid (w.heap.size ≤ w6.heap.size) := by
    have h1 := HXp.out.blk.lt
    have h2 := HB.out.size
    have h3 := HLT6.out
    show _ ≤ _
    omega
  have ac0 := HXa.out.blk.c0
  have ac1 := HXa.out.blk.c1
  have ac2 := HXa.out.blk.c2
  have ac3 := HXa.out.blk.c3
  have xc0 := HXx.out.blk.c0
  have xc1 := HXx.out.blk.c1
  have xc2 := HXx.out.blk.c2
  have xc3 := HXx.out.blk.c3
  have HSw7 := hide (same_yes ea sw1 sw6 Ww6 HXa.out.es HXx.out.es)
  go_wp2_with (refine wpList_store _ rfl rfl 24 (.tmp 17) (.tmp 88) rfl (.pointer (some ⟨w6.heap.size, 0, none⟩)) (ea.val sw6) rfl rfl Ww6 HSTw6.out ?_)
  refine HSw7.out.mono ?_
  rintro e w7 ⟨rfl, hbw7⟩
  clear ac0 ac1 ac2 ac3 xc0 xc1 xc2 xc3
  replace HXp := hide (HXp.out.keep hbw7)
  replace HXa := hide (HXa.out.keep hbw7)
  replace HXb := hide (HXb.out.keep hbw7)
  replace HXc := hide (HXc.out.keep hbw7)
  replace HXd := hide (HXd.out.keep hbw7)
  replace HXx := hide (HXx.out.keep hbw7)
  replace HB := hide (rBelow HB.out hbw7)
  clear hbw7
  have ac0 := HXa.out.blk.c0
  have ac1 := HXa.out.blk.c1
  have ac2 := HXa.out.blk.c2
  have ac3 := HXa.out.blk.c3
  have HMw8 := hide (mayTIs (mayB_yes m1.out) sw1 w7 HXa.out.es)
  go_wp2_with fail
  refine HMw8.out.mono ?_
  rintro e w8 ⟨rfl, hbw8⟩
  clear ac0 ac1 ac2 ac3
  replace HXp := hide (HXp.out.keep hbw8)
  replace HXa := hide (HXa.out.keep hbw8)
  replace HXb := hide (HXb.out.keep hbw8)
  replace HXc := hide (HXc.out.keep hbw8)
  replace HXd := hide (HXd.out.keep hbw8)
  replace HXx := hide (HXx.out.keep hbw8)
  replace HB := hide (rBelow HB.out hbw8)
  clear hbw8
  have pc0 := HXp.out.blk.c0
  have pc1 := HXp.out.blk.c1
  have pc2 := HXp.out.blk.c2
  have pc3 := HXp.out.blk.c3
  have HCw9 := hide (r2.out ⟨va, vl, vc⟩ w8 HXp.out.es HVL.out)
  go_wp2_with fail
  refine HCw9.out.mono ?_
  rintro e w9 ⟨sw9, rfl, hew9, hbw9⟩
  clear pc0 pc1 pc2 pc3
  replace HXp := hide (HXp.out.keep hbw9)
  replace HXa := hide (HXa.out.keep hbw9)
  replace HXb := hide (HXb.out.keep hbw9)
  replace HXc := hide (HXc.out.keep hbw9)
  replace HXd := hide (HXd.out.keep hbw9)
  replace HXx := hide (HXx.out.keep hbw9)
  replace HB := hide (rBelow HB.out hbw9)
  obtain ⟨Ww9, hstw9, hbxw9, hfrw9⟩ := HXx.out.lay wa sw9 hew9
  have HSTw9 := hide hstw9
  replace HXp := hide (HXp.out.other HXx.out.blk hfrw9 (by have := HNExp.out; omega))
  replace HXa := hide (HXa.out.other HXx.out.blk hfrw9 (by have := HNExa.out; omega))
  replace HXb := hide (HXb.out.other HXx.out.blk hfrw9 (by have := HNExb.out; omega))
  replace HXc := hide (HXc.out.other HXx.out.blk hfrw9 (by have := HNExc.out; omega))
  replace HXd := hide (HXd.out.other HXx.out.blk hfrw9 (by have := HNExd.out; omega))
  replace HB := hide (HB.out.trans (hfrw9.below HB.out.size (fun k hk => by have := HGEx.out; omega)))
  replace HXx := hide hbxw9
  clear hstw9 hbxw9 hfrw9 hew9 hbw9
  have bc0 := HXb.out.blk.c0
  have bc1 := HXb.out.blk.c1
  have bc2 := HXb.out.blk.c2
  have bc3 := HXb.out.blk.c3
  have xc0 := HXx.out.blk.c0
  have xc1 := HXx.out.blk.c1
  have xc2 := HXx.out.blk.c2
  have xc3 := HXx.out.blk.c3
  have HSw10 := hide (same_yes wa sw2 sw9 Ww9 HXb.out.es HXx.out.es)
  go_wp2_with (refine wpList_store _ rfl rfl 24 (.tmp 17) (.tmp 115) rfl (.pointer (some ⟨w6.heap.size, 0, none⟩)) (wa.val sw9) rfl rfl Ww9 HSTw9.out ?_)
  refine HSw10.out.mono ?_
  rintro e w10 ⟨rfl, hbw10⟩
  clear bc0 bc1 bc2 bc3 xc0 xc1 xc2 xc3
  replace HXp := hide (HXp.out.keep hbw10)
  replace HXa := hide (HXa.out.keep hbw10)
  replace HXb := hide (HXb.out.keep hbw10)
  replace HXc := hide (HXc.out.keep hbw10)
  replace HXd := hide (HXd.out.keep hbw10)
  replace HXx := hide (HXx.out.keep hbw10)
  replace HB := hide (rBelow HB.out hbw10)
  clear hbw10
  have bc0 := HXb.out.blk.c0
  have bc1 := HXb.out.blk.c1
  have bc2 := HXb.out.blk.c2
  have bc3 := HXb.out.blk.c3
  have HMw11 := hide (mayTIs (mayB_yes m2.out) sw2 w10 HXb.out.es)
  go_wp2_with fail
  refine HMw11.out.mono ?_
  rintro e w11 ⟨rfl, hbw11⟩
  clear bc0 bc1 bc2 bc3
  replace HXp := hide (HXp.out.keep hbw11)
  replace HXa := hide (HXa.out.keep hbw11)
  replace HXb := hide (HXb.out.keep hbw11)
  replace HXc := hide (HXc.out.keep hbw11)
  replace HXd := hide (HXd.out.keep hbw11)
  replace HXx := hide (HXx.out.keep hbw11)
  replace HB := hide (rBelow HB.out hbw11)
  clear hbw11
  have pc0 := HXp.out.blk.c0
  have pc1 := HXp.out.blk.c1
  have pc2 := HXp.out.blk.c2
  have pc3 := HXp.out.blk.c3
  have HCw12 := hide (r3.out ⟨va, vl, vc⟩ w11 HXp.out.es HVL.out)
  go_wp2_with fail
  refine HCw12.out.mono ?_
  rintro e w12 ⟨sw12, rfl, hew12, hbw12⟩
  clear pc0 pc1 pc2 pc3
  replace HXp := hide (HXp.out.keep hbw12)
  replace HXa := hide (HXa.out.keep hbw12)
  replace HXb := hide (HXb.out.keep hbw12)
  replace HXc := hide (HXc.out.keep hbw12)
  replace HXd := hide (HXd.out.keep hbw12)
  replace HXx := hide (HXx.out.keep hbw12)
  replace HB := hide (rBelow HB.out hbw12)
  obtain ⟨Ww12, hstw12, hbxw12, hfrw12⟩ := HXx.out.lay ca sw12 hew12
  have HSTw12 := hide hstw12
  replace HXp := hide (HXp.out.other HXx.out.blk hfrw12 (by have := HNExp.out; omega))
  replace HXa := hide (HXa.out.other HXx.out.blk hfrw12 (by have := HNExa.out; omega))
  replace HXb := hide (HXb.out.other HXx.out.blk hfrw12 (by have := HNExb.out; omega))
  replace HXc := hide (HXc.out.other HXx.out.blk hfrw12 (by have := HNExc.out; omega))
  replace HXd := hide (HXd.out.other HXx.out.blk hfrw12 (by have := HNExd.out; omega))
  replace HB := hide (HB.out.trans (hfrw12.below HB.out.size (fun k hk => by have := HGEx.out; omega)))
  replace HXx := hide hbxw12
  clear hstw12 hbxw12 hfrw12 hew12 hbw12
  have cc0 := HXc.out.blk.c0
  have cc1 := HXc.out.blk.c1
  have cc2 := HXc.out.blk.c2
  have cc3 := HXc.out.blk.c3
  have xc0 := HXx.out.blk.c0
  have xc1 := HXx.out.blk.c1
  have xc2 := HXx.out.blk.c2
  have xc3 := HXx.out.blk.c3
  have HSw13 := hide (same_yes ca sw3 sw12 Ww12 HXc.out.es HXx.out.es)
  go_wp2_with (refine wpList_store _ rfl rfl 24 (.tmp 17) (.tmp 135) rfl (.pointer (some ⟨w6.heap.size, 0, none⟩)) (ca.val sw12) rfl rfl Ww12 HSTw12.out ?_)
  refine HSw13.out.mono ?_
  rintro e w13 ⟨rfl, hbw13⟩
  clear cc0 cc1 cc2 cc3 xc0 xc1 xc2 xc3
  replace HXp := hide (HXp.out.keep hbw13)
  replace HXa := hide (HXa.out.keep hbw13)
  replace HXb := hide (HXb.out.keep hbw13)
  replace HXc := hide (HXc.out.keep hbw13)
  replace HXd := hide (HXd.out.keep hbw13)
  replace HXx := hide (HXx.out.keep hbw13)
  replace HB := hide (rBelow HB.out hbw13)
  clear hbw13
  have cc0 := HXc.out.blk.c0
  have cc1 := HXc.out.blk.c1
  have cc2 := HXc.out.blk.c2
  have cc3 := HXc.out.blk.c3
  have HMw14 := hide (mayTIs (mayB_yes m3.out) sw3 w13 HXc.out.es)
  go_wp2_with fail
  refine HMw14.out.mono ?_
  rintro e w14 ⟨rfl, hbw14⟩
  clear cc0 cc1 cc2 cc3
  replace HXp := hide (HXp.out.keep hbw14)
  replace HXa := hide (HXa.out.keep hbw14)
  replace HXb := hide (HXb.out.keep hbw14)
  replace HXc := hide (HXc.out.keep hbw14)
  replace HXd := hide (HXd.out.keep hbw14)
  replace HXx := hide (HXx.out.keep hbw14)
  replace HB := hide (rBelow HB.out hbw14)
  clear hbw14
  have pc0 := HXp.out.blk.c0
  have pc1 := HXp.out.blk.c1
  have pc2 := HXp.out.blk.c2
  have pc3 := HXp.out.blk.c3
  have HCw15 := hide (r4.out ⟨va, vl, vc⟩ w14 HXp.out.es HVL.out)
  go_wp2_with fail
  refine HCw15.out.mono ?_
  rintro e w15 ⟨sw15, rfl, hew15, hbw15⟩
  clear pc0 pc1 pc2 pc3
  replace HXp := hide (HXp.out.keep hbw15)
  replace HXa := hide (HXa.out.keep hbw15)
  replace HXb := hide (HXb.out.keep hbw15)
  replace HXc := hide (HXc.out.keep hbw15)
  replace HXd := hide (HXd.out.keep hbw15)
  replace HXx := hide (HXx.out.keep hbw15)
  replace HB := hide (rBelow HB.out hbw15)
  obtain ⟨Ww15, hstw15, hbxw15, hfrw15⟩ := HXx.out.lay la sw15 hew15
  have HSTw15 := hide hstw15
  replace HXp := hide (HXp.out.other HXx.out.blk hfrw15 (by have := HNExp.out; omega))
  replace HXa := hide (HXa.out.other HXx.out.blk hfrw15 (by have := HNExa.out; omega))
  replace HXb := hide (HXb.out.other HXx.out.blk hfrw15 (by have := HNExb.out; omega))
  replace HXc := hide (HXc.out.other HXx.out.blk hfrw15 (by have := HNExc.out; omega))
  replace HXd := hide (HXd.out.other HXx.out.blk hfrw15 (by have := HNExd.out; omega))
  replace HB := hide (HB.out.trans (hfrw15.below HB.out.size (fun k hk => by have := HGEx.out; omega)))
  replace HXx := hide hbxw15
  clear hstw15 hbxw15 hfrw15 hew15 hbw15
  go_wp2_with (refine wpList_store _ rfl rfl 24 (.tmp 17) (.tmp 161) rfl (.pointer (some ⟨w6.heap.size, 0, none⟩)) (la.val sw15) rfl rfl Ww15 HSTw15.out ?_)
  refine Pl.region_is (ops := Pl.find 19 ((Try.f5.body).getD .skip)) (by kernel_rfl) ?_
  refine ttr19 HH.out Ww15 Ww15 t HM.out ⟨va, vl, vc⟩ tx le ea la m1.out (mayB_yes m4.out) sw1 sw4 sw15 w.heap.size w1.heap.size w4.heap.size w6.heap.size HXp.out HXa.out HXd.out HXx.out (Below.refl _ _) (by rfl) (by rfl) (by rfl) (by rfl) (by rfl) (by rfl) (by rfl) (by rfl) (by rfl) ?_
  intro u16 w16 hb16
  simp only [Act.put, List.setIfInBounds_toArray, List.set_cons_zero, List.set_cons_succ]
  replace HB := hide (rBelow HB.out hb16)
  clear hb16
  go_wp2_with fail
  go_ret
  exact ⟨by simp, HB.out⟩

set_option maxHeartbeats 4000000 in
set_option maxRecDepth 100000 in
theorem turnsT_walk (H : TableS) (t : Tb) (v : Sl) (tx c : Int) (w : World) (h : Es w v t.es) :
    Calls Try.prog 5 #[t.val v, .int .i64 tx, .int .i64 c] w fun e w' => e = .returned (.bool true) ∧ Below w.heap.size w w' := by
  by_cases hl : v.len ≤ 40
  · cases hm : mayB t with
    | false => exact turnsT_no H t v tx c w h hl hm
    | true => exact turnsT_yes H t v tx c w h hl (mayB_iff.1 hm)
  · have HB0 := hide (below_box w t v)
    have hbig := h.big
    have HAW := hide H.awake
    clear h H
    obtain ⟨va, vl, vc⟩ := v
    simp only at hbig hl
    unfold Tb.val
    have i1 : (40 : Int) < ((vl : Nat) : Int) := by omega
    go_enter Try.func5, Try.ntmps5
    go_wp2_with fail
    refine (HAW.out _).mono ?_
    rintro e w1 ⟨rfl, hb1⟩
    have HB1 := hide (rBelow HB0.out hb1)
    clear hb1
    go_wp2_with fail
    go_ret
    exact ⟨by simp, HB1.out⟩

end Go.Proofs.Ytdbgbldmjgonjaa
