/-
  Both pools, side by side.
  The law of acts: its drawn regions.
  What an act of the landed pool, and of the document's, leaves of both.
-/
import Derived.Test.YtcaaiihjolnkgaaGreatEe
namespace Go.Proofs.YtcaaiihjolnkgaaGreat
open Go.RowKit
set_option maxRecDepth 100000
set_option linter.unusedVariables false

theorem BsS.moveG {K K' : Home} {w w' : World} {F : Nat → Prop} {s : Sl} {xs : List Nat} (h : BsS K w s xs) (hf : Frm F w w') (far : ∀ k, K.G k → ¬ F k) (hn : ∀ k, K.G k → k < w.heap.size → K'.G k) (hl : K'.low ≤ w'.heap.size) : BsS K' w' s xs := by
  refine ⟨h.came.frm hf (fun ad e hl => far _ (h.home hl ad e)), hl, fun hl ad e => hn _ (h.home hl ad e) ?_⟩
  obtain ⟨b, off, e', hc⟩ := h.came.bs.2.2 0 hl
  rw [e] at e'
  obtain rfl := Option.some.inj e'
  exact World.block_lt_of_cell? w _ hc
theorem dev_ty {w : World} {p : Nat} {D : Ds} {L : Dl} (h : DevM w p D L) {b : Nat} (hf : L.F p b) : ∃ C' t fr', w.heap[b]? = some (Obj.cells C' t fr') ∧ t ≠ 102 ∧ t ≠ 94 ∧ t ≠ 43 := by
  rcases hf with rfl | ⟨f, hf⟩ | hf | hf
  · exact ⟨_, _, _, h.blk, by decide, by decide, by decide⟩
  · obtain ⟨C', e⟩ := (h.own f).typ hf; exact ⟨_, _, _, e, by decide, by decide, by decide⟩
  · obtain ⟨C', e⟩ := h.wr.typ hf; exact ⟨_, _, _, e, by decide, by decide, by decide⟩
  · obtain ⟨C', e⟩ := h.tr.typ hf; exact ⟨_, _, _, e, by decide, by decide, by decide⟩
theorem po_not {w : World} {p d : Nat} {P : Po} {L : Dl} {X : Nat → Prop} (h : poM w p d P L X) {b : Nat} {C : Array Value} {t : TypeId} {fz : Nat × Nat} (hc : w.heap[b]? = some (.cells C t fz)) (ht : t = 102 ∨ t = 94 ∨ t = 43) : ¬ (X b ∨ L.F d b) := by
  rintro (e | e)
  · rcases poM_ty h e hc with h1 | h1 | h1 <;> rw [h1] at ht <;> revert ht <;> decide
  · obtain ⟨C', t', fr', e', h1, h2, h3⟩ := dev_ty (poolS_holds.dev h) e
    rw [hc] at e'
    simp only [Option.some.injEq, Obj.cells.injEq] at e'
    rw [← e'.2.1] at h1 h2 h3
    rcases ht with q | q | q
    · exact h1 q
    · exact h2 q
    · exact h3 q
theorem DvIn.moveG {K K' : Home} {w w' : World} {F : Nat → Prop} {d : Dv} {L : DvL} (h : DvIn K w d L) (hf : Frm F w w') (far : ∀ k, K.G k → ¬ F k) (hn : ∀ k, K.G k → k < w.heap.size → K'.G k) (hl : K'.low ≤ w'.heap.size) (hp : ∀ b C fz, w.heap[b]? = some (.cells C 102 fz) → ¬ F b) : DvIn K' w' d L := by
  refine ⟨⟨h.kept.pg.moveG hf far hn hl, h.kept.st.moveG hf far hn hl⟩, ⟨h.now.pg.moveG hf far hn hl, h.now.st.moveG hf far hn hl⟩, ⟨h.done.1, fun i hi => ⟨(h.done.2.1 i hi).1.moveG hf far hn hl, (h.done.2.1 i hi).2⟩, fun j hj => ?_⟩, h.nil, h.le⟩
  obtain ⟨b, off, ha, c0, c1, c2, c3, C, fr, hc⟩ := h.done.2.2 j hj
  have hlt := (Array.getElem?_eq_some_iff.1 hc).1
  have hb := hf.block b hlt (hp b C fr hc)
  have hcell : ∀ o, w'.cell? ⟨b, o, none⟩ = w.cell? ⟨b, o, none⟩ := by
    intro o
    simp only [World.cell?]
    rw [hb]
  exact ⟨b, off, ha, (hcell _).trans c0, (hcell _).trans c1, (hcell _).trans c2, (hcell _).trans c3, C, fr, hb.trans hc⟩
theorem RpIn.moveG {K K' : Home} {w w' : World} {F : Nat → Prop} {n tot m : Nat} {P : Po} {d : Dv} {Ld : DvL} {v s : Sl} (h : RpIn K w n tot m P d Ld v s) (hf : Frm F w w') (far : ∀ k, K.G k → ¬ F k) (hn : ∀ k, K.G k → k < w.heap.size → K'.G k) (hl : K'.low ≤ w'.heap.size) (hp : ∀ b C t fz, w.heap[b]? = some (.cells C t fz) → t = 102 ∨ t = 94 → ¬ F b) : RpIn K' w' n tot m P d Ld v s := by
  refine ⟨h.dv.moveG hf far hn hl (fun b C fz hc => hp b C _ fz hc (.inl rfl)), h.rel, h.good, ?_, ?_, hl⟩
  · refine ⟨h.ck.len, h.ck.nil, h.ck.le, h.ck.big, fun ad e hl => ?_, fun i hi => ?_, fun ad e hl => ?_⟩
    · obtain ⟨C, fz, hc⟩ := h.ck.ty ad e hl
      exact hn _ (h.ck.home ad e hl) (Array.getElem?_eq_some_iff.1 hc).1
    · obtain ⟨b, off, ha, c0, c1, c2⟩ := h.ck.cell i hi
      have hG := h.ck.home _ ha (by omega)
      have hb := hf.block b (World.block_lt_of_cell? w _ c0) (far _ hG)
      have hcell : ∀ o, w'.cell? ⟨b, o, none⟩ = w.cell? ⟨b, o, none⟩ := by
        intro o
        simp only [World.cell?]
        rw [hb]
      exact ⟨b, off, ha, (hcell _).trans c0, (hcell _).trans c1, (hcell _).trans c2⟩
    · obtain ⟨C, fz, hc⟩ := h.ck.ty ad e hl
      exact ⟨C, fz, (hf.block _ (Array.getElem?_eq_some_iff.1 hc).1 (far _ (h.ck.home ad e hl))).trans hc⟩
  · obtain ⟨ls, e, hc, hz⟩ := h.sh
    exact ⟨ls, e, hc.frm (fun b hr => by
      obtain ⟨C, fz, hh⟩ := hr
      exact hf.block b (Array.getElem?_eq_some_iff.1 hh).1 (hp b C _ fz hh (.inr rfl))), fun z hm => ⟨(hz z hm).1.moveG hf far hn hl, (hz z hm).2⟩⟩

structure Pa (w0 w : World) (p dp gb n tot m : Nat) (P Q : Po) (A : Nat → Prop) (K : Home) (L : Dl) (X : Nat → Prop) (d : Dv) (Ld : DvL) (v s : Sl) : Prop where
  mm : poM w p dp P L X
  foot : ∀ k, X k ∨ L.F dp k → w0.heap.size ≤ k
  gg : ∀ k, K.G k ↔ ¬ (X k ∨ L.F dp k)
  rp : RpIn K w n tot m Q d Ld v s
  box : RBlk w gb d Ld v Q.h s Q.sy
  ge : w0.heap.size ≤ gb
  ap : ∀ k, A k → k < w.heap.size ∧ ¬ (X k ∨ L.F dp k)
  e : Below w0.heap.size w0 w
def PaX (w0 w : World) (p dp gb n tot m : Nat) (P Q : Po) (A : Nat → Prop) : Prop := ∃ K L X d Ld v s, Pa w0 w p dp gb n tot m P Q A K L X d Ld v s
section
variable {w0 w w' : World} {p dp gb n tot m : Nat} {P Q : Po} {A : Nat → Prop} {K : Home} {L : Dl} {X : Nat → Prop} {d : Dv} {Ld : DvL} {v s : Sl}
theorem Pa.lt (h : Pa w0 w p dp gb n tot m P Q A K L X d Ld v s) {k : Nat} (hk : X k ∨ L.F dp k) : k < w.heap.size := hk.elim (poolS_holds.lt h.mm k) (fun e => (poolS_holds.dev h.mm).lt e)
theorem Pa.nb (h : Pa w0 w p dp gb n tot m P Q A K L X d Ld v s) : ¬ (X gb ∨ L.F dp gb) := po_not h.mm h.box (.inr (.inr rfl))
theorem Pa.keep (h : Pa w0 w p dp gb n tot m P Q A K L X d Ld v s) (hb : Below w.heap.size w w') : Pa w0 w' p dp gb n tot m P Q A K L X d Ld v s :=
  ⟨poolS_holds.frm h.mm (Frm.ofBelow (F := fun _ => False) hb) (fun _ _ e => e), h.foot, h.gg, h.rp.keep hb, h.box.below hb, h.ge, fun k hk => ⟨Nat.lt_of_lt_of_le (h.ap k hk).1 hb.size, (h.ap k hk).2⟩, h.e.trans (hb.mono h.e.size)⟩
theorem PaX.keep (h : PaX w0 w p dp gb n tot m P Q A) (hb : Below w.heap.size w w') : PaX w0 w' p dp gb n tot m P Q A := by
  obtain ⟨K, L, X, d, Ld, v, s, h⟩ := h
  exact ⟨K, L, X, d, Ld, v, s, h.keep hb⟩
theorem PaX.below (h : PaX w0 w p dp gb n tot m P Q A) : Below w0.heap.size w0 w := by
  obtain ⟨K, L, X, d, Ld, v, s, h⟩ := h
  exact h.e
theorem PaX.drop (h : PaX w0 w p dp gb n tot m P Q A) : PaX w0 w p dp gb n tot m P Q (fun _ => False) := by
  obtain ⟨K, L, X, d, Ld, v, s, h⟩ := h
  exact ⟨K, L, X, d, Ld, v, s, h.mm, h.foot, h.gg, h.rp, h.box, h.ge, fun _ e => e.elim, h.e⟩
theorem PaX.more (h : PaX w0 w p dp gb n tot m P Q A) (hb : Below w.heap.size w w') {g : Nat} (hg : w.heap.size ≤ g) (hg' : g < w'.heap.size) : PaX w0 w' p dp gb n tot m P Q (fun k => k = g) ∧ g ≠ gb := by
  obtain ⟨K, L, X, d, Ld, v, s, h⟩ := h
  have hk := h.keep hb
  refine ⟨⟨K, L, X, d, Ld, v, s, hk.mm, hk.foot, hk.gg, hk.rp, hk.box, hk.ge, fun k e => ?_, hk.e⟩, fun e => ?_⟩
  · subst e
    exact ⟨hg', fun hf => by have := h.lt hf; omega⟩
  · have := h.box.lt
    omega
/-- The landed pool has acted. -/
theorem Pa.act (h : Pa w0 w p dp gb n tot m P Q A K L X d Ld v s) {P2 : Po} (a : Acted poM w p dp L X w' P2) : PaX w0 w' p dp gb n tot m P2 Q A ∧ KeptG A w w' := by
  obtain ⟨L', X', hm, hf⟩ := a.ex
  have hlt : ∀ k, X' k ∨ L'.F dp k → k < w'.heap.size := fun k hk => hk.elim (poolS_holds.lt hm k) (fun e => (poolS_holds.dev hm).lt e)
  have hoff : ∀ k, k < w.heap.size → ¬ (X k ∨ L.F dp k) → ¬ (X' k ∨ L'.F dp k) := fun k hk hn e => (hf k e).elim hn (fun q => by omega)
  refine ⟨⟨⟨fun k => ¬ (X' k ∨ L'.F dp k), w'.heap.size, fun k hk e => by have := hlt k e; omega⟩, L', X', d, Ld, v, s, hm, fun k hk => (hf k hk).elim (h.foot k) (fun e => Nat.le_trans h.e.size e), fun k => Iff.rfl, ?_, h.box.keep (a.frm.block gb h.box.lt h.nb), h.ge, fun k hk => ⟨Nat.lt_of_lt_of_le (h.ap k hk).1 a.frm.size, hoff k (h.ap k hk).1 (h.ap k hk).2⟩, h.e.trans (a.frm.below h.e.size h.foot)⟩, fun k hk => a.frm.block k (h.ap k hk).1 (h.ap k hk).2⟩
  exact h.rp.moveG a.frm (fun k hk => (h.gg k).1 hk) (fun k hk hl => hoff k hl ((h.gg k).1 hk)) (Nat.le_refl _) (fun b C t fz hc ht => po_not h.mm hc (ht.elim .inl (fun e => .inr (.inl e))))
theorem acted_turn {D' : Ds} {L' : Dl} (h : poM w p dp P L X) (t : Turned w dp L w' D' L') : Acted poM w p dp L X w' { P with D := D' } :=
  ⟨⟨L', X, poolS_holds.turn h t, fun k hk => hk.elim (fun e => .inl (.inl e)) (fun e => (t.foot k e).elim (fun q => .inl (.inr q)) .inr)⟩, t.frm.mono (fun i _ e => .inr e)⟩
/-- The document's pool has acted, and is laid into its box. -/
theorem Pa.fin (h : Pa w0 w p dp gb n tot m P Q A K L X d Ld v s) (hA : ¬ A gb) {tot2 m2 : Nat} {Q2 : Po} {x : Value} (hb : Below w.heap.size w w') (hs : RpSays K n tot2 m2 Q2 x w') :
    ∃ W, (Instr.storeAt 43 (.pointer (some ⟨gb, 0, none⟩)) x).run Tryz.prog w' = .ok () W ∧ PaX w0 W p dp gb n tot2 m2 P Q2 A ∧ KeptG A w W ∧ (∀ a len cap xs, Came w' a len cap xs → Came W a len cap xs) := by
  obtain ⟨d2, Ld2, v2, s2, rfl, hI⟩ := hs
  have hk := h.keep hb
  obtain ⟨W, hst, hB, hf, hsz⟩ := stR hk.box d2 Ld2 v2 Q2.h s2 Q2.sy
  have hbx : ∃ d' Ld' v' h' s' sy', RBlk w' gb d' Ld' v' h' s' sy' := ⟨_, _, _, _, _, _, hk.box⟩
  refine ⟨W, hst, ⟨K, L, X, d2, Ld2, v2, s2, poolS_holds.frm hk.mm hf (fun k e q => hk.nb (by rw [← q]; exact e)), hk.foot, hk.gg, hI.box hf hbx, hB, hk.ge, fun k e => ⟨Nat.lt_of_lt_of_le (hk.ap k e).1 hf.size, (hk.ap k e).2⟩, hk.e.trans (hf.below hk.e.size (fun k e => by rw [e]; exact h.ge))⟩, fun k e => ?_, fun a len cap xs hc => ?_⟩
  · have h1 := hb.block k (h.ap k e).1
    have h2 := hf.block k (hk.ap k e).1 (fun q => hA (by rw [← q]; exact e))
    exact h2.trans h1
  · obtain ⟨C, t, fz, hcc, hno, _⟩ := hk.box.box
    exact came_box hc (F := fun i => i = gb) (fun i hi hl => hf.block i hl hi) (fun i hi => by subst hi; exact ⟨C, t, fz, hcc, hno⟩)
end

theorem Po.Fine.append {P : Po} {n c : Nat} (h : P.Fine n c) (b : List Nat) (hs : P.D.ss.length + b.length ≤ 65536) : ({ P with D := P.D.append b } : Po).Fine n c := by
  have e := h.wet.dev.append_is b
  have hsp : (P.D.append b).sp = P.D.sp := by rw [e]
  refine ⟨⟨⟨by show (P.D.append b).sp.length = _; rw [hsp]; exact h.ok.sp, h.ok.n64, h.ok.sh, fun k s hk hd => by show s.b = (P.D.append b).page k; unfold Ds.page; rw [hsp]; exact h.ok.clean k s hk hd⟩, ⟨h.ok.may, h.ok.pin, h.ok.inn⟩⟩, ⟨h.wet.dev.append b, h.wet.sh⟩, h.cap, ?_⟩
  show (P.D.append b).ss.length ≤ _
  rw [e]
  show (P.D.ss ++ b).length ≤ _
  rw [List.length_append]
  exact hs
theorem Po.Fine.sync {P : Po} {n c : Nat} (h : P.Fine n c) : ({ P with D := P.D.sync } : Po).Fine n c := by
  have hsp := P.D.sync_sp
  refine ⟨⟨⟨by show P.D.sync.sp.length = _; rw [hsp.1]; exact h.ok.sp, h.ok.n64, h.ok.sh, fun k s hk hd => by show s.b = P.D.sync.page k; rw [Ds.sync_page]; exact h.ok.clean k s hk hd⟩, ⟨h.ok.may, h.ok.pin, h.ok.inn⟩⟩, ⟨h.wet.dev.sync.more (Nat.zero_le _), h.wet.sh⟩, h.cap, ?_⟩
  show P.D.sync.ss.length ≤ _
  rw [hsp.2.1]
  exact h.ss
theorem Po.Fine.synced {P : Po} {n c : Nat} (h : P.Fine n c) : P.synced.Fine n c := ⟨⟨⟨h.ok.sp, h.ok.n64, h.ok.sh, h.ok.clean⟩, ⟨h.ok.may, h.ok.pin, h.ok.inn⟩⟩, ⟨h.wet.dev, h.wet.sh⟩, h.cap, h.ss⟩
theorem Po.Fine.evict {P : Po} {n c : Nat} (h : P.Fine n c) (hc : c + 4 ≤ 9000) (k : Nat) (hk : (P.m k).isSome = true) : (P.evict k).Fine n (c + 4) := by
  have := (h.evictAny hc ((k : Nat) : Int)).1
  unfold Po.evictAny at this
  rw [if_pos ⟨by omega, by rw [Int.toNat_natCast]; exact hk⟩, Int.toNat_natCast] at this
  exact this
end Go.Proofs.YtcaaiihjolnkgaaGreat

namespace Go.Proofs.YtcaaiihjolnkgaaGreat
open Go.RowKit
set_option maxRecDepth 100000
set_option linter.unusedVariables false

theorem Pl.loadW {P : Program} {ops : Array Oper} {n : Nat} {f : Nat → Value} {w : World} (i : Nat) (t : TypeId) (x : Operand) (v : Value) (h : (Pl.op ops i).op = .load t x) (hx : Pl.inB n x = true) (hv : (Instr.loadAt t (Pl.ev f x)).run P w = .ok v w) :
    ∀ A, Pl.At n A f → (execOp A.eval (Pl.op ops i)).run P w = .ok (.value v) w := by
  intro A hA
  have e : execOp A.eval (Pl.op ops i) = (do pure (.value (← Instr.loadAt t (A.eval x)))) := by
    unfold execOp
    rw [h]
  rw [e, hA.ev x hx]
  simp [hv]
theorem entPageA : ∀ args w, (callFunc 13 args).run Tryz.prog w = .ok (.enter 13 args) w := Pl.enters Tryz.func13 (by kernel_rfl) (by kernel_rfl)
theorem entPutA : ∀ args w, (callFunc 12 args).run Tryz.prog w = .ok (.enter 12 args) w := Pl.enters Tryz.func12 (by kernel_rfl) (by kernel_rfl)
theorem entRPutA : ∀ args w, (callFunc 14 args).run Tryz.prog w = .ok (.enter 14 args) w := Pl.enters Tryz.func14 (by kernel_rfl) (by kernel_rfl)

set_option maxHeartbeats 2000000 in
set_option maxRecDepth 100000 in
theorem acts24 (w : World) (p g : Nat) (x : Ac) (b q : Sl) (r : Int) (R1 : Value → World → Prop) (R2 : World → Prop) (h0 : AcBlk w g x b q) (hpage : Calls Tryz.prog 13 #[.slice b.a b.len b.cap] w.drew fun e w2 => ∃ y, e = .returned y ∧ R1 y w2) (hR1S : ∀ y w2, R1 y w2 → (fun (w' : World) => AcBlk w' g x b q) w2) (hput : ∀ y w2, R1 y w2 → Calls Tryz.prog 12 #[.pointer (some ⟨p, 0, none⟩), .int .i64 x.pg, y, .int .i64 x.n] w2 fun e w3 => e = .returned (.int .i64 r) ∧ R2 w3) (hR2S : ∀ w3, R2 w3 → (fun (w' : World) => AcBlk w' g x b q) w3)
    {Q : Exit → Act → World → Prop} {A : Act} (hsz : A.tmps.size = 208) (hdf : A.defers = []) (s11 : A.tmps.getD 11 undef = .pointer (some ⟨p, 0, none⟩)) (s19 : A.tmps.getD 19 undef = .pointer (some ⟨g, 0, none⟩))
    (hend : ∀ (u : Nat → Value) w', R2 w' → Q .normal (((((((((((A).put (some 106) (u 106)).put (some 107) (u 107)).put (some 108) (u 108)).put (some 109) (u 109)).put (some 110) (u 110)).put (some 112) (u 112)).put (some 113) (u 113)).put (some 111) (u 111)).put (some 114) (u 114)).put (some 15) (.int .i64 r)) w') :
    (Code.region 24 (Pl.find 24 ((Tryz.f3.body).getD .skip)) true).wp Tryz.prog Q A w := by
  have hA := Pl.At.same (v := .pointer (some ⟨g, 0, none⟩)) (d := 19) (Pl.At.same (v := .pointer (some ⟨p, 0, none⟩)) (d := 11) (Pl.At.here hsz hdf) s11) s19
  refine Pl.H.start (S := fun w' => AcBlk w' g x b q) (by kernel_rfl) hA (show (fun w' => AcBlk w' g x b q) w.drew from h0) ?_
  rw [show (Pl.find 24 ((Tryz.f3.body).getD .skip)).size = 10 by kernel_rfl]
  refine Pl.H.take 0 106 (.pointer (some ⟨p, 0, none⟩)) (by kernel_rfl) (by kernel_rfl) (by kernel_rfl) (Pl.free 0 (by kernel_rfl)) (Pl.move 0 (.tmp 11) (by kernel_rfl) (by decide)) (show (fun w' => AcBlk w' g x b q) w.drew from h0) ?_
  refine Pl.H.take 1 107 (.pointer (some ⟨g, 1, none⟩)) (by kernel_rfl) (by kernel_rfl) (by kernel_rfl) (Pl.free 1 (by kernel_rfl)) (Pl.field 1 48 (.tmp 19) 1 _ (by kernel_rfl) (by decide) (fdAoB1 g)) (show (fun w' => AcBlk w' g x b q) w.drew from h0) ?_
  refine Pl.H.take 2 108 (.int .i64 x.pg) (by kernel_rfl) (by kernel_rfl) (by kernel_rfl) (Pl.free 2 (by kernel_rfl)) (Pl.load 2 3 (.tmp 107) _ (by kernel_rfl) (by decide) (fun w' hS => ldInt g 1 _ w' (AcBlk.c1 hS))) (show (fun w' => AcBlk w' g x b q) w.drew from h0) ?_
  refine Pl.H.take 3 109 (.pointer (some ⟨g, 2, none⟩)) (by kernel_rfl) (by kernel_rfl) (by kernel_rfl) (Pl.free 3 (by kernel_rfl)) (Pl.field 3 48 (.tmp 19) 2 _ (by kernel_rfl) (by decide) (fdAoB2 g)) (show (fun w' => AcBlk w' g x b q) w.drew from h0) ?_
  refine Pl.H.take 4 110 (.slice b.a b.len b.cap) (by kernel_rfl) (by kernel_rfl) (by kernel_rfl) (Pl.free 4 (by kernel_rfl)) (Pl.load 4 32 (.tmp 109) _ (by kernel_rfl) (by decide) (fun w' hS => ldBs g 2 _ _ _ w' (AcBlk.c2 hS))) (show (fun w' => AcBlk w' g x b q) w.drew from h0) ?_
  refine Pl.H.take 6 112 (.pointer (some ⟨g, 3, none⟩)) (by kernel_rfl) (by kernel_rfl) (by kernel_rfl) (Pl.free 6 (by kernel_rfl)) (Pl.field 6 48 (.tmp 19) 3 _ (by kernel_rfl) (by decide) (fdAoB3 g)) (show (fun w' => AcBlk w' g x b q) w.drew from h0) ?_
  refine Pl.H.take 7 113 (.int .i64 x.n) (by kernel_rfl) (by kernel_rfl) (by kernel_rfl) (Pl.free 7 (by kernel_rfl)) (Pl.load 7 3 (.tmp 112) _ (by kernel_rfl) (by decide) (fun w' hS => ldInt g 3 _ w' (AcBlk.c3 hS))) (show (fun w' => AcBlk w' g x b q) w.drew from h0) ?_
  refine Pl.H.call 5 111 13 [(.tmp 110)] #[32] (by kernel_rfl) (by kernel_rfl) (by kernel_rfl) (Pl.free 5 (by kernel_rfl)) (by kernel_rfl) (by decide) entPageA (Calls.mono (hpage) ?_)
  rintro e w2 ⟨y, rfl, hr1⟩
  refine ⟨y, rfl, (hR1S y w2 hr1), ?_⟩
  refine Pl.H.call 8 114 12 [(.tmp 106), (.tmp 108), (.tmp 111), (.tmp 113)] #[27, 3, 32, 3] (by kernel_rfl) (by kernel_rfl) (by kernel_rfl) (Pl.free 8 (by kernel_rfl)) (by kernel_rfl) (by decide) entPutA (Calls.mono (hput y w2 hr1) ?_)
  rintro e w3 ⟨rfl, hr2⟩
  refine ⟨.int .i64 r, rfl, (hR2S w3 hr2), ?_⟩
  refine Pl.H.take 9 15 (.int .i64 r) (by kernel_rfl) (by kernel_rfl) (by kernel_rfl) (Pl.free 9 (by kernel_rfl)) (Pl.assign 9 (.tmp 114) (by kernel_rfl) (by decide)) (hR2S w3 hr2) ?_
  refine Pl.H.done (by kernel_rfl) (fun A' hA' => ?_)
  rw [Pl.At.ext hA' ((((((((((hA.put 106 _).put 107 _).put 108 _).put 109 _).put 110 _).put 112 _).put 113 _).put 111 _).put 114 _).put 15 _)]
  exact hend (fun d => if d = 106 then .pointer (some ⟨p, 0, none⟩) else if d = 107 then .pointer (some ⟨g, 1, none⟩) else if d = 108 then .int .i64 x.pg else if d = 109 then .pointer (some ⟨g, 2, none⟩) else if d = 110 then .slice b.a b.len b.cap else if d = 112 then .pointer (some ⟨g, 3, none⟩) else if d = 113 then .int .i64 x.n else if d = 111 then y else if d = 114 then .int .i64 r else undef) _ hr2

set_option maxHeartbeats 2000000 in
set_option maxRecDepth 100000 in
theorem acts25 (w : World) (gb g : Nat) (x : Ac) (b q : Sl) (r : Int) (dd : Dv) (Ld : DvL) (v : Sl) (h : Int) (s : Sl) (sy : Int) (R1 : Value → World → Prop) (R2 : Value → World → Prop) (R3 : World → Prop) (h0 : AcBlk w g x b q) (hb0 : RBlk w.drew gb dd Ld v h s sy) (hpage : Calls Tryz.prog 13 #[.slice b.a b.len b.cap] w.drew fun e w2 => ∃ y, e = .returned y ∧ R1 y w2) (hR1S : ∀ y w2, R1 y w2 → (fun (w' : World) => AcBlk w' g x b q) w2) (hR1B : ∀ y w2, R1 y w2 → RBlk w2 gb dd Ld v h s sy) (hput : ∀ y w2, R1 y w2 → Calls Tryz.prog 14 #[rV dd Ld v h s sy, .int .i64 x.pg, y, .int .i64 x.n] w2 fun e w3 => ∃ z, e = .returned (.tuple #[z, .int .i64 r]) ∧ R2 z w3) (hR2S : ∀ z w3, R2 z w3 → (fun (w' : World) => AcBlk w' g x b q) w3) (hstore : ∀ z w3, R2 z w3 → ∃ W, (Instr.storeAt 43 (.pointer (some ⟨gb, 0, none⟩)) z).run Tryz.prog w3 = .ok () W ∧ (fun (w' : World) => AcBlk w' g x b q) W ∧ R3 W)
    {Q : Exit → Act → World → Prop} {A : Act} (hsz : A.tmps.size = 208) (hdf : A.defers = []) (s13 : A.tmps.getD 13 undef = .pointer (some ⟨gb, 0, none⟩)) (s19 : A.tmps.getD 19 undef = .pointer (some ⟨g, 0, none⟩))
    (hend : ∀ (u : Nat → Value) w', R3 w' → Q .normal ((((((((((((((A).put (some 117) (u 117)).put (some 118) (u 118)).put (some 119) (u 119)).put (some 120) (u 120)).put (some 122) (u 122)).put (some 123) (u 123)).put (some 116) (u 116)).put (some 121) (u 121)).put (some 124) (u 124)).put (some 115) (u 115)).put (some 125) (u 125)).put (some 126) (u 126)).put (some 16) (.int .i64 r)) w') :
    (Code.region 25 (Pl.find 25 ((Tryz.f3.body).getD .skip)) true).wp Tryz.prog Q A w := by
  have hA := Pl.At.same (v := .pointer (some ⟨g, 0, none⟩)) (d := 19) (Pl.At.same (v := .pointer (some ⟨gb, 0, none⟩)) (d := 13) (Pl.At.here hsz hdf) s13) s19
  refine Pl.H.start (S := fun w' => AcBlk w' g x b q) (by kernel_rfl) hA (show (fun w' => AcBlk w' g x b q) w.drew from h0) ?_
  rw [show (Pl.find 25 ((Tryz.f3.body).getD .skip)).size = 14 by kernel_rfl]
  refine Pl.H.take 1 117 (.pointer (some ⟨g, 1, none⟩)) (by kernel_rfl) (by kernel_rfl) (by kernel_rfl) (Pl.free 1 (by kernel_rfl)) (Pl.field 1 48 (.tmp 19) 1 _ (by kernel_rfl) (by decide) (fdAoB1 g)) (show (fun w' => AcBlk w' g x b q) w.drew from h0) ?_
  refine Pl.H.take 2 118 (.int .i64 x.pg) (by kernel_rfl) (by kernel_rfl) (by kernel_rfl) (Pl.free 2 (by kernel_rfl)) (Pl.load 2 3 (.tmp 117) _ (by kernel_rfl) (by decide) (fun w' hS => ldInt g 1 _ w' (AcBlk.c1 hS))) (show (fun w' => AcBlk w' g x b q) w.drew from h0) ?_
  refine Pl.H.take 3 119 (.pointer (some ⟨g, 2, none⟩)) (by kernel_rfl) (by kernel_rfl) (by kernel_rfl) (Pl.free 3 (by kernel_rfl)) (Pl.field 3 48 (.tmp 19) 2 _ (by kernel_rfl) (by decide) (fdAoB2 g)) (show (fun w' => AcBlk w' g x b q) w.drew from h0) ?_
  refine Pl.H.take 4 120 (.slice b.a b.len b.cap) (by kernel_rfl) (by kernel_rfl) (by kernel_rfl) (Pl.free 4 (by kernel_rfl)) (Pl.load 4 32 (.tmp 119) _ (by kernel_rfl) (by decide) (fun w' hS => ldBs g 2 _ _ _ w' (AcBlk.c2 hS))) (show (fun w' => AcBlk w' g x b q) w.drew from h0) ?_
  refine Pl.H.take 6 122 (.pointer (some ⟨g, 3, none⟩)) (by kernel_rfl) (by kernel_rfl) (by kernel_rfl) (Pl.free 6 (by kernel_rfl)) (Pl.field 6 48 (.tmp 19) 3 _ (by kernel_rfl) (by decide) (fdAoB3 g)) (show (fun w' => AcBlk w' g x b q) w.drew from h0) ?_
  refine Pl.H.take 7 123 (.int .i64 x.n) (by kernel_rfl) (by kernel_rfl) (by kernel_rfl) (Pl.free 7 (by kernel_rfl)) (Pl.load 7 3 (.tmp 122) _ (by kernel_rfl) (by decide) (fun w' hS => ldInt g 3 _ w' (AcBlk.c3 hS))) (show (fun w' => AcBlk w' g x b q) w.drew from h0) ?_
  refine Pl.H.two 0 5 (by kernel_rfl) ?_ ?_
  · refine Pl.HOp.value 0 116 (rV dd Ld v h s sy) w.drew (by kernel_rfl) (by kernel_rfl) (by kernel_rfl) (Pl.loadW 0 43 (.tmp 13) _ (by kernel_rfl) (by decide) (ldR hb0)) (show (fun w' => AcBlk w' g x b q) w.drew from h0) ?_
    refine Pl.H.call 5 121 13 [(.tmp 120)] #[32] (by kernel_rfl) (by kernel_rfl) (by kernel_rfl) (Pl.free 5 (by kernel_rfl)) (by kernel_rfl) (by decide) entPageA (Calls.mono (hpage) ?_)
    rintro e w2 ⟨y, rfl, hr1⟩
    refine ⟨y, rfl, (hR1S y w2 hr1), ?_⟩
    refine Pl.H.call 8 124 14 [(.tmp 116), (.tmp 118), (.tmp 121), (.tmp 123)] #[43, 3, 32, 3] (by kernel_rfl) (by kernel_rfl) (by kernel_rfl) (Pl.free 8 (by kernel_rfl)) (by kernel_rfl) (by decide) entRPutA (Calls.mono (hput y w2 hr1) ?_)
    rintro e w3 ⟨z, rfl, hr2⟩
    obtain ⟨W4, hst, hS4, hr3⟩ := hstore z w3 hr2
    refine ⟨.tuple #[z, .int .i64 r], rfl, (hR2S z w3 hr2), ?_⟩
    refine Pl.H.take 9 115 (.tuple #[z, .int .i64 r]) (by kernel_rfl) (by kernel_rfl) (by kernel_rfl) (Pl.free 9 (by kernel_rfl)) (Pl.move 9 (.tmp 124) (by kernel_rfl) (by decide)) (hR2S z w3 hr2) ?_
    refine Pl.H.take 10 125 (z) (by kernel_rfl) (by kernel_rfl) (by kernel_rfl) (Pl.free 10 (by kernel_rfl)) (Pl.extr 10 (.tmp 115) 0 _ (by kernel_rfl) (by decide) (fun w => rfl)) (hR2S z w3 hr2) ?_
    refine Pl.H.take 11 126 (.int .i64 r) (by kernel_rfl) (by kernel_rfl) (by kernel_rfl) (Pl.free 11 (by kernel_rfl)) (Pl.extr 11 (.tmp 115) 1 _ (by kernel_rfl) (by decide) (fun w => rfl)) (hR2S z w3 hr2) ?_
    refine Pl.H.store 12 W4 (by kernel_rfl) (by kernel_rfl) (by kernel_rfl) (Pl.free 12 (by kernel_rfl)) (Pl.storeV 12 43 (.tmp 13) (.tmp 125) W4 (by kernel_rfl) (by decide) (by decide) hst) hS4 ?_
    refine Pl.H.take 13 16 (.int .i64 r) (by kernel_rfl) (by kernel_rfl) (by kernel_rfl) (Pl.free 13 (by kernel_rfl)) (Pl.assign 13 (.tmp 126) (by kernel_rfl) (by decide)) hS4 ?_
    refine Pl.H.done (by kernel_rfl) (fun A' hA' => ?_)
    rw [Pl.At.ext hA' (((((((((((((hA.put 117 _).put 118 _).put 119 _).put 120 _).put 122 _).put 123 _).put 116 _).put 121 _).put 124 _).put 115 _).put 125 _).put 126 _).put 16 _)]
    exact hend (fun d => if d = 117 then .pointer (some ⟨g, 1, none⟩) else if d = 118 then .int .i64 x.pg else if d = 119 then .pointer (some ⟨g, 2, none⟩) else if d = 120 then .slice b.a b.len b.cap else if d = 122 then .pointer (some ⟨g, 3, none⟩) else if d = 123 then .int .i64 x.n else if d = 116 then rV dd Ld v h s sy else if d = 121 then y else if d = 124 then .tuple #[z, .int .i64 r] else if d = 115 then .tuple #[z, .int .i64 r] else if d = 125 then z else if d = 126 then .int .i64 r else undef) _ hr3
  · refine Pl.HOp.call 5 121 13 [(.tmp 120)] #[32] (by kernel_rfl) (by kernel_rfl) (by kernel_rfl) (by kernel_rfl) (by decide) entPageA (Calls.mono (hpage) ?_)
    rintro e w2 ⟨y, rfl, hr1⟩
    refine ⟨y, rfl, (hR1S y w2 hr1), ?_⟩
    refine Pl.H.make 0 116 (rV dd Ld v h s sy) w2 (by kernel_rfl) (by kernel_rfl) (by kernel_rfl) (Pl.free 0 (by kernel_rfl)) (Pl.loadW 0 43 (.tmp 13) _ (by kernel_rfl) (by decide) (ldR (hR1B y w2 hr1))) (hR1S y w2 hr1) ?_
    rw [Pl.upd_comm _ 121 116 _ _ (by decide)]
    refine Pl.H.call 8 124 14 [(.tmp 116), (.tmp 118), (.tmp 121), (.tmp 123)] #[43, 3, 32, 3] (by kernel_rfl) (by kernel_rfl) (by kernel_rfl) (Pl.free 8 (by kernel_rfl)) (by kernel_rfl) (by decide) entRPutA (Calls.mono (hput y w2 hr1) ?_)
    rintro e w3 ⟨z, rfl, hr2⟩
    obtain ⟨W4, hst, hS4, hr3⟩ := hstore z w3 hr2
    refine ⟨.tuple #[z, .int .i64 r], rfl, (hR2S z w3 hr2), ?_⟩
    refine Pl.H.take 9 115 (.tuple #[z, .int .i64 r]) (by kernel_rfl) (by kernel_rfl) (by kernel_rfl) (Pl.free 9 (by kernel_rfl)) (Pl.move 9 (.tmp 124) (by kernel_rfl) (by decide)) (hR2S z w3 hr2) ?_
    refine Pl.H.take 10 125 (z) (by kernel_rfl) (by kernel_rfl) (by kernel_rfl) (Pl.free 10 (by kernel_rfl)) (Pl.extr 10 (.tmp 115) 0 _ (by kernel_rfl) (by decide) (fun w => rfl)) (hR2S z w3 hr2) ?_
    refine Pl.H.take 11 126 (.int .i64 r) (by kernel_rfl) (by kernel_rfl) (by kernel_rfl) (Pl.free 11 (by kernel_rfl)) (Pl.extr 11 (.tmp 115) 1 _ (by kernel_rfl) (by decide) (fun w => rfl)) (hR2S z w3 hr2) ?_
    refine Pl.H.store 12 W4 (by kernel_rfl) (by kernel_rfl) (by kernel_rfl) (Pl.free 12 (by kernel_rfl)) (Pl.storeV 12 43 (.tmp 13) (.tmp 125) W4 (by kernel_rfl) (by decide) (by decide) hst) hS4 ?_
    refine Pl.H.take 13 16 (.int .i64 r) (by kernel_rfl) (by kernel_rfl) (by kernel_rfl) (Pl.free 13 (by kernel_rfl)) (Pl.assign 13 (.tmp 126) (by kernel_rfl) (by decide)) hS4 ?_
    refine Pl.H.done (by kernel_rfl) (fun A' hA' => ?_)
    rw [Pl.At.ext hA' (((((((((((((hA.put 117 _).put 118 _).put 119 _).put 120 _).put 122 _).put 123 _).put 116 _).put 121 _).put 124 _).put 115 _).put 125 _).put 126 _).put 16 _)]
    exact hend (fun d => if d = 117 then .pointer (some ⟨g, 1, none⟩) else if d = 118 then .int .i64 x.pg else if d = 119 then .pointer (some ⟨g, 2, none⟩) else if d = 120 then .slice b.a b.len b.cap else if d = 122 then .pointer (some ⟨g, 3, none⟩) else if d = 123 then .int .i64 x.n else if d = 116 then rV dd Ld v h s sy else if d = 121 then y else if d = 124 then .tuple #[z, .int .i64 r] else if d = 115 then .tuple #[z, .int .i64 r] else if d = 125 then z else if d = 126 then .int .i64 r else undef) _ hr3
end Go.Proofs.YtcaaiihjolnkgaaGreat

namespace Go.Proofs.YtcaaiihjolnkgaaGreat
open Go.RowKit
set_option maxRecDepth 100000
set_option linter.unusedVariables false

section
variable {w0 w : World} {p dp gb n c tot m : Nat} {P Q : Po} {A : Nat → Prop}
theorem pa_read (h : PaX w0 w p dp gb n tot m P Q A) (hF : P.Fine n c) (k : Nat) (hk : k < n) : Calls Tryz.prog 10 #[at0 p, .int .i64 ((k : Nat) : Int)] w fun e w' => (PaX w0 w' p dp gb n tot m (P.letIn k) Q A ∧ KeptG A w w') ∧ ∃ s : Sl, e = .returned (.tuple #[s.val, .int .i64 0]) ∧ Own 5 1 w' s (vals ((P.letIn k).con k)) ∧ s.len = 512 := by
  obtain ⟨K, L, X, d, Ld, v, s, h⟩ := h
  refine (poolS_holds.read w p dp P L X n c k h.mm hF hk).mono ?_
  rintro e w' ⟨ha, r⟩
  exact ⟨h.act ha, r⟩
theorem keptG_below {w' : World} (h : PaX w0 w p dp gb n tot m P Q A) (hb : Below w.heap.size w w') : PaX w0 w' p dp gb n tot m P Q A ∧ KeptG A w w' := by
  obtain ⟨K, L, X, d, Ld, v, s, h⟩ := h
  exact ⟨⟨K, L, X, d, Ld, v, s, h.keep hb⟩, fun k hk => hb.block k (h.ap k hk).1⟩
theorem pa_readN (h : PaX w0 w p dp gb n tot m P Q A) (hF : P.Fine n c) (k : Int) (hk : ¬ (0 ≤ k ∧ k < ((n : Nat) : Int))) : Calls Tryz.prog 10 #[at0 p, .int .i64 k] w fun e w' => (PaX w0 w' p dp gb n tot m P Q A ∧ KeptG A w w') ∧ e = .returned (.tuple #[.slice none 0 0, .int .i64 3]) := by
  have h' := h
  obtain ⟨K, L, X, d, Ld, v, s, h⟩ := h
  refine (poolS_holds.readNone w p dp P L X n c k h.mm hF hk).mono ?_
  rintro e w' ⟨hb, r⟩
  exact ⟨keptG_below h' hb, r⟩
/-- Bytes of the act, which came from outside, or a block that was just made. -/
def Apart (w0 w : World) (a : Option Addr) (len : Nat) : Prop := ∀ ad, a = some ad → 0 < len → ad.block < w0.heap.size ∨ w.heap.size ≤ ad.block
theorem Pa.off {K : Home} {L : Dl} {X : Nat → Prop} {d : Dv} {Ld : DvL} {v s : Sl} (h : Pa w0 w p dp gb n tot m P Q A K L X d Ld v s) {a : Option Addr} {len : Nat} (ha : Apart w0 w a len) : Off (fun i => X i ∨ L.F dp i) a len := by
  intro ad e hl hk
  rcases ha ad e hl with h1 | h1
  · have := h.foot _ hk; omega
  · have := h.lt hk; omega
theorem Pa.bsS {K : Home} {L : Dl} {X : Nat → Prop} {d : Dv} {Ld : DvL} {v s : Sl} (h : Pa w0 w p dp gb n tot m P Q A K L X d Ld v s) {w2 : World} (hb : Below w.heap.size w w2) {q : Sl} {xs : List Nat} (hc : Came w2 q.a q.len q.cap xs) (ha : Apart w0 w q.a q.len) : BsS K w2 q xs := by
  refine ⟨hc, Nat.le_trans h.rp.low hb.size, fun hl ad e => (h.gg _).2 (fun hk => h.off ha ad e hl hk)⟩
theorem pa_put (h : PaX w0 w p dp gb n tot m P Q A) (hF : P.Fine n c) (k : Nat) (hk : k < n) (w2 : World) (hb : Below w.heap.size w w2) (a : Option Addr) (cap : Nat) (ys : List Nat) (hy : Came w2 a 512 cap ys) (ha : Apart w0 w a 512) (z : Int) (hz : (Lit.int .i64 z).wf = true) : Calls Tryz.prog 12 #[at0 p, .int .i64 ((k : Nat) : Int), .slice a 512 cap, .int .i64 z] w2 fun e w' => e = .returned (.int .i64 0) ∧ PaX w0 w' p dp gb n tot m (P.set k ys z) Q A ∧ KeptG A w w' := by
  obtain ⟨K, L, X, d, Ld, v, s, h⟩ := h
  have k2 := h.keep hb
  refine (poolS_holds.put w2 p dp P L X n c k a cap ys z k2.mm hF hk hy (h.off ha) hz).mono ?_
  rintro e w' ⟨hac, r⟩
  obtain ⟨x1, x2⟩ := k2.act hac
  exact ⟨r, x1, KeptG.trans (fun k hk => hb.block k (h.ap k hk).1) x2⟩
theorem pa_putN (h : PaX w0 w p dp gb n tot m P Q A) (hF : P.Fine n c) (k : Int) (hk : ¬ (0 ≤ k ∧ k < ((n : Nat) : Int))) (w2 : World) (hb : Below w.heap.size w w2) (a : Option Addr) (len cap : Nat) (z : Int) : Calls Tryz.prog 12 #[at0 p, .int .i64 k, .slice a len cap, .int .i64 z] w2 fun e w' => e = .returned (.int .i64 3) ∧ PaX w0 w' p dp gb n tot m P Q A ∧ KeptG A w w' := by
  have h' := h
  obtain ⟨K, L, X, d, Ld, v, s, h⟩ := h
  refine (poolS_holds.putNone w2 p dp P L X n c k a len cap z (h.keep hb).mm hF hk).mono ?_
  rintro e w' ⟨hb', r⟩
  obtain ⟨x1, x2⟩ := keptG_below h' (hb.trans (hb'.mono hb.size))
  exact ⟨r, x1, x2⟩
theorem pa_putA (h : PaX w0 w p dp gb n tot m P Q A) (hF : P.Fine n c) (k : Nat) (hk : k < n) (a : Option Addr) (len cap : Nat) (hl : len ≠ 512) (hb : len ≤ 9223372036854775807) (z : Int) : Calls Tryz.prog 12 #[at0 p, .int .i64 ((k : Nat) : Int), .slice a len cap, .int .i64 z] w fun e w' => e = .returned (.int .i64 1) ∧ PaX w0 w' p dp gb n tot m P Q A ∧ KeptG A w w' := by
  have h' := h
  obtain ⟨K, L, X, d, Ld, v, s, h⟩ := h
  refine (poolS_holds.putArg w p dp P L X n c k a len cap z h.mm hF hk hl hb).mono ?_
  rintro e w' ⟨hb', r⟩
  obtain ⟨x1, x2⟩ := keptG_below h' hb'
  exact ⟨r, x1, x2⟩
theorem pa_flush (h : PaX w0 w p dp gb n tot m P Q A) (hF : P.Fine n c) : Calls Tryz.prog 16 #[at0 p] w fun e w' => (PaX w0 w' p dp gb n tot m (P.flush n) Q A ∧ KeptG A w w') ∧ e = .returned (.int .i64 (((P.dirty n).length : Nat) : Int)) := by
  obtain ⟨K, L, X, d, Ld, v, s, h⟩ := h
  refine (poolS_holds.flush w p dp P L X n c h.mm hF).mono ?_
  rintro e w' ⟨ha, r⟩
  exact ⟨h.act ha, r⟩
theorem pa_evict (h : PaX w0 w p dp gb n tot m P Q A) (hF : P.Fine n c) (k : Nat) (hk : (P.m k).isSome = true) : Calls Tryz.prog 18 #[at0 p, .int .i64 ((k : Nat) : Int)] w fun e w' => (PaX w0 w' p dp gb n tot m (P.evict k) Q A ∧ KeptG A w w') ∧ e = .returned (.int .i64 0) := by
  obtain ⟨K, L, X, d, Ld, v, s, h⟩ := h
  refine (poolS_holds.evict w p dp P L X n c k h.mm hF hk).mono ?_
  rintro e w' ⟨ha, r⟩
  exact ⟨h.act ha, r⟩
theorem pa_evictN (h : PaX w0 w p dp gb n tot m P Q A) (hF : P.Fine n c) (k : Int) (hk : ¬ (0 ≤ k ∧ (P.m k.toNat).isSome = true)) (hw : (Lit.int .i64 k).wf = true) : Calls Tryz.prog 18 #[at0 p, .int .i64 k] w fun e w' => (PaX w0 w' p dp gb n tot m P Q A ∧ KeptG A w w') ∧ e = .returned (.int .i64 3) := by
  have h' := h
  obtain ⟨K, L, X, d, Ld, v, s, h⟩ := h
  refine (poolS_holds.evictNone w p dp P L X n c k h.mm hF hk hw).mono ?_
  rintro e w' ⟨hb', r⟩
  exact ⟨keptG_below h' hb', r⟩
theorem pa_append (h : PaX w0 w p dp gb n tot m P Q A) (hF : P.Fine n c) (a : Option Addr) (len cap : Nat) (ys : List Nat) (hy : Came w a len cap ys) (ha : Apart w0 w a len) (hs : P.D.ss.length + len ≤ 65536) : Calls Tryz.prog 20 #[at0 dp, .slice a len cap] w fun e w' => (PaX w0 w' p dp gb n tot m { P with D := P.D.append ys } Q A ∧ KeptG A w w') ∧ e = .returned (.int .i64 0) := by
  obtain ⟨K, L, X, d, Ld, v, s, h⟩ := h
  refine (append_ok w dp P.D L (poolS_holds.dev h.mm) n hF.ok.sp hF.ok.n64 hF.wet.dev.n1 _ len cap ys hy (fun ad e hl hk => h.off ha ad e hl (.inr hk)) (fun e => by rw [hF.wet.dev.ar] at e; cases e) (by have := hF.wet.dev.ss; omega) hs).mono ?_
  rintro e w' ⟨r, L', ht⟩
  exact ⟨h.act (acted_turn h.mm ht), r⟩
theorem pa_sync (h : PaX w0 w p dp gb n tot m P Q A) (hF : P.Fine n c) : Calls Tryz.prog 22 #[at0 dp] w fun e w' => (PaX w0 w' p dp gb n tot m { P with D := P.D.sync } Q A ∧ KeptG A w w') ∧ e = .returned (.tuple #[]) := by
  obtain ⟨K, L, X, d, Ld, v, s, h⟩ := h
  have hsane := hF.wet.dev.sane (by have := hF.cap; omega) (by have := hF.ss; omega)
  refine (sync_any w dp P.D L (poolS_holds.dev h.mm) n hsane (fun _ => hF.wet.dev.fit)).mono ?_
  rintro e w' ⟨r, L', ht⟩
  exact ⟨h.act (acted_turn h.mm ht), r⟩
theorem pa_synced (h : PaX w0 w p dp gb n tot m P Q A) (hF : P.Fine n c) : Calls Tryz.prog 23 #[at0 p] w fun e w' => (PaX w0 w' p dp gb n tot m P.synced Q A ∧ KeptG A w w') ∧ e = .returned (.tuple #[]) := by
  obtain ⟨K, L, X, d, Ld, v, s, h⟩ := h
  refine (poolS_holds.synced w p dp P L X n c h.mm hF).mono ?_
  rintro e w' ⟨ha, r⟩
  exact ⟨h.act ha, r⟩

def Dn (w0 w : World) (p dp gb n tot m : Nat) (P Q2 : Po) (A : Nat → Prop) (x : Value) (w' : World) : Prop := ∃ W, (Instr.storeAt 43 (.pointer (some ⟨gb, 0, none⟩)) x).run Tryz.prog w' = .ok () W ∧ PaX w0 W p dp gb n tot m P Q2 A ∧ KeptG A w W ∧ (∀ a len cap xs, (Came w a len cap xs ∨ Came w' a len cap xs) → Came W a len cap xs) ∧ Below w.heap.size w w'
theorem Pa.dn {K : Home} {L : Dl} {X : Nat → Prop} {d : Dv} {Ld : DvL} {v s : Sl} (h : Pa w0 w p dp gb n tot m P Q A K L X d Ld v s) (hA : ¬ A gb) {tot2 m2 : Nat} {Q2 : Po} {x : Value} {w' : World} (hb : Below w.heap.size w w') (hs : RpSays K n tot2 m2 Q2 x w') : Dn w0 w p dp gb n tot2 m2 P Q2 A x w' := by
  obtain ⟨W, h1, h2, h3, h4⟩ := h.fin hA hb hs
  exact ⟨W, h1, h2, h3, fun a len cap xs hc => h4 a len cap xs (hc.elim (fun e => ⟨e.bs.keep hb (Nat.le_refl _), e.nil, e.le, e.big⟩) id), hb⟩
def Dbox (w : World) (gb : Nat) (Q : Po) (d : Dv) (Ld : DvL) (v s : Sl) : Prop := RBlk w gb d Ld v Q.h s Q.sy
theorem pd_read (h : PaX w0 w p dp gb n tot m P Q A) (hA : ¬ A gb) (hF : Q.Fine n c) (ht : tot ≤ 600) (hm : m ≤ 890) (k : Nat) (hk : k < n) : ∃ d Ld v s, Dbox w gb Q d Ld v s ∧ Calls Tryz.prog 11 #[rV d Ld v Q.h s Q.sy, .int .i64 ((k : Nat) : Int)] w fun e w' => ∃ (x : Value) (q : Sl), e = .returned (.tuple #[x, q.val, .int .i64 0]) ∧ Dn w0 w p dp gb n tot (m + 4) P (Q.letIn k) A x w' ∧ Came w' q.a q.len q.cap ((Q.letIn k).con k) := by
  obtain ⟨K, L, X, d, Ld, v, s, h⟩ := h
  refine ⟨d, Ld, v, s, h.box, (rRead_ok h.rp hF ht hm k hk).mono ?_⟩
  rintro e w' ⟨hb, x, q, r, hs, hq⟩
  exact ⟨x, q, r, h.dn hA hb hs, hq.came⟩
theorem pd_readN (h : PaX w0 w p dp gb n tot m P Q A) (hA : ¬ A gb) (hn : n ≤ 64) (k : Int) (hk : ¬ (0 ≤ k ∧ k < ((n : Nat) : Int))) : ∃ d Ld v s, Dbox w gb Q d Ld v s ∧ Calls Tryz.prog 11 #[rV d Ld v Q.h s Q.sy, .int .i64 k] w fun e w' => ∃ (x : Value), e = .returned (.tuple #[x, .slice none 0 0, .int .i64 3]) ∧ Dn w0 w p dp gb n tot m P Q A x w' := by
  obtain ⟨K, L, X, d, Ld, v, s, h⟩ := h
  refine ⟨d, Ld, v, s, h.box, (rRead_none h.rp hn k hk).mono ?_⟩
  rintro e w' ⟨hb, x, r, hs⟩
  exact ⟨x, r, h.dn hA hb hs⟩
theorem pd_put (h : PaX w0 w p dp gb n tot m P Q A) (hA : ¬ A gb) (hF : Q.Fine n c) (ht : tot ≤ 600) (hm : m ≤ 890) (k : Nat) (hk : k < n) (z : Int) : ∃ d Ld v s, Dbox w gb Q d Ld v s ∧ ∀ w2 a cap ys, Below w.heap.size w w2 → Came w2 a 512 cap ys → Apart w0 w a 512 → Calls Tryz.prog 14 #[rV d Ld v Q.h s Q.sy, .int .i64 ((k : Nat) : Int), .slice a 512 cap, .int .i64 z] w2 fun e w' => ∃ (x : Value), e = .returned (.tuple #[x, .int .i64 0]) ∧ Dn w0 w p dp gb n tot (m + 4) P (Q.set k ys z) A x w' := by
  obtain ⟨K, L, X, d, Ld, v, s, h⟩ := h
  refine ⟨d, Ld, v, s, h.box, fun w2 a cap ys hb hy ha => (rPut_ok (h.rp.keep hb) hF ht hm k hk ⟨a, 512, cap⟩ ys (h.bsS hb (q := ⟨a, 512, cap⟩) hy ha) rfl z).mono ?_⟩
  rintro e w' ⟨hb', x, r, hs⟩
  exact ⟨x, r, h.dn hA (hb.trans (hb'.mono hb.size)) hs⟩
theorem pd_putN (h : PaX w0 w p dp gb n tot m P Q A) (hA : ¬ A gb) (hn : n ≤ 64) (k : Int) (hk : ¬ (0 ≤ k ∧ k < ((n : Nat) : Int))) : ∃ d Ld v s, Dbox w gb Q d Ld v s ∧ ∀ w2 y z, Below w.heap.size w w2 → Calls Tryz.prog 14 #[rV d Ld v Q.h s Q.sy, .int .i64 k, y, z] w2 fun e w' => ∃ (x : Value), e = .returned (.tuple #[x, .int .i64 3]) ∧ Dn w0 w p dp gb n tot m P Q A x w' := by
  obtain ⟨K, L, X, d, Ld, v, s, h⟩ := h
  refine ⟨d, Ld, v, s, h.box, fun w2 y z hb => (rPut_none (h.rp.keep hb) hn k y z hk).mono ?_⟩
  rintro e w' ⟨hb', x, r, hs⟩
  exact ⟨x, r, h.dn hA (hb.trans (hb'.mono hb.size)) hs⟩
theorem pd_putA (h : PaX w0 w p dp gb n tot m P Q A) (hA : ¬ A gb) (hn : n ≤ 64) (k : Nat) (hk : k < n) (a : Option Addr) (len cap : Nat) (z : Value) (hl : len ≠ 512) : ∃ d Ld v s, Dbox w gb Q d Ld v s ∧ Calls Tryz.prog 14 #[rV d Ld v Q.h s Q.sy, .int .i64 ((k : Nat) : Int), .slice a len cap, z] w fun e w' => ∃ (x : Value), e = .returned (.tuple #[x, .int .i64 1]) ∧ Dn w0 w p dp gb n tot m P Q A x w' := by
  obtain ⟨K, L, X, d, Ld, v, s, h⟩ := h
  refine ⟨d, Ld, v, s, h.box, (rPut_arg h.rp hn k hk a len cap z hl).mono ?_⟩
  rintro e w' ⟨hb', x, r, hs⟩
  exact ⟨x, r, h.dn hA hb' hs⟩
theorem pd_lists (h : PaX w0 w p dp gb n tot m P Q A) (hn : n ≤ 64) : ∃ d Ld v s, Dbox w gb Q d Ld v s ∧ Calls Tryz.prog 15 #[rV d Ld v Q.h s Q.sy] w fun e w' => (PaX w0 w' p dp gb n tot m P Q A ∧ KeptG A w w') ∧ ∃ a b : Sl, e = .returned (.tuple #[a.val, b.val]) ∧ b.len = (Q.dirty n).length := by
  have h' := h
  obtain ⟨K, L, X, d, Ld, v, s, h⟩ := h
  refine ⟨d, Ld, v, s, h.box, (rLists_any h.rp.sh (Nat.le_trans (inl_len _ n) (by omega)) d Ld v Q.h Q.sy).mono ?_⟩
  rintro e w' ⟨hb, a, b, r, _, ho, _⟩
  rw [inl_dirty] at ho
  refine ⟨keptG_below h' hb, a, b, r, ?_⟩
  have := ho.1
  simp [ivals] at this
  exact this.symm
theorem pd_flush (h : PaX w0 w p dp gb n tot m P Q A) (hA : ¬ A gb) (hF : Q.Fine n c) (ht : tot ≤ 600) (hm : m + 4 * n ≤ 890) : ∃ d Ld v s, Dbox w gb Q d Ld v s ∧ Calls Tryz.prog 17 #[rV d Ld v Q.h s Q.sy] w fun e w' => ∃ (x : Value) (m2 : Nat), e = .returned x ∧ m2 ≤ m + 4 * n ∧ Dn w0 w p dp gb n tot m2 P (Q.flush n) A x w' := by
  obtain ⟨K, L, X, d, Ld, v, s, h⟩ := h
  have hl : (Q.inn n).length ≤ n := by rw [← inl_pages, List.length_map]; exact inl_len _ n
  refine ⟨d, Ld, v, s, h.box, (rFlush_any h.rp hF ht (by omega) (by have := hF.ok.n64; omega)).mono ?_⟩
  rintro e w' ⟨hb', x, r, hs⟩
  exact ⟨x, _, r, by omega, h.dn hA hb' hs⟩
theorem pd_evict (h : PaX w0 w p dp gb n tot m P Q A) (hA : ¬ A gb) (hF : Q.Fine n c) (ht : tot ≤ 600) (hm : m ≤ 890) (k : Nat) (hk : (Q.m k).isSome = true) : ∃ d Ld v s, Dbox w gb Q d Ld v s ∧ Calls Tryz.prog 19 #[rV d Ld v Q.h s Q.sy, .int .i64 ((k : Nat) : Int)] w fun e w' => ∃ (x : Value), e = .returned (.tuple #[x, .int .i64 0]) ∧ Dn w0 w p dp gb n tot (m + 4) P (Q.evict k) A x w' := by
  obtain ⟨K, L, X, d, Ld, v, s, h⟩ := h
  refine ⟨d, Ld, v, s, h.box, (rEvict_ok h.rp hF ht hm k hk).mono ?_⟩
  rintro e w' ⟨hb', x, r, hs⟩
  exact ⟨x, r, h.dn hA hb' hs⟩
theorem pd_evictN (h : PaX w0 w p dp gb n tot m P Q A) (hA : ¬ A gb) (k : Int) (hk : ¬ (0 ≤ k ∧ (Q.m k.toNat).isSome = true)) : ∃ d Ld v s, Dbox w gb Q d Ld v s ∧ Calls Tryz.prog 19 #[rV d Ld v Q.h s Q.sy, .int .i64 k] w fun e w' => ∃ (x : Value), e = .returned (.tuple #[x, .int .i64 3]) ∧ Dn w0 w p dp gb n tot m P Q A x w' := by
  obtain ⟨K, L, X, d, Ld, v, s, h⟩ := h
  refine ⟨d, Ld, v, s, h.box, (rEvict_none h.rp k hk).mono ?_⟩
  rintro e w' ⟨hb', x, r, hs⟩
  exact ⟨x, r, h.dn hA hb' hs⟩
theorem pd_synced (h : PaX w0 w p dp gb n tot m P Q A) (hA : ¬ A gb) (ht : tot ≤ 600) : ∃ d Ld v s, Dbox w gb Q d Ld v s ∧ Calls Tryz.prog 25 #[rV d Ld v Q.h s Q.sy] w fun e w' => ∃ (x : Value), e = .returned x ∧ Dn w0 w p dp gb n tot m P Q.synced A x w' := by
  obtain ⟨K, L, X, d, Ld, v, s, h⟩ := h
  refine ⟨d, Ld, v, s, h.box, (rSynced_any h.rp ht).mono ?_⟩
  rintro e w' ⟨hb', r⟩
  have hk := h.rp.keep hb'
  exact ⟨_, r, h.dn hA hb' ⟨d, Ld, v, s, rfl, hk.dv, hk.rel, hk.good, hk.ck, hk.sh, hk.low⟩⟩
/-- The device alone is laid into the box. -/
def Dd (w0 w : World) (p dp gb n tot m : Nat) (P Q2 : Po) (A : Nat → Prop) (x : Value) (w' : World) : Prop := ∃ W, (Instr.storeAt 37 (.pointer (some ⟨gb, 0, none⟩)) x).run Tryz.prog w' = .ok () W ∧ PaX w0 W p dp gb n tot m P Q2 A ∧ KeptG A w W ∧ ∀ a len cap xs, (Came w a len cap xs ∨ Came w' a len cap xs) → Came W a len cap xs
theorem Pa.dd {K : Home} {L : Dl} {X : Nat → Prop} {d : Dv} {Ld : DvL} {v s : Sl} (h : Pa w0 w p dp gb n tot m P Q A K L X d Ld v s) (hA : ¬ A gb) {tot2 m2 : Nat} {D2 : Ds} {d2 : Dv} {Ld2 : DvL} {w' : World} (hb : Below w.heap.size w w') (hd : DvIn K w' d2 Ld2) (hr : Rel D2 d2.abs) (hg : Good n tot2 m2 d2.abs) : Dd w0 w p dp gb n tot2 m2 P { Q with D := D2 } A (d2.val Ld2) w' := by
  have hk := h.keep hb
  obtain ⟨W, hst, hB, hf, hsz⟩ := stRD hk.box d2 Ld2
  have hbx : ∃ d' Ld' v' h' s' sy', RBlk w' gb d' Ld' v' h' s' sy' := ⟨_, _, _, _, _, _, hk.box⟩
  have hI : RpIn K w' n tot2 m2 { Q with D := D2 } d2 Ld2 v s := ⟨hd, hr, hg, hk.rp.ck, hk.rp.sh, hk.rp.low⟩
  refine ⟨W, hst, ⟨K, L, X, d2, Ld2, v, s, poolS_holds.frm hk.mm hf (fun k e q => hk.nb (by rw [← q]; exact e)), hk.foot, hk.gg, hI.box hf hbx, hB, hk.ge, fun k e => ⟨Nat.lt_of_lt_of_le (hk.ap k e).1 hf.size, (hk.ap k e).2⟩, hk.e.trans (hf.below hk.e.size (fun k e => by rw [e]; exact h.ge))⟩, fun k e => ?_, fun a len cap xs hc => ?_⟩
  · have h1 := hb.block k (h.ap k e).1
    have h2 := hf.block k (hk.ap k e).1 (fun q => hA (by rw [← q]; exact e))
    exact h2.trans h1
  · have hc' : Came w' a len cap xs := hc.elim (fun e => ⟨e.bs.keep hb (Nat.le_refl _), e.nil, e.le, e.big⟩) id
    obtain ⟨C, t, fz, hcc, hno, _⟩ := hk.box.box
    exact came_box hc' (F := fun i => i = gb) (fun i hi hl => hf.block i hl hi) (fun i hi => by subst hi; exact ⟨C, t, fz, hcc, hno⟩)
theorem pd_append (h : PaX w0 w p dp gb n tot m P Q A) (hA : ¬ A gb) (hF : Q.Fine n c) (hm : m ≤ 890) (a : Option Addr) (len cap : Nat) (ys : List Nat) (hy : Came w a len cap ys) (ha : Apart w0 w a len) (ht : tot + len ≤ 600) : ∃ d Ld v s, Dbox w gb Q d Ld v s ∧ Calls Tryz.prog 21 #[d.val Ld, .slice a len cap] w fun e w' => ∃ (x : Value), e = .returned (.tuple #[x, .int .i64 0]) ∧ Dd w0 w p dp gb n (tot + len) (m + 1) P { Q with D := Q.D.append ys } A x w' := by
  obtain ⟨K, L, X, d, Ld, v, s, h⟩ := h
  have hyl : ys.length = len := hy.bs.1
  have hg := h.rp.good
  have e1 : d.now.st.length ≤ 600 := by have := hg.nt; have e : d.abs.now.st = d.now.st := rfl; rw [e] at this; omega
  have e2 : d.now.pg.length = 512 * n := hg.np
  have e3 : d.done.length ≤ m := by
    have h1 := hg.len
    have e : d.abs.done.length = d.done.length := by show (d.done.map _).length = _; rw [List.length_map]
    omega
  have hn := hF.ok.n64
  refine ⟨d, Ld, v, s, h.box, (refAppend_any d Ld ⟨a, len, cap⟩ ys w h.rp.dv (h.bsS (Below.refl _ _) (q := ⟨a, len, cap⟩) hy ha) (by omega) (by omega) (by omega) hg.mx (by omega)).mono ?_⟩
  rintro e w' ⟨hb, d', L', r, hd, habs⟩
  refine ⟨_, r, ?_⟩
  have h1 := h.rp.rel.append ys
  have h2 := hg.act ⟨-1, ys, false, 0⟩ (.app rfl rfl (by show ys.length ≤ 600; omega) rfl hy.bs.2.1) (by omega)
  rw [← habs] at h1 h2
  have e5 : (apOf [(⟨-1, ys, false, 0⟩ : Pt)]).length = len := by simp [apOf, hyl]
  rw [e5] at h2
  exact h.dd hA hb hd h1 h2
theorem pd_sync (h : PaX w0 w p dp gb n tot m P Q A) (hA : ¬ A gb) (ht : tot ≤ 600) : ∃ d Ld v s, Dbox w gb Q d Ld v s ∧ Calls Tryz.prog 24 #[d.val Ld] w fun e w' => ∃ (x : Value), e = .returned x ∧ Dd w0 w p dp gb n tot m P { Q with D := Q.D.sync } A x w' := by
  obtain ⟨K, L, X, d, Ld, v, s, h⟩ := h
  obtain ⟨_, hr, hg⟩ := h.rp.rel.sync h.rp.good ht
  refine ⟨d, Ld, v, s, h.box, (refSync_any d Ld w h.rp.dv).mono ?_⟩
  rintro e w' ⟨hb, L', r, hd⟩
  exact ⟨_, r, h.dd hA hb hd (by rw [d.sync_abs]; exact hr) (by rw [d.sync_abs]; exact hg)⟩
def Pg (w : World) (bs : List Nat) (y : Value) (w2 : World) : Prop := Below w.heap.size w w2 ∧ y = .slice (some ⟨w.heap.size, 0, none⟩) 512 512 ∧ Came w2 (some ⟨w.heap.size, 0, none⟩) 512 512 (pageOf bs)
theorem page24 {w : World} {b : Sl} {bs : List Nat} (hc : Came w b.a b.len b.cap bs) : Calls Tryz.prog 13 #[.slice b.a b.len b.cap] w.drew fun e w2 => ∃ y, e = .returned y ∧ Pg w bs y w2 := by
  have hb := below_drew w
  refine (page_any w.drew b.a b.len b.cap bs ⟨hc.bs.keep hb (Nat.le_refl _), hc.nil, hc.le, hc.big⟩).mono ?_
  rintro e w2 ⟨hb2, r, hc2⟩
  exact ⟨_, r, rBelow hb hb2, rfl, hc2⟩
theorem apart_new {w0 w : World} {len : Nat} : Apart w0 w (some ⟨w.heap.size, 0, none⟩) len := by
  intro ad e _
  cases e
  exact .inr (Nat.le_refl _)
theorem put24 (h : PaX w0 w p dp gb n tot m P Q A) (hF : P.Fine n c) {x : Ac} {bs : List Nat} {k : Nat} (hk : x.pg = ((k : Nat) : Int)) (hkn : k < n) (hz : (Lit.int .i64 x.n).wf = true) (y : Value) (w2 : World) (hp : Pg w bs y w2) : Calls Tryz.prog 12 #[.pointer (some ⟨p, 0, none⟩), .int .i64 x.pg, y, .int .i64 x.n] w2 fun e w' => e = .returned (.int .i64 0) ∧ PaX w0 w' p dp gb n tot m (P.set k (pageOf bs) x.n) Q A ∧ KeptG A w w' := by
  obtain ⟨hb, rfl, hc⟩ := hp
  rw [hk]
  exact pa_put h hF k hkn w2 hb _ _ _ hc apart_new x.n hz
theorem put24N (h : PaX w0 w p dp gb n tot m P Q A) (hF : P.Fine n c) {x : Ac} {bs : List Nat} (hk : ¬ (0 ≤ x.pg ∧ x.pg < ((n : Nat) : Int))) (y : Value) (w2 : World) (hp : Pg w bs y w2) : Calls Tryz.prog 12 #[.pointer (some ⟨p, 0, none⟩), .int .i64 x.pg, y, .int .i64 x.n] w2 fun e w' => e = .returned (.int .i64 3) ∧ PaX w0 w' p dp gb n tot m P Q A ∧ KeptG A w w' := by
  obtain ⟨hb, rfl, hc⟩ := hp
  exact pa_putN h hF x.pg hk w2 hb _ _ _ x.n
end
end Go.Proofs.YtcaaiihjolnkgaaGreat
