/-
  Lemmas.
-/
import Derived.Test.YtdojdcncncgncaaGreatKnar
import Derived.Test.YtdojdcncncgncaaGreatKnaw
namespace Go.Proofs.YtdojdcncncgncaaGreat
open Go.RowKit
set_option linter.unusedVariables false
set_option maxRecDepth 100000
set_option maxHeartbeats 4000000
variable {w w':World}{x:Bt}{p:Nat}{s:Sl}
structure Lb where
  u : Sl
  v : Sl
  t : List Int
  l : List Sb
def Lb.zero : Lb := ⟨Sl.nil, Sl.nil, [], []⟩
def Lb.lf (x : Lb) : Lf := ⟨x.t, bss x.l⟩
def lfs (L : List Lb) : List Lf := L.map Lb.lf
theorem Za6 (L : List Lb) : (lfs L).length = L.length := by simp [lfs]
theorem Zda (L : List Lb) (i : Nat) : lf (lfs L) i = (L.getD i Lb.zero).lf := by
 unfold lf lfs
 by_cases h : i < L.length
 · simp [List.getD, h]
 · have h' : L.length ≤ i := Nat.le_of_not_lt h
   simp [List.getD, h', Lb.zero, Lb.lf, Lf.zero, bss]
theorem ZiK (L : List Lb) (i : Nat) (x : Lb) : lfs (L.set i x) = (lfs L).set i x.lf := by simp [lfs, List.map_set]
structure Gl (D : Nat → Prop) (w : World) (s : Sl) (L : List Lb) : Prop where
  len : L.length = s.len
  nil : s.a = none → s.cap = 0
  le : s.len ≤ s.cap
  big : s.len ≤ 900
  home : ∀ ad, s.a = some ad → 0 < s.len → D ad.block
  cell : ∀ i, i < s.len → ∃ b off, s.a = some ⟨b, off, none⟩ ∧ w.cell? ⟨b, off + i * 2, none⟩ = some (L.getD i Lb.zero).u.val ∧ w.cell? ⟨b, off + i * 2 + 1, none⟩ = some (L.getD i Lb.zero).v.val
  it : ∀ x ∈ L, Gi D w x.u x.t ∧ Gb D w x.v x.l
theorem Zdy {L : List Lb} {i : Nat} (h : i < L.length) : L.getD i Lb.zero ∈ L := by simp [List.getD, h]
theorem Gl.keep {D : Nat → Prop} {L : List Lb} (h : Gl D w s L) (hk : Kept D w w') : Gl D w' s L := by
 refine ⟨h.len, h.nil, h.le, h.big, h.home, fun i hi => ?_, fun x hx => ⟨(h.it x hx).1.keep hk, (h.it x hx).2.keep hk⟩⟩
 obtain ⟨b, off, ha, c0, c1⟩ := h.cell i hi
 have hD := h.home _ ha (by omega)
 exact ⟨b, off, ha, hk.cell c0 hD, hk.cell c1 hD⟩
theorem Gl.below {D : Nat → Prop} {B : Nat} {w w' : World} {s : Sl} {L : List Lb} (h : Gl D w s L) (hb : Below B w w') (hB : w.heap.size ≤ B) : Gl D w' s L := h.keep (Kept.all hb hB)
theorem Gl.wide {D E : Nat → Prop} {w : World} {s : Sl} {L : List Lb} (h : Gl D w s L) (hE : ∀ k, D k → E k) : Gl E w s L :=
  ⟨h.len, h.nil, h.le, h.big, fun ad ha hl => hE _ (h.home ad ha hl), h.cell, fun x hx => ⟨(h.it x hx).1.wide hE, (h.it x hx).2.wide hE⟩⟩
theorem Gl.at {D : Nat → Prop} {w : World} {s : Sl} {L : List Lb} (h : Gl D w s L) {i : Nat} (hi : i < s.len) : Gi D w (L.getD i Lb.zero).u (L.getD i Lb.zero).t ∧ Gb D w (L.getD i Lb.zero).v (L.getD i Lb.zero).l :=
  h.it _ (Zdy (by rw [h.len]; exact hi))
theorem Zc3 (b o len cap k:Nat)(hk:k<len)(w:World):(Instr.indexAt 22 (.slice (some ⟨b,o,none⟩) len cap) (.int .i64 (k:Nat))).run Tryz.prog w=.ok (.pointer (some ⟨b,o+k*2,none⟩)) w:=by
 have h22:Tryz.prog.underlying 22=some (.slice (Tryz.prog.elem 22)):=by kernel_rfl
 have h1:(0:Int)≤(k:Int):=by omega
 simp [go_sem,Instr.indexAt,run_underlying h22,h1,Addr.add_lit]
 omega
theorem ZaR {b o : Nat} {u v : Sl} (c0 : w.cell? ⟨b, o, none⟩ = some u.val) (c1 : w.cell? ⟨b, o + 1, none⟩ = some v.val) : (Instr.loadAt 67 (.pointer (some ⟨b, o, none⟩))).run Tryz.prog w = .ok (lfV u v) w := by
 unfold Sl.val at c0 c1
 simp [go_sem, c0, c1, lfV, Sl.val]
structure ColF (w : World) (x : Rx) : Prop where
  fs : Fs w x.a x.n x.c x.r.xs
  home : ∀ b off, x.a = some ⟨b, off, none⟩ → 0 < x.n → ∃ C fr, w.heap[b]? = some (Obj.cells C 23 fr)
theorem ColF.colR {w : World} {x : Rx} (h : ColF w x) (w0 : World) : ColR w0 w x := ⟨h.fs, fun b off ha hn => .inr (h.home b off ha hn)⟩
theorem ColF.frm {F:Nat→Prop}{W:World}{x:Rx}(h:ColF w x)(f:Frm F w W)(hF:∀k,F k→∀C fr,w.heap[k]? ≠ some (Obj.cells C 23 fr)):ColF W x:=by
 have hsame:∀b off,x.a=some ⟨b,off,none⟩→0<x.n→W.heap[b]? = w.heap[b]?:=by
  intro b off ha hn
  obtain⟨C,fr,hk⟩:=h.home b off ha hn
  exact f.block b (Array.getElem?_eq_some_iff.1 hk).1 (fun e=>hF b e C fr hk)
 refine⟨h.fs.same hsame,fun b off ha hn=>?_⟩
 obtain⟨C,fr,hk⟩:=h.home b off ha hn
 exact⟨C,fr,(hsame b off ha hn).trans hk⟩
theorem ColF.keep {w W : World} {x : Rx} (h : ColF w x) (hb : Below w.heap.size w W) : ColF W x := h.frm (F := fun _ => False) (Frm.ofBelow hb) (fun _ h => h.elim)
theorem ColF.owns {base : Nat} {u : Rw} {a : Option Addr} {n c : Nat} (h : OwnsV 23 w base (.slice a n c) (fVals u.xs)) (hf : Fs w a n c u.xs) : ColF w ⟨u, a, n, c⟩ := by
 refine ⟨hf, fun b off ha hn => ?_⟩
 rcases h.2 with ⟨hv, h0⟩ | ⟨g, cp, cur, hv, _, hg, _⟩
 · simp only [Value.slice.injEq] at hv
   simp only at ha
   rw [hv.1] at ha
   cases ha
 · simp only [Value.slice.injEq] at hv
   simp only at ha
   rw [hv.1] at ha
   cases ha
   exact ⟨_, _, hg⟩
theorem ZeP (i : Nat) : ∀ (s : List (List Nat)) (k : Nat), (rowsS i s k).length ≤ s.length
  | [], _ => by simp [rowsS]
  | x :: s, k => by
    have := ZeP i s (k + 1)
    simp only [rowsS, List.length_append, List.length_cons]
    cases decH x <;> simp only [List.length_nil, List.length_cons] <;> omega
theorem Zlk {b o : Nat} {x : Bt} {w : World} (c0 : w.cell? ⟨b, o, none⟩ = some (.int .i64 x.1)) (c1 : w.cell? ⟨b, o + 1, none⟩ = some (.int .i64 x.2)) : (Instr.loadAt 26 (.pointer (some ⟨b, o, none⟩))).run Tryz.prog w = .ok (btV x) w := by
  simp [go_sem, c0, c1, btV]
def BtBlk (w : World) (p : Nat) (x : Bt) : Prop := w.heap[p]? = some (Obj.cells #[.int .i64 x.1, .int .i64 x.2] 26 (0, 0))
theorem BtBlk.lt {w : World} {p : Nat} {x : Bt} (h : BtBlk w p x) : p < w.heap.size := (Array.getElem?_eq_some_iff.1 h).1
theorem BtBlk.keep {w w' : World} {p : Nat} {x : Bt} (h : BtBlk w p x) (hb : Below w.heap.size w w') : BtBlk w' p x := (hb.block p h.lt).trans h
theorem BtBlk.c0 {w : World} {p : Nat} {x : Bt} (h : BtBlk w p x) : w.cell? ⟨p, 0, none⟩ = some (.int .i64 x.1) := by unfold BtBlk at h; rw [cell_of_row _ _ _ _ _ _ h]; rfl
theorem BtBlk.c1 {w : World} {p : Nat} {x : Bt} (h : BtBlk w p x) : w.cell? ⟨p, 1, none⟩ = some (.int .i64 x.2) := by unfold BtBlk at h; rw [cell_of_row _ _ _ _ _ _ h]; rfl
theorem BtBlk.fz {w : World} {p : Nat} {x : Bt} (h : BtBlk w p x) (o : Nat) : w.frozen? ⟨p, o, none⟩ = false := frozen_of_row w p _ _ _ h
theorem Zay (w : World) (x : Bt) : BtBlk (w.alloc (.cells #[.int .i64 x.1, .int .i64 x.2] 26)) w.heap.size x := heap_alloc_new w _
def rk (R : List Rx) (i : Nat) : Nat := (R.getD i Rx.zero).r.key
end Go.Proofs.YtdojdcncncgncaaGreat
