/-
  Lemmas.
-/
import Derived.Test.YtdojdcncncgncaaGreatKnan
import Derived.Test.YtdojdcncncgncaaGreatKnaq
namespace Go.Proofs.YtdojdcncncgncaaGreat
open Go.RowKit
set_option linter.unusedVariables false
set_option maxRecDepth 100000
set_option maxHeartbeats 4000000
variable {w:World}{t:List Int}{v:Sl}
theorem ZaF {w':World}{b : Nat} (h : w'.heap[b]? = w.heap[b]?) (o : Nat) : w'.cell? ⟨b, o, none⟩ = w.cell? ⟨b, o, none⟩ := by
 unfold World.cell?
 simp only [h]
theorem ZeE : (Tryz.prog.info? 3).map (fun i => (i.zero, i.size, i.bytes)) = some (some (.int .i64 0), 1, 8) := by kernel_rfl
def Zar (t : List Int) : List Value := t.map fun x => .int .i64 x
theorem ZgU (t : List Int) : ∀ u ∈ Zar t, u.oneCell' = true := by
 intro u hu
 obtain ⟨i, _, rfl⟩ := List.mem_map.1 hu
 rfl
theorem Zbt (t : List Int) : (Zar t).length = t.length := by simp [Zar]
theorem Zea {t : List Int} {i : Nat} (h : i < t.length) : (Zar t)[i]? = some (.int .i64 (t.getD i 0)) := by simp [Zar, List.getD, h]
theorem ZgV (t : List Int) (i : Nat) (x : Int) : Zar (t.set i x) = (Zar t).set i (.int .i64 x) := by simp [Zar, List.map_set]
def OwnN (w : World) (v : Sl) (t : List Int) : Prop := Own 3 1 w v (Zar t)
theorem OwnN.len (h : OwnN w v t) : t.length = v.len := by
 have := h.1
 rw [Zbt] at this
 omega
theorem OwnN.cellAt (h : OwnN w v t) {g off : Nat} (ha : v.a = some ⟨g, off, none⟩) {i : Nat} (hi : i < v.len) : w.cell? ⟨g, off + i, none⟩ = some (.int .i64 (t.getD i 0)) := by
 have := Own.cell h ha i _ (Zea (by rw [h.len]; exact hi))
 rwa [Addr.add_lit] at this
theorem OwnN.frozen (h : OwnN w v t) {g off : Nat} (ha : v.a = some ⟨g, off, none⟩) (o : Nat) : w.frozen? ⟨g, o, none⟩ = false := by
 obtain ⟨cur, hc⟩ := Own.kind h (k := g) (by rw [Sl.blk, ha]; rfl)
 exact frozen_of_row w g _ cur 3 hc
theorem OwnN.pos {w : World} {v : Sl} {t : List Int} (h : OwnN w v t) (hp : 0 < v.len) : ∃ g off, v.a = some ⟨g, off, none⟩ := by
  rcases h.2 with ⟨h0, _⟩ | ⟨g, off, cur, ha, _⟩
  · rw [h0] at hp; exact absurd hp (Nat.not_lt_zero _)
  · exact ⟨g, off, ha⟩
theorem OwnN.gi {D : Nat → Prop} (h : OwnN w v t) (hD : ∀ k, v.blk = some k → D k) (hm : v.len ≤ 1000000) : Gi D w v t := by
 refine ⟨h.len, Own.nilcap h, Own.lecap h, hm, fun ad ha _ => hD _ (by rw [Sl.blk, ha]; rfl), fun i hi => ?_⟩
 obtain ⟨g, off, ha⟩ := h.pos (by omega)
 exact ⟨g, off, ha, h.cellAt ha hi⟩
theorem Gi.src {D:Nat→Prop}(h:Gi D w v t):Src Tryz.prog 1 46 v.val v.len (Zar t) w:=by
 obtain⟨a,len,cap⟩:=v
 have hl:t.length=len:=h.len
 cases a with
 | none =>
  have hc:cap=0:=h.nil rfl
  have h0:len=0:=by have:len≤cap:=h.le;omega
  subst hc;subst h0
  have:t=[]:=List.eq_nil_of_length_eq_zero hl
  subst this
  exact Src.ofNil w Tryz.underlying46 0
 | some ad =>
  refine Src.ofSlice w Tryz.underlying46 ad len cap (Zar t) (by rw [Zbt,hl,Nat.mul_one]) (fun j u hj=>?_) (ZgU t)
  have hjl:j<t.length:=by
   have:=(List.getElem?_eq_some_iff.1 hj).1
   rwa [Zbt] at this
  obtain⟨b,off,e,c0⟩:=h.cell j (by show j<len;omega)
  obtain rfl:=Option.some.inj e
  rw [Addr.add_lit,c0,← Zea hjl,hj]
section
variable {ops : Array Oper} {rest : List Oper} {o : Oper} {a : Act} {Q : Exit → Act → World → Prop}
end
theorem Zml (w : World) (g off len cap : Nat) (t : List Int) (o : OwnN w ⟨some ⟨g, off, none⟩, len, cap⟩ t) (i : Nat) (hi : i < len) (x : Int) : ∃ W, (Instr.storeAt 3 (.pointer (some ⟨g, off + i, none⟩)) (.int .i64 x)).run Tryz.prog w = .ok () W ∧ OwnN W ⟨some ⟨g, off, none⟩, len, cap⟩ (t.set i x) ∧ Frm (fun k => k = g) w W := by
 have k0 := o.cellAt rfl hi
 have f0 := o.frozen rfl (off + i)
 refine ⟨w.setCell ⟨g, off + i, none⟩ (.int .i64 x), ?_, ?_, (Frm.refl (fun k => k = g) w).setCell (p := ⟨g, off + i, none⟩) rfl _⟩
 · simp [go_sem, Instr.storeAt, k0, f0]
 · unfold OwnN
   rw [ZgV]
   exact Own.setCell o rfl i _
end Go.Proofs.YtdojdcncncgncaaGreat
