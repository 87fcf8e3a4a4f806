/-
  Rows that are told: small facts.
-/
import Derived.Test.YtpdkeghmpnanpaaRowH
namespace Go.Proofs.Ytpdkeghmpnanpaa
open Go.RowKit

def zeroR : Rw := ⟨0, false, [], 0, 0, 0⟩

theorem fs_nil (w : World) : Fs w none 0 0 [] := ⟨⟨rfl, (fun u hu => by cases hu), fun j hj => by omega⟩, (fun x hx => by cases hx), fun _ => rfl, Nat.le_refl _, by decide⟩

theorem chk_eq (m : Bool) : (chk m == 0) = m := by cases m <;> decide

theorem OwnsV.form {e : TypeId} {w : World} {base : Nat} {v : Value} {vs : List Value} (h : OwnsV e w base v vs) : ∃ a len cap, v = .slice a len cap := by
  rcases h.2 with ⟨hv, _⟩ | ⟨g, cap, cur, hv, _⟩
  · exact ⟨_, _, _, hv⟩
  · exact ⟨_, _, _, hv⟩

theorem load_flsV (b o : Nat) (v : Value) (hv : ∃ a len cap, v = .slice a len cap) (w : World) (h : w.cell? ⟨b, o, none⟩ = some v) : (Instr.loadAt 24 (.pointer (some ⟨b, o, none⟩))).run Try.prog w = .ok v w := by
  obtain ⟨a, len, cap, rfl⟩ := hv
  exact load_fls b o a len cap w h

theorem store_flsV (b o : Nat) (v u : Value) (hv : ∃ a len cap, v = .slice a len cap) (w : World) (h : w.cell? ⟨b, o, none⟩ = some u) (hf : w.frozen? ⟨b, o, none⟩ = false) : (Instr.storeAt 24 (.pointer (some ⟨b, o, none⟩)) v).run Try.prog w = .ok () (w.setCell ⟨b, o, none⟩ v) := by
  obtain ⟨a, len, cap, rfl⟩ := hv
  simp [go_sem, Instr.storeAt, h, hf]

theorem load_rw (b : Nat) (r : Rw) (c : Value) (hc : ∃ a len cap, c = .slice a len cap) (w : World) (h : RwBlk w b r c) : (Instr.loadAt 28 (.pointer (some ⟨b, 0, none⟩))).run Try.prog w = .ok (r.val c) w := by
  have c0 := h.c0
  have c1 := h.c1
  have c2 := h.c2
  have c3 := h.c3
  have c4 := h.c4
  have c5 := h.c5
  obtain ⟨a, len, cap, rfl⟩ := hc
  simp [go_sem, c0, c1, c2, c3, c4, c5, Rw.val]

theorem OwnsV.fs {w : World} {base : Nat} {v : Value} {xs : List Nat} {n : Nat} (h : OwnsV 23 w base v (fVals xs)) (hx : ∀ x ∈ xs, x < 18446744073709551616) (hn : xs.length = n) (hb : n ≤ 1000000) : ∃ a cap, v = .slice a n cap ∧ Fs w a n cap xs := by
  obtain ⟨a, cap, hv, hvs, hnil, hle⟩ := h.vs (fVals_one _)
  have hl : (fVals xs).length = n := by simp [fVals, hn]
  rw [hl] at hv hvs hle
  exact ⟨a, cap, hv, hvs, hx, hnil, hle, by omega⟩

theorem OwnsV.fsAt {w : World} {base : Nat} {a : Option Addr} {n cap : Nat} {xs : List Nat} (h : OwnsV 23 w base (.slice a n cap) (fVals xs)) (hx : ∀ x ∈ xs, x < 18446744073709551616) (hb : xs.length ≤ 1000000) : Fs w a n cap xs := by
  obtain ⟨a', cap', hv, hf⟩ := h.fs hx rfl hb
  simp only [Value.slice.injEq] at hv
  obtain ⟨rfl, rfl, rfl⟩ := hv
  exact hf

theorem zeroR_may : zeroR.may = true := by decide

theorem zeroR_fits : zeroR.fits := ⟨by decide, by decide, by decide, by decide, by decide⟩

section
variable {ops : Array Oper} {rest : List Oper} {o : Oper} {a : Act} {Q : Exit → Act → World → Prop}

section
variable {ops : Array Oper} {rest : List Oper} {o : Oper} {a : Act} {Q : Exit → Act → World → Prop}
theorem wpList_conv (w : World) (hgd : o.guard = none) (s d : TypeId) (x : Operand) (ho : o.op = .convert s d x) (u v : Value) (hu : a.eval x = u) (w' : World) (hrun : (convert s d u).run Try.prog w = .ok v w') (hK : wpList Try.prog ops Q rest (a.put o.dst v) w') : wpList Try.prog ops Q (o :: rest) a w := by
  refine wpList_val w hgd v w' ?_ hK
  have e : execOp a.eval o = (do pure (.value (← convert s d (a.eval x)))) := by
    unfold execOp
    rw [ho]
  rw [e, hu]
  simp [hrun]
end
end

end Go.Proofs.Ytpdkeghmpnanpaa
