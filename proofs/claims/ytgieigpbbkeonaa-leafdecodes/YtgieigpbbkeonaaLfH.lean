/-
  Layer 8: the document's Drop.
-/
import Derived.Test.YtgieigpbbkeonaaLfG
namespace Go.Proofs.Ytgieigpbbkeonaa
open Go.RowKit

theorem Cm.none {D : Nat → Prop} (w : World) : Cm D w Sl.nil [] := ⟨⟨⟨rfl, fun _ h => by simp at h, fun i hi => absurd hi (Nat.not_lt_zero _)⟩, fun _ => rfl, Nat.le_refl _, by simp [Sl.nil]⟩, fun _ h _ => by cases h⟩
theorem Gb.take {D : Nat → Prop} {w : World} {v : Sl} {l : List Sb} (h : Gb D w v l) {n : Nat} (hn : n ≤ v.len) : Gb D w ⟨v.a, n, v.cap⟩ (l.take n) := by
  have hl := h.len
  have hc := h.le
  have hb := h.big
  refine ⟨?_, h.nil, by show n ≤ v.cap; omega, by show n ≤ 1000; omega, fun ad ha h0 => h.home ad ha ?_, fun i hi => ?_, fun x hx => h.bs x (List.mem_of_mem_take hx)⟩
  · show _ = n
    rw [List.length_take]
    omega
  · have : 0 < n := h0
    omega
  · replace hi : i < n := hi
    obtain ⟨b, off, ha, hce⟩ := h.cell i (by omega)
    refine ⟨b, off, ha, ?_⟩
    rw [hce]
    simp [List.getD, hi]
theorem bss_take (l : List Sb) (n : Nat) : bss (l.take n) = (bss l).take n := by simp [bss, List.map_take]
def dropA (s : List (List Nat)) (i : Int) : Ans := if standsB s i = false then ⟨s, 3⟩ else ⟨trim (s.set i.toNat []), 0⟩
def slLen : Value → Nat
  | .slice _ n _ => n
  | _ => 0

end Go.Proofs.Ytgieigpbbkeonaa
