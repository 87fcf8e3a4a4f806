/-
  The document's device: a part is done, whatever the device is.
-/
import Derived.Test.YtokdeilcfkobfaaDevL
namespace Go.Proofs.Ytokdeilcfkobfaa
open Go.RowKit
variable {K : Home}

/-- A device, without a word on memory. -/
structure Da where
  kept : Dk
  now : Dk
  done : List Pt
  gone : Bool
  armed : Int
def Dv.abs (d : Dv) : Da := ⟨d.kept, d.now, d.done.map (·.u), d.gone, d.armed⟩
/-- How many units of a part count. -/
def Da.units (d : Da) (u : Pt) : Int := if 0 ≤ d.armed ∧ d.armed < (u.size : Int) then d.armed else (u.size : Int)
/-- A device behind a part. -/
def Da.act (d : Da) (u : Pt) : Da :=
  if d.gone = true then ⟨d.kept, d.now.turn u, d.done, true, d.armed⟩
  else ⟨d.kept, d.now.turn u, if (u.first (d.units u)).2 = true then d.done ++ [(u.first (d.units u)).1] else d.done, decide (0 ≤ d.armed ∧ d.armed < (u.size : Int)), if 0 ≤ d.armed then d.armed - d.units u else d.armed⟩

theorem Pt.first_at (u : Pt) (n : Int) : (u.first n).1.at_ = u.at_ ∧ (u.first n).1.to = u.to := by
  unfold Pt.first
  split
  · exact ⟨rfl, rfl⟩
  · split <;> exact ⟨rfl, rfl⟩

theorem do_any (d : Dv) (L : DvL) (u : Pt) (q : Sl) (w : World) (h : DvIn K w d L) (hu : BsS K w q u.b) (hf : Fits d.now u) (hat : (Lit.int .i64 u.at_).wf = true) (hm : d.armed ≤ 9223372036854775807) (hdl : d.done.length ≤ 1000) :
    Calls Try.prog 34 #[d.val L, u.val q] w fun e w' => Below w.heap.size w w' ∧ ∃ d' L', e = .returned (d'.val L') ∧ DvIn K w' d' L' ∧ d'.abs = d.abs.act u := by
  have hto := hf.to
  cases hg : d.gone
  · have hg' : ¬ d.abs.gone = true := by show ¬ d.gone = true; rw [hg]; decide
    by_cases ha : d.armed < 0
    · have hun : d.abs.units u = (u.size : Nat) := if_neg (by show ¬ (0 ≤ d.armed ∧ _); omega)
      have hcu : decide (0 ≤ d.abs.armed ∧ d.abs.armed < (u.size : Int)) = false := decide_eq_false (by show ¬ (0 ≤ d.armed ∧ _); omega)
      have hn0 : ¬ 0 ≤ d.abs.armed := by show ¬ 0 ≤ d.armed; omega
      have h1 := u.first_at (u.size : Nat)
      cases hfs : (u.first (u.size : Nat)).2
      · refine (do_free_none d L u q w h hu hf hg ha (u.first (u.size : Nat)).1 (by rw [← hfs]) (by rw [h1.1]; exact hat) (by rw [h1.2]; exact hto) hdl).mono ?_
        rintro e w' ⟨hb, L', rfl, hin⟩
        refine ⟨hb, _, L', rfl, hin, ?_⟩
        unfold Da.act
        rw [if_neg hg', hun, hfs, hcu, if_neg hn0, if_neg (by decide)]
        rfl
      · refine (do_free_some d L u q w h hu hf hg ha (u.first (u.size : Nat)).1 (by rw [← hfs]) (by rw [h1.1]; exact hat) (by rw [h1.2]; exact hto) hdl).mono ?_
        rintro e w' ⟨hb, L', q', rfl, hin⟩
        refine ⟨hb, _, L', rfl, hin, ?_⟩
        unfold Da.act
        rw [if_neg hg', hun, hfs, hcu, if_neg hn0, if_pos rfl]
        simp [Dv.abs]
    · have hp0 : 0 ≤ d.abs.armed := by show 0 ≤ d.armed; omega
      by_cases hs : (u.size : Int) ≤ d.armed
      · have hun : d.abs.units u = (u.size : Nat) := if_neg (by show ¬ (0 ≤ d.armed ∧ d.armed < _); omega)
        have hcu : decide (0 ≤ d.abs.armed ∧ d.abs.armed < (u.size : Int)) = false := decide_eq_false (by show ¬ (0 ≤ d.armed ∧ d.armed < _); omega)
        have h1 := u.first_at (u.size : Nat)
        cases hfs : (u.first (u.size : Nat)).2
        · refine (do_rich_none d L u q w h hu hf hg (by omega) hs hm (u.first (u.size : Nat)).1 (by rw [← hfs]) (by rw [h1.1]; exact hat) (by rw [h1.2]; exact hto) hdl).mono ?_
          rintro e w' ⟨hb, L', rfl, hin⟩
          refine ⟨hb, _, L', rfl, hin, ?_⟩
          unfold Da.act
          rw [if_neg hg', hun, hfs, hcu, if_pos hp0, if_neg (by decide)]
          rfl
        · refine (do_rich_some d L u q w h hu hf hg (by omega) hs hm (u.first (u.size : Nat)).1 (by rw [← hfs]) (by rw [h1.1]; exact hat) (by rw [h1.2]; exact hto) hdl).mono ?_
          rintro e w' ⟨hb, L', q', rfl, hin⟩
          refine ⟨hb, _, L', rfl, hin, ?_⟩
          unfold Da.act
          rw [if_neg hg', hun, hfs, hcu, if_pos hp0, if_pos rfl]
          simp [Dv.abs]
      · have hun : d.abs.units u = d.armed := if_pos (by show 0 ≤ d.armed ∧ d.armed < _; omega)
        have hcu : decide (0 ≤ d.abs.armed ∧ d.abs.armed < (u.size : Int)) = true := decide_eq_true (by show 0 ≤ d.armed ∧ d.armed < _; omega)
        have h1 := u.first_at d.armed
        cases hfs : (u.first d.armed).2
        · refine (do_poor_none d L u q w h hu hf hg (by omega) (by omega) (u.first d.armed).1 (by rw [← hfs]) (by rw [h1.1]; exact hat) (by rw [h1.2]; exact hto) hdl).mono ?_
          rintro e w' ⟨hb, L', rfl, hin⟩
          refine ⟨hb, _, L', rfl, hin, ?_⟩
          unfold Da.act
          rw [if_neg hg', hun, hfs, hcu, if_pos hp0, if_neg (by decide)]
          simp [Dv.abs]
        · refine (do_poor_some d L u q w h hu hf hg (by omega) (by omega) (u.first d.armed).1 (by rw [← hfs]) (by rw [h1.1]; exact hat) (by rw [h1.2]; exact hto) hdl).mono ?_
          rintro e w' ⟨hb, L', q', rfl, hin⟩
          refine ⟨hb, _, L', rfl, hin, ?_⟩
          unfold Da.act
          rw [if_neg hg', hun, hfs, hcu, if_pos hp0, if_pos rfl]
          simp [Dv.abs]
  · refine (do_gone d L u q w h hu hf hg).mono ?_
    rintro e w' ⟨hb, L', rfl, hin⟩
    refine ⟨hb, _, L', rfl, hin, ?_⟩
    unfold Da.act
    rw [if_pos (show d.abs.gone = true from hg)]
    rfl

end Go.Proofs.Ytokdeilcfkobfaa
