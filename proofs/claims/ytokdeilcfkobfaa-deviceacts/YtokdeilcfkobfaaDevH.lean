/-
  The document's device: a disk behind any part that fits it; devices.
-/
import Derived.Test.YtokdeilcfkobfaaDevG
namespace Go.Proofs.Ytokdeilcfkobfaa
open Go.RowKit
variable {K : Home}

/-- A disk behind a part. -/
def Dk.turn (d : Dk) (u : Pt) : Dk :=
  if 0 ≤ u.at_ then ⟨d.pg.take (128 * u.at_.toNat) ++ u.b ++ d.pg.drop (128 * u.at_.toNat + 128), d.base, d.st⟩
  else if u.trim = true then ⟨d.pg, u.to, d.st.drop (u.to - d.base).toNat⟩
  else ⟨d.pg, d.base, d.st ++ u.b⟩

/-- The part may be done to the disk, and both are of the size that laws ask for. -/
structure Fits (d : Dk) (u : Pt) : Prop where
  pg : d.pg.length ≤ 100000
  st : d.st.length ≤ 100000
  b : u.b.length ≤ 1000
  sec : 0 ≤ u.at_ → 128 * u.at_.toNat + 128 ≤ d.pg.length
  cut : u.at_ < 0 → u.trim = true → d.base ≤ u.to ∧ (u.to - d.base).toNat ≤ d.st.length
  to : (Lit.int .i64 u.to).wf = true

theorem turn_any (d : Dk) (p s : Sl) (u : Pt) (q : Sl) (w : World) (h : DkIn K w d p s) (hu : BsS K w q u.b) (hf : Fits d u) :
    Calls Try.prog 41 #[d.val p s, u.val q] w fun e w' => Below w.heap.size w w' ∧ ∃ p' s', e = .returned ((d.turn u).val p' s') ∧ DkIn K w' (d.turn u) p' s' := by
  have l1 := h.pg.len
  have l2 := h.st.len
  have l3 := hu.len
  have f1 := hf.pg
  have f2 := hf.st
  have f3 := hf.b
  by_cases h0 : 0 ≤ u.at_
  · have e : d.turn u = ⟨d.pg.take (128 * u.at_.toNat) ++ u.b ++ d.pg.drop (128 * u.at_.toNat + 128), d.base, d.st⟩ := by unfold Dk.turn; rw [if_pos h0]
    have f4 := hf.sec h0
    rw [e]
    exact turn_sector d p s u q u.at_.toNat w h hu (by omega) (by omega) (by omega) (by omega)
  · cases ht : u.trim
    · have e : d.turn u = ⟨d.pg, d.base, d.st ++ u.b⟩ := by unfold Dk.turn; rw [if_neg h0, if_neg (by rw [ht]; decide)]
      rw [e]
      exact turn_append d p s u q w h hu (by omega) ht (by omega)
    · have e : d.turn u = ⟨d.pg, u.to, d.st.drop (u.to - d.base).toNat⟩ := by unfold Dk.turn; rw [if_neg h0, if_pos ht]
      obtain ⟨g1, g2⟩ := hf.cut (by omega) ht
      rw [e]
      exact turn_trim d p s u q (u.to - d.base).toNat w h (by omega) ht (by omega) (by omega) hf.to

/-- A device: what is kept, what is seen, what was done, is the power gone, what is armed. -/
structure Dv where
  kept : Dk
  now : Dk
  done : List PtS
  gone : Bool
  armed : Int
/-- Where its slices lead. -/
structure DvL where
  kp : Sl
  ks : Sl
  np : Sl
  ns : Sl
  ds : Sl
def Dv.val (d : Dv) (L : DvL) : Value := .agg #[L.kp.val, .int .i64 d.kept.base, L.ks.val, L.np.val, .int .i64 d.now.base, L.ns.val, L.ds.val, .bool d.gone, .int .i64 d.armed]
structure DvIn (K : Home) (w : World) (d : Dv) (L : DvL) : Prop where
  kept : DkIn K w d.kept L.kp L.ks
  now : DkIn K w d.now L.np L.ns
  done : Ps K w L.ds.a L.ds.len d.done
  nil : L.ds.a = none → L.ds.cap = 0
  le : L.ds.len ≤ L.ds.cap
theorem DvIn.keep {w w' : World} {B : Nat} {d : Dv} {L : DvL} (h : DvIn K w d L) (hb : Below B w w') (hB : w.heap.size ≤ B) : DvIn K w' d L := ⟨h.kept.keep hb hB, h.now.keep hb hB, h.done.keep hb hB, h.nil, h.le⟩

/-- A device behind a part that is done. -/
def Dv.act (d : Dv) (u : Pt) (q : Sl) : Dv :=
  let now := d.now.turn u
  if d.gone = true then ⟨d.kept, now, d.done, true, d.armed⟩
  else
    let cut := decide (0 ≤ d.armed ∧ d.armed < (u.size : Int))
    let n : Int := if cut = true then d.armed else (u.size : Int)
    let f := u.first n
    ⟨d.kept, now, if f.2 = true then d.done ++ [⟨f.1, q⟩] else d.done, cut, if 0 ≤ d.armed then d.armed - n else d.armed⟩

end Go.Proofs.Ytokdeilcfkobfaa
