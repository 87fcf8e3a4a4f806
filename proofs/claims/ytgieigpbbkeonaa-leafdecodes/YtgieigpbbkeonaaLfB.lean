/-
  Layer 8: leaves in memory: parts of writers, rows of slots, boxes with a leaf; the document's Need and stands.
-/
import Derived.Test.YtgieigpbbkeonaaLfA
namespace Go.Proofs.Ytgieigpbbkeonaa
open Go.RowKit

/-- The blocks of D that are there stay as they are. -/
def Kept (D : Nat → Prop) (w w' : World) : Prop := ∀ k, D k → k < w.heap.size → w'.heap[k]? = w.heap[k]?
theorem Kept.all {D : Nat → Prop} {B : Nat} {w w' : World} (h : Below B w w') (hB : w.heap.size ≤ B) : Kept D w w' := fun k _ hl => h.block k (by omega)
theorem Kept.frm {D F : Nat → Prop} {w w' : World} (h : Frm F w w') (hD : ∀ k, D k → ¬ F k) : Kept D w w' := fun k hk hl => h.block k hl (hD k hk)
theorem Kept.cell {D : Nat → Prop} {w w' : World} (h : Kept D w w') {a : Addr} {u : Value} (hc : w.cell? a = some u) (hD : D a.block) : w'.cell? a = some u := by
  have := h a.block hD (World.block_lt_of_cell? w _ hc)
  simp only [World.cell?] at hc ⊢
  rw [this]
  exact hc

/-- The bytes xs lie where the slice leads, in blocks of D. -/
structure Cm (D : Nat → Prop) (w : World) (s : Sl) (xs : List Nat) : Prop where
  came : Came w s.a s.len s.cap xs
  home : ∀ ad, s.a = some ad → 0 < s.len → D ad.block
theorem Cm.len {D : Nat → Prop} {w : World} {s : Sl} {xs : List Nat} (h : Cm D w s xs) : xs.length = s.len := h.came.bs.1
theorem Cm.keep {D : Nat → Prop} {w w' : World} {s : Sl} {xs : List Nat} (h : Cm D w s xs) (hk : Kept D w w') : Cm D w' s xs := by
  refine ⟨⟨⟨h.came.bs.1, h.came.bs.2.1, fun i hi => ?_⟩, h.came.nil, h.came.le, h.came.big⟩, h.home⟩
  obtain ⟨b, off, ha, hc⟩ := h.came.bs.2.2 i hi
  exact ⟨b, off, ha, hk.cell hc (h.home ⟨b, off, none⟩ ha (by omega))⟩
theorem Cm.mono {D E : Nat → Prop} {w : World} {s : Sl} {xs : List Nat} (h : Cm D w s xs) (hE : ∀ k, D k → k < w.heap.size → E k) : Cm E w s xs := by
  refine ⟨h.came, fun ad ha hl => hE _ (h.home ad ha hl) ?_⟩
  obtain ⟨b, off, ha', hc⟩ := h.came.bs.2.2 0 hl
  rw [ha'] at ha
  cases ha
  exact World.block_lt_of_cell? w _ hc

/-- A slot in memory: its slice, its bytes. -/
structure Sb where
  s : Sl
  bs : List Nat
def Sb.zero : Sb := ⟨Sl.nil, []⟩
def bss (l : List Sb) : List (List Nat) := l.map Sb.bs
theorem bss_length (l : List Sb) : (bss l).length = l.length := by simp [bss]
theorem bss_sl (l : List Sb) (i : Nat) : sl (bss l) i = (l.getD i Sb.zero).bs := by
  unfold sl bss
  simp only [List.getD, List.getElem?_map]
  cases l[i]? <;> rfl

/-- The numbers t lie where the slice leads. -/
structure Gi (D : Nat → Prop) (w : World) (v : Sl) (t : List Int) : Prop where
  len : t.length = v.len
  nil : v.a = none → v.cap = 0
  le : v.len ≤ v.cap
  big : v.len ≤ 1000000
  home : ∀ ad, v.a = some ad → 0 < v.len → D ad.block
  cell : ∀ i, i < v.len → ∃ b off, v.a = some ⟨b, off, none⟩ ∧ w.cell? ⟨b, off + i, none⟩ = some (.int .i64 (t.getD i 0))
theorem Gi.keep {D : Nat → Prop} {w w' : World} {v : Sl} {t : List Int} (h : Gi D w v t) (hk : Kept D w w') : Gi D w' v t := by
  refine ⟨h.len, h.nil, h.le, h.big, h.home, fun i hi => ?_⟩
  obtain ⟨b, off, ha, c0⟩ := h.cell i hi
  exact ⟨b, off, ha, hk.cell c0 (h.home ⟨b, off, none⟩ ha (by omega))⟩
theorem Gi.below {D : Nat → Prop} {B : Nat} {w w' : World} {v : Sl} {t : List Int} (h : Gi D w v t) (hb : Below B w w') (hB : w.heap.size ≤ B) : Gi D w' v t := h.keep (Kept.all hb hB)

/-- The slots l lie where the slice leads, they and their bytes in blocks of D. -/
structure Gb (D : Nat → Prop) (w : World) (v : Sl) (l : List Sb) : Prop where
  len : l.length = v.len
  nil : v.a = none → v.cap = 0
  le : v.len ≤ v.cap
  big : v.len ≤ 1000
  home : ∀ ad, v.a = some ad → 0 < v.len → D ad.block
  cell : ∀ i, i < v.len → ∃ b off, v.a = some ⟨b, off, none⟩ ∧ w.cell? ⟨b, off + i, none⟩ = some (l.getD i Sb.zero).s.val
  bs : ∀ x ∈ l, Cm D w x.s x.bs ∧ x.bs.length ≤ 1000
theorem Gb.keep {D : Nat → Prop} {w w' : World} {v : Sl} {l : List Sb} (h : Gb D w v l) (hk : Kept D w w') : Gb D w' v l := by
  refine ⟨h.len, h.nil, h.le, h.big, h.home, fun i hi => ?_, fun x hx => ⟨(h.bs x hx).1.keep hk, (h.bs x hx).2⟩⟩
  obtain ⟨b, off, ha, c0⟩ := h.cell i hi
  exact ⟨b, off, ha, hk.cell c0 (h.home ⟨b, off, none⟩ ha (by omega))⟩
theorem Gb.below {D : Nat → Prop} {B : Nat} {w w' : World} {v : Sl} {l : List Sb} (h : Gb D w v l) (hb : Below B w w') (hB : w.heap.size ≤ B) : Gb D w' v l := h.keep (Kept.all hb hB)
theorem getD_memB {l : List Sb} {i : Nat} (h : i < l.length) : l.getD i Sb.zero ∈ l := by simp [List.getD, h]
theorem Gb.at {D : Nat → Prop} {w : World} {v : Sl} {l : List Sb} (h : Gb D w v l) {i : Nat} (hi : i < v.len) : Cm D w (l.getD i Sb.zero).s (sl (bss l) i) ∧ (l.getD i Sb.zero).s.len = (sl (bss l) i).length ∧ (sl (bss l) i).length ≤ 1000 := by
  have hm := h.bs _ (getD_memB (l := l) (i := i) (by rw [h.len]; exact hi))
  rw [bss_sl]
  exact ⟨hm.1, hm.1.len.symm, hm.2⟩

/-- A leaf, as a value. -/
def lfV (u v : Sl) : Value := .agg #[u.val, v.val]
/-- A box with a leaf. -/
def LfBlk (w : World) (p : Nat) (u v : Value) : Prop := w.heap[p]? = some (Obj.cells #[u, v] 25 (0, 0))
theorem LfBlk.c0 {w : World} {p : Nat} {u v : Value} (k : LfBlk w p u v) : w.cell? ⟨p, 0, none⟩ = some u := by unfold LfBlk at k; simp [World.cell?, k]
theorem LfBlk.c1 {w : World} {p : Nat} {u v : Value} (k : LfBlk w p u v) : w.cell? ⟨p, 1, none⟩ = some v := by unfold LfBlk at k; simp [World.cell?, k]
theorem LfBlk.fz {w : World} {p : Nat} {u v : Value} (k : LfBlk w p u v) (o : Nat) : w.frozen? ⟨p, o, none⟩ = false := frozen_of_row w p _ _ 25 k
theorem LfBlk.lt {w : World} {p : Nat} {u v : Value} (k : LfBlk w p u v) : p < w.heap.size := (Array.getElem?_eq_some_iff.1 k).1
theorem lfBlk_new (w : World) (u v : Value) : LfBlk (w.alloc (.cells #[u, v] 25)) w.heap.size u v := heap_alloc_new w _
theorem LfBlk.below {w w' : World} {p : Nat} {u v : Value} (k : LfBlk w p u v) (hb : Below w.heap.size w w') : LfBlk w' p u v := (hb.block p k.lt).trans k
theorem alloc_size (w : World) (o : Obj) : (w.alloc o).heap.size = w.heap.size + 1 := by
  show (w.heap.push o).size = _
  simp
theorem needS_le (s : List (List Nat)) (h : ∀ i, i < s.length → (sl s i).length ≤ 1000) : ∀ n, n ≤ s.length → needS (s.take n) ≤ n * 1001
  | 0, _ => by simp [needS]
  | n + 1, hn => by
    rw [needS_take_snoc (by omega)]
    have h1 := needS_le s h n (by omega)
    have h2 := h n (by omega)
    omega

set_option maxHeartbeats 4000000 in
theorem rneed_any {D : Nat → Prop} (w : World) (u v : Sl) (l : List Sb) (hg : Gb D w v l) :
    Calls Try.prog 15 #[lfV u v] w fun e w' => e = .returned (.int .i64 ((need (bss l) : Nat) : Int)) ∧ Below w.heap.size w w' := by
  obtain ⟨a, len, cap⟩ := v
  obtain ⟨ua, ul, uc⟩ := u
  have hl : l.length = len := hg.len
  have hbig : len ≤ 1000 := hg.big
  have hA := below_alloc w (.cells #[.slice ua ul uc, .slice a len cap] 25)
  have HG := hide (hg.below hA (Nat.le_refl _))
  have HA := hide hA
  have HL : Hid ((bss l).length = len) := by show _ = _; rw [bss_length]; exact hl
  have HN : Hid (∀ n, n ≤ len → needS ((bss l).take n) ≤ n * 1001) := by
    intro n hn
    refine needS_le (bss l) (fun i hi => ?_) n (by rw [bss_length, hl]; exact hn)
    exact (hg.at (by rw [bss_length] at hi; show i < len; omega)).2.2
  have H0 : Hid (((18 : Nat) : Int) = ((18 + needS ((bss l).take 0) : Nat) : Int)) := rfl
  clear hg hl hA
  unfold lfV Sl.val
  simp only
  go_enter Try.func15, Try.ntmps15
  go_wp2_with fail
  go_loopw [4, 3] (fun iv nv wr => wr = w.alloc (.cells #[.slice ua ul uc, .slice a len cap] 25) ∧ ∃ i : Nat, i ≤ len ∧ iv = .int .i64 (i : Nat) ∧ nv = .int .i64 ((18 + needS ((bss l).take i) : Nat) : Int)) (fun iv _ _ => len - (intOf iv).toNat)
  case atStart => exact ⟨rfl, 0, Nat.zero_le _, rfl, rfl⟩
  case round =>
    obtain ⟨rfl, i, hi, rfl, rfl⟩ := hrel
    rcases Nat.lt_or_ge i len with hlt | hge
    · have i1 : ((i : Nat) : Int) < ((len : Nat) : Int) := by omega
      obtain ⟨bb, oo, ha, c0⟩ := HG.out.cell i hlt
      replace ha : a = some ⟨bb, oo, none⟩ := ha
      subst ha
      obtain ⟨_, hsl, h1000⟩ := HG.out.at hlt
      have hstep := needS_take_snoc (s := bss l) (k := i) (by rw [HL.out]; exact hlt)
      have hb1 := HN.out i hi
      obtain ⟨⟨sa, sn, sc⟩, hsb⟩ : ∃ s, s = (l.getD i Sb.zero).s := ⟨_, rfl⟩
      rw [← hsb] at c0 hsl
      unfold Sl.val at c0
      simp only at c0 hsl
      obtain ⟨q, hq⟩ : ∃ q, q = needS ((bss l).take i) := ⟨_, rfl⟩
      have HST : Hid (needS ((bss l).take (i + 1)) = q + 1 + sn) := by show _ = _; rw [hstep, hq, hsl]
      rw [← hq] at hb1 ⊢
      have hq2 : q ≤ 1001000 := by omega
      have hsn : sn ≤ 1000 := by omega
      clear hstep hsb hq hsl h1000 hb1
      go_wp2_with fail
      go_roundw
      case rel => exact ⟨trivial, i + 1, by omega, by go_num, by rw [HST.out]; go_num⟩
      case measure => simp only [intOf]; omega
    · have i1 : ¬ ((i : Nat) : Int) < ((len : Nat) : Int) := by omega
      have HE : Hid (need (bss l) = 18 + needS ((bss l).take i)) := by
        show _ = _
        rw [List.take_of_length_le (by rw [HL.out]; exact hge)]
        rfl
      go_wp2_with fail
      go_ret
      exact ⟨by rw [HE.out]; rfl, HA.out⟩

/-- Does a row stand there? -/
def standsB (s : List (List Nat)) (i : Int) : Bool := decide (0 ≤ i) && (decide (i < s.length) && decide (0 < (sl s i.toNat).length))

end Go.Proofs.Ytgieigpbbkeonaa
