/-
  Acts of layer 12 that came in, one behind the other; how they are told; are they light.
  The law's pages; what the landed pool must be shown to say; a pool of a call's own.
  Layer 12: awake.
-/
import Derived.Test.YtpggkfdnpdhkfaaGreatBg
import Derived.Test.YtpggkfdnpdhkfaaGreatBd
import Derived.Lib.SmallJoins
import Derived.Laws.Cover2
import Derived.Deep.Slices
import Derived.Laws.MakeOwn
namespace Go.Proofs.YtpggkfdnpdhkfaaGreat
open Go.ChangeShapes Go.WideShapes Go.ChangeAt Go.RowKit
set_option maxRecDepth 100000

section
variable {H : Type} {enc : TypeId × Value → H} {w : World} {base : Nat} {spare : Nat → Bool} {held : Bool}

theorem open_pat {n : Nat} {a : Option Addr} {len cap : Nat} {y : DataW H × List MemPlace} (h : DataW.trod enc Tryz.prog w base spare held n 48 [.slice a len cap] = some y) :
    ∃ bs, Pat w a len bs ∧ len ≤ 9223372036854775807 := by
  have hC : Tryz.prog.cellsOf 4 = 1 := by kernel_rfl
  rcases Go.Deep.open_slice1 Tryz.underlying48 hC h with ⟨hcs, _⟩ | ⟨x, l, c, m, k, V, D, Pl, hcs, hb, hl, hm, hmm, _, hx⟩
  · simp only [List.cons.injEq, Value.slice.injEq, and_true] at hcs
    obtain ⟨rfl, rfl, rfl⟩ := hcs
    exact ⟨[], ⟨rfl, fun j hj => by omega⟩, by omega⟩
  · simp only [List.cons.injEq, Value.slice.injEq, and_true] at hcs
    obtain ⟨rfl, rfl, rfl⟩ := hcs
    have hle : len ≤ m := by rw [hmm]; split <;> omega
    have hsp : 0 < len → x.spot = none := by
      intro h0
      have := World.cell?_spot (hx 0 (by omega)).1
      simpa [Addr.add] using this
    have each : ∀ i, i < len → ∃ b : Bool, V i = .bool b := by
      intro i hi
      obtain ⟨bb, e1, _⟩ := DataW.trod_bool (by kernel_rfl : Tryz.prog.underlying 4 = some .bool) (hx i (by omega)).2
      exact ⟨bb, by simpa using e1⟩
    obtain ⟨f, hf⟩ := @Go.Deep.choose_lt Bool ⟨false⟩ len _ each
    refine ⟨(List.range len).map f, ⟨by simp, ?_⟩, by unfold maxLen at hm; omega⟩
    intro j hj
    have hc := (hx j (by omega)).1
    obtain ⟨b, off, spot⟩ := x
    have hspot : spot = none := hsp (by omega)
    subst hspot
    refine ⟨b, off, rfl, ?_⟩
    rw [Addr.add_lit] at hc
    rw [hc, hf j hj]
    simp [List.getD, hj]

end

theorem Pat.keep {w w' : World} {a : Option Addr} {len : Nat} {bs : List Bool} (h : Pat w a len bs) (hb : Below w.heap.size w w') : Pat w' a len bs := by
  refine ⟨h.len_, fun i hi => ?_⟩
  obtain ⟨b, off, ha, hc⟩ := h.at_ i hi
  exact ⟨b, off, ha, (hb.cell (World.block_lt_of_cell? w _ hc)).trans hc⟩
end Go.Proofs.YtpggkfdnpdhkfaaGreat

namespace Go.Proofs.YtpggkfdnpdhkfaaGreat
open Go.RowKit
set_option maxRecDepth 100000
set_option maxRecDepth 100000

/-- A page that begins with bytes, again and again. -/
def pageOf (b : List Nat) : List Nat := (List.range 512).map fun i => if b.length = 0 then 0 else b.getD (i % b.length) 0
theorem pageOf_length (b : List Nat) : (pageOf b).length = 512 := by simp [pageOf]
theorem pageOf_get (b : List Nat) (i : Nat) (hi : i < 512) : (pageOf b)[i]? = some (if b.length = 0 then 0 else b.getD (i % b.length) 0) := by
  unfold pageOf
  rw [List.getElem?_map, List.getElem?_range hi]
  rfl
theorem pageOf_bytes (b : List Nat) (h : Bytes b) : Bytes (pageOf b) := by
  intro x hx
  obtain ⟨i, _, rfl⟩ := List.mem_map.1 hx
  split
  · omega
  · exact getD_lt h _
/-- The first so many of them, the rest noughts. -/
def pagePart (b : List Nat) (j : Nat) : List Nat := (pageOf b).take j ++ List.replicate (512 - j) 0
theorem pagePart_set (b : List Nat) (j : Nat) (hj : j < 512) (h0 : b.length ≠ 0) : (pagePart b j).set j (b.getD (j % b.length) 0) = pagePart b (j + 1) := by
  unfold pagePart
  have hl : ((pageOf b).take j).length = j := by rw [List.length_take, pageOf_length]; omega
  have hg := pageOf_get b j hj
  rw [if_neg h0] at hg
  have hlt : j < (pageOf b).length := by rw [pageOf_length]; exact hj
  have e1 : (pageOf b)[j] = b.getD (j % b.length) 0 := by rw [List.getElem?_eq_getElem hlt] at hg; exact Option.some.inj hg
  rw [List.set_append_right _ _ (by omega), hl, Nat.sub_self, show 512 - j = (512 - (j + 1)) + 1 by omega, List.replicate_succ, List.set_cons_zero, List.take_succ_eq_append_getElem hlt, e1, List.append_assoc]
  rfl

set_option maxHeartbeats 4000000 in
set_option maxRecDepth 100000 in
theorem page_any (w : World) (a : Option Addr) (len cap : Nat) (b : List Nat) (hb : Came w a len cap b) : Calls Tryz.prog 40 #[.slice a len cap] w fun e w' => Below w.heap.size w w' ∧ e = .returned (.slice (some ⟨w.heap.size, 0, none⟩) 512 512) ∧ Came w' (some ⟨w.heap.size, 0, none⟩) 512 512 (pageOf b) := by
  have HM := hide (make_bytes 512 (by omega) w)
  obtain ⟨C, hC⟩ : ∃ C, C = (.cells (vals (List.replicate 512 0)).toArray 5 : Obj) := ⟨_, rfl⟩
  rw [← hC] at HM
  have HB := hide (below_alloc w C)
  have HO : Hid (Owns (w.alloc C) w.heap.size (.slice (some ⟨w.heap.size, 0, none⟩) 512 512) (pagePart b 0)) := by
    rw [hC]
    have := Owns.lit w w.heap.size (List.replicate 512 0) (Nat.le_refl _) (by rw [List.length_replicate]; omega)
    rw [List.length_replicate] at this
    exact this
  have HCM := hide hb
  have hbl := hb.bs.1
  have HBL := hide hbl
  have HPB := hide (pageOf_bytes b hb.bs.2.1)
  have HBIG := hide hb.big
  clear hC hb
  go_enter Tryz.func40, Tryz.ntmps40
  go_wp2_with (refine wpList_make _ rfl 32 (.const (.int .i64 512)) (.const (.int .i64 512)) rfl (.int .i64 512) (.int .i64 512) (.slice (some ⟨w.heap.size, 0, none⟩) 512 512) rfl rfl (w.alloc C) HM.out ?_)
  go_loopw [4] (fun i wr => ∃ j : Nat, j ≤ 512 ∧ i = .int .i64 j ∧ Hid (Owns wr w.heap.size (.slice (some ⟨w.heap.size, 0, none⟩) 512 512) (pagePart b j)) ∧ Hid (Below w.heap.size w wr)) (fun i _ => 512 - (intOf i).toNat)
  case atStart => exact ⟨0, by omega, rfl, HO, HB⟩
  case round =>
    obtain ⟨j, hj, rfl, hO, hB⟩ := hrel
    by_cases hgo : j < 512 ∧ 0 < len
    · obtain ⟨hlt, hl0⟩ := hgo
      have i1 : ((j : Nat) : Int) < 512 := by omega
      have i2 : (0 : Int) < ((len : Nat) : Int) := by omega
      have hlen : (pagePart b j).length = 512 := by unfold pagePart; rw [List.length_append, List.length_take, pageOf_length, List.length_replicate]; omega
      have hset := hO.out.set (by rw [hlen]) j (b.getD (j % len) 0)
      have hps := pagePart_set b j hlt (by omega)
      rw [hbl] at hps
      rw [hps] at hset
      have HSET := hide hset
      have hbyt : Bytes (pagePart b j) := by
        intro x hx
        rcases List.mem_append.1 hx with h1 | h1
        · exact HPB.out x (List.mem_of_mem_take h1)
        · rw [(List.mem_replicate.1 h1).2]; omega
      have HBS := hide (hB.out.setCell (p := ⟨w.heap.size, j, none⟩) (Nat.le_refl _) (.int .u8 ((b.getD (j % len) 0 : Nat) : Int)))
      have hbs := (hO.out.row hbyt).2
      have hc0 := hbs.at j (by omega)
      rw [Nat.zero_add] at hc0
      have hfz : wr.frozen? ⟨w.heap.size, j, none⟩ = false := by
        rcases hO.out.2 with ⟨h', _⟩ | ⟨g', cap', cur, h', hbg, hg, hle, hmx, hcs, htk⟩
        · simp at h'
        · simp only [Value.slice.injEq, Option.some.injEq, Addr.mk.injEq, and_true] at h'
          rw [h'.1]
          exact frozen_of_row wr g' _ _ 5 hg
      have hmod : j % len < len := Nat.mod_lt _ hl0
      obtain ⟨bb, oo, ha, hcb⟩ := (HCM.out.bs.keep hB.out (Nat.le_refl _)).2.2 (j % len) hmod
      have hbg2 := HBIG.out
      have i3 : ((j % len : Nat) : Int) < ((len : Nat) : Int) := by omega
      have i4 : ¬ len = 0 := by omega
      subst ha
      obtain ⟨vv, hvv⟩ : ∃ vv, vv = b.getD (j % len) 0 := ⟨_, rfl⟩
      rw [← hvv] at hcb HBS HSET
      clear hset hbs hlen hps hbyt hvv
      go_wp2_with fail
      go_roundw
      case rel => exact ⟨j + 1, by omega, by go_num, HSET, HBS⟩
      case measure => simp only [intOf]; omega
    · have HFIN : Hid (pagePart b j = pageOf b) := by
        show _ = _
        unfold pagePart
        by_cases h5 : j = 512
        · rw [h5, List.take_of_length_le (by rw [pageOf_length]; exact Nat.le_refl _)]; simp
        · have hl0 : len = 0 := by omega
          apply List.ext_getElem?
          intro t
          have hb0 : b.length = 0 := by omega
          by_cases ht : t < 512
          · rw [pageOf_get b t ht, if_pos hb0]
            by_cases htj : t < j
            · rw [List.getElem?_append_left (by rw [List.length_take, pageOf_length]; omega), List.getElem?_take, if_pos htj, pageOf_get b t ht, if_pos hb0]
            · rw [List.getElem?_append_right (by rw [List.length_take, pageOf_length]; omega), List.getElem?_replicate, if_pos (by rw [List.length_take, pageOf_length]; omega)]
          · rw [List.getElem?_eq_none (by rw [List.length_append, List.length_take, pageOf_length, List.length_replicate]; omega), List.getElem?_eq_none (by rw [pageOf_length]; omega)]
      have HEND : Hid (Came wr (some ⟨w.heap.size, 0, none⟩) 512 512 (pageOf b)) := by
        have e1 := hO.out
        rw [HFIN.out] at e1
        have h3 := (e1.row HPB.out).2
        rw [pageOf_length] at h3
        exact ⟨h3, (fun e => by cases e), Nat.le_refl _, by omega⟩
      by_cases h5 : j < 512
      · have hl0 : len = 0 := by omega
        subst hl0
        have i1 : ((j : Nat) : Int) < 512 := by omega
        go_wp2_with fail
        go_ret
        exact ⟨hB.out, rfl, HEND.out⟩
      · obtain rfl : j = 512 := by omega
        go_wp2_with fail
        go_ret
        exact ⟨hB.out, rfl, HEND.out⟩


theorem wf_page (k : Nat) (h : k < 1000000) : (Lit.int .i64 ((k : Nat) : Int)).wf = true := by
  simp only [Lit.wf, show IntKind.i64.min = -9223372036854775808 by decide, show IntKind.i64.max = 9223372036854775807 by decide, Bool.and_eq_true, decide_eq_true_eq]
  omega
/-- How a pool lies in memory: its block, its device's, what it is, the device's slices, and the blocks that are its own. -/
abbrev PoM := World → Nat → Nat → Po → Dl → (Nat → Prop) → Prop
def ivals (l : List Nat) : List Value := l.map fun (k : Nat) => .int .i64 ((k : Nat) : Int)
/-- What an act leaves. -/
structure Acted (M : PoM) (w : World) (p d : Nat) (L : Dl) (X : Nat → Prop) (w' : World) (Q : Po) : Prop where
  ex : ∃ L' X', M w' p d Q L' X' ∧ ∀ k, X' k ∨ L'.F d k → (X k ∨ L.F d k) ∨ w.heap.size ≤ k
  frm : Frm (fun k => X k ∨ L.F d k) w w'
structure Po.Fine (P : Po) (n c : Nat) : Prop where
  ok : P.Ok n
  wet : P.Wet n c
  cap : c ≤ 9000
  ss : P.D.ss.length ≤ 65536
structure PoolS (M : PoM) : Prop where
  dev : ∀ {w p d P L X}, M w p d P L X → DevM w d P.D L
  lt : ∀ {w p d P L X}, M w p d P L X → ∀ k, X k → k < w.heap.size
  apart : ∀ {w p d P L X}, M w p d P L X → ∀ k, X k → ¬ L.F d k
  frm : ∀ {w p d P L X w'} {F : Nat → Prop}, M w p d P L X → Frm F w w' → (∀ k, X k ∨ L.F d k → ¬ F k) → M w' p d P L X
  turn : ∀ {w p d P L X w' D' L'}, M w p d P L X → Turned w d L w' D' L' → M w' p d { P with D := D' } L' X
  new : ∀ (w : World) (d : Nat) (D : Ds) (L : Dl) (n c f : Nat), DevM w d D L → D.Easy n c → D.ss.length ≤ 65536 → 1 ≤ f → f ≤ 64 → Calls Tryz.prog 38 #[at0 d, .int .i64 ((f : Nat) : Int)] w fun e w' => Below w.heap.size w w' ∧ ∃ p X, e = .returned (.tuple #[at0 p, .int .i64 0]) ∧ M w' p d (Po.new D f) L X ∧ ∀ k, X k → w.heap.size ≤ k
  newBad : ∀ (w : World) (d : Nat) (D : Ds) (L : Dl) (n c : Nat) (f : Int), DevM w d D L → D.Easy n c → D.ss.length ≤ 65536 → ¬ (1 ≤ f ∧ f ≤ 64) → Calls Tryz.prog 38 #[at0 d, .int .i64 f] w fun e w' => Below w.heap.size w w' ∧ e = .returned (.tuple #[.pointer none, .int .i64 1])
  newDead : ∀ (w : World) (v : Value), Dead w v → Calls Tryz.prog 38 #[v, .int .i64 1] w fun e w' => Below w.heap.size w w' ∧ e = .returned (.tuple #[.pointer none, .int .i64 1])
  read : ∀ (w : World) (p d : Nat) (P : Po) (L : Dl) (X : Nat → Prop) (n c k : Nat), M w p d P L X → P.Fine n c → k < n → Calls Tryz.prog 68 #[at0 p, .int .i64 ((k : Nat) : Int)] w fun e w' => Acted M w p d L X w' (P.letIn k) ∧ ∃ s : Sl, e = .returned (.tuple #[s.val, .int .i64 0]) ∧ Own 5 1 w' s (vals ((P.letIn k).con k)) ∧ s.len = 512
  readNone : ∀ (w : World) (p d : Nat) (P : Po) (L : Dl) (X : Nat → Prop) (n c : Nat) (k : Int), M w p d P L X → P.Fine n c → ¬ (0 ≤ k ∧ k < ((n : Nat) : Int)) → Calls Tryz.prog 68 #[at0 p, .int .i64 k] w fun e w' => Below w.heap.size w w' ∧ e = .returned (.tuple #[.slice none 0 0, .int .i64 3])
  put : ∀ (w : World) (p d : Nat) (P : Po) (L : Dl) (X : Nat → Prop) (n c k : Nat) (a : Option Addr) (cap : Nat) (ys : List Nat) (z : Int), M w p d P L X → P.Fine n c → k < n → Came w a 512 cap ys → Off (fun i => X i ∨ L.F d i) a 512 → (Lit.int .i64 z).wf = true → Calls Tryz.prog 87 #[at0 p, .int .i64 ((k : Nat) : Int), .slice a 512 cap, .int .i64 z] w fun e w' => Acted M w p d L X w' (P.set k ys z) ∧ e = .returned (.int .i64 0)
  putNone : ∀ (w : World) (p d : Nat) (P : Po) (L : Dl) (X : Nat → Prop) (n c : Nat) (k : Int) (a : Option Addr) (len cap : Nat) (z : Int), M w p d P L X → P.Fine n c → ¬ (0 ≤ k ∧ k < ((n : Nat) : Int)) → Calls Tryz.prog 87 #[at0 p, .int .i64 k, .slice a len cap, .int .i64 z] w fun e w' => Below w.heap.size w w' ∧ e = .returned (.int .i64 3)
  putArg : ∀ (w : World) (p d : Nat) (P : Po) (L : Dl) (X : Nat → Prop) (n c k : Nat) (a : Option Addr) (len cap : Nat) (z : Int), M w p d P L X → P.Fine n c → k < n → len ≠ 512 → len ≤ 9223372036854775807 → Calls Tryz.prog 87 #[at0 p, .int .i64 ((k : Nat) : Int), .slice a len cap, .int .i64 z] w fun e w' => Below w.heap.size w w' ∧ e = .returned (.int .i64 1)
  flush : ∀ (w : World) (p d : Nat) (P : Po) (L : Dl) (X : Nat → Prop) (n c : Nat), M w p d P L X → P.Fine n c → Calls Tryz.prog 59 #[at0 p] w fun e w' => Acted M w p d L X w' (P.flush n) ∧ e = .returned (.int .i64 (((P.dirty n).length : Nat) : Int))
  evict : ∀ (w : World) (p d : Nat) (P : Po) (L : Dl) (X : Nat → Prop) (n c k : Nat), M w p d P L X → P.Fine n c → (P.m k).isSome = true → Calls Tryz.prog 63 #[at0 p, .int .i64 ((k : Nat) : Int)] w fun e w' => Acted M w p d L X w' (P.evict k) ∧ e = .returned (.int .i64 0)
  evictNone : ∀ (w : World) (p d : Nat) (P : Po) (L : Dl) (X : Nat → Prop) (n c : Nat) (k : Int), M w p d P L X → P.Fine n c → ¬ (0 ≤ k ∧ (P.m k.toNat).isSome = true) → (Lit.int .i64 k).wf = true → Calls Tryz.prog 63 #[at0 p, .int .i64 k] w fun e w' => Below w.heap.size w w' ∧ e = .returned (.int .i64 3)
  synced : ∀ (w : World) (p d : Nat) (P : Po) (L : Dl) (X : Nat → Prop) (n c : Nat), M w p d P L X → P.Fine n c → Calls Tryz.prog 56 #[at0 p] w fun e w' => Acted M w p d L X w' P.synced ∧ e = .returned (.tuple #[])
  inn : ∀ (w : World) (p d : Nat) (P : Po) (L : Dl) (X : Nat → Prop) (n c : Nat), M w p d P L X → P.Fine n c → Calls Tryz.prog 111 #[at0 p] w fun e w' => Below w.heap.size w w' ∧ ∃ s : Sl, e = .returned s.val ∧ Own 3 1 w' s (ivals (P.inn n))
  dirty : ∀ (w : World) (p d : Nat) (P : Po) (L : Dl) (X : Nat → Prop) (n c : Nat), M w p d P L X → P.Fine n c → Calls Tryz.prog 89 #[at0 p] w fun e w' => Below w.heap.size w w' ∧ ∃ s : Sl, e = .returned s.val ∧ Own 3 1 w' s (ivals (P.dirty n))

structure Mp (M : PoM) (w0 w : World) (p d : Nat) (P : Po) (L : Dl) (X : Nat → Prop) : Prop where
  m : M w p d P L X
  foot : ∀ k, X k ∨ L.F d k → w0.heap.size ≤ k
  below : Below w0.heap.size w0 w
def Our (M : PoM) (w0 w : World) (p d : Nat) (P : Po) : Prop := ∃ L X, Mp M w0 w p d P L X
theorem Mp.keep {M : PoM} (S : PoolS M) {w0 w w' : World} {p d : Nat} {P : Po} {L : Dl} {X : Nat → Prop} (h : Mp M w0 w p d P L X) (hb : Below w.heap.size w w') : Mp M w0 w' p d P L X :=
  ⟨S.frm h.m (Frm.ofBelow (F := fun _ => False) hb) (fun _ _ e => e), h.foot, h.below.trans (hb.mono h.below.size)⟩
theorem Our.keep {M : PoM} (S : PoolS M) {w0 w w' : World} {p d : Nat} {P : Po} (h : Our M w0 w p d P) (hb : Below w.heap.size w w') : Our M w0 w' p d P := by
  obtain ⟨L, X, h⟩ := h
  exact ⟨L, X, h.keep S hb⟩
theorem Mp.act {M : PoM} {w0 w w' : World} {p d : Nat} {P Q : Po} {L : Dl} {X : Nat → Prop} (h : Mp M w0 w p d P L X) (a : Acted M w p d L X w' Q) : Our M w0 w' p d Q := by
  obtain ⟨L', X', hm, hf⟩ := a.ex
  exact ⟨L', X', hm, fun k hk => (hf k hk).elim (h.foot k) (fun e => Nat.le_trans h.below.size e), h.below.trans (a.frm.below h.below.size h.foot)⟩
theorem Mp.turn {M : PoM} (S : PoolS M) {w0 w w' : World} {p d : Nat} {P : Po} {L L' : Dl} {D' : Ds} {X : Nat → Prop} (h : Mp M w0 w p d P L X) (t : Turned w d L w' D' L') : Our M w0 w' p d { P with D := D' } :=
  ⟨L', X, S.turn h.m t, fun k hk => hk.elim (fun e => h.foot k (.inl e)) (fun e => (t.foot k e).elim (fun g => h.foot k (.inr g)) (fun g => Nat.le_trans h.below.size g)), h.below.trans (t.frm.below h.below.size (fun k hk => h.foot k (.inr hk)))⟩
theorem Our.below {M : PoM} {w0 w : World} {p d : Nat} {P : Po} (h : Our M w0 w p d P) : Below w0.heap.size w0 w := by
  obtain ⟨_, _, h⟩ := h
  exact h.below
/-- What is outside of a call's own blocks is apart from its pool. -/
theorem Mp.off {M : PoM} {w0 w : World} {p d : Nat} {P : Po} {L : Dl} {X : Nat → Prop} (h : Mp M w0 w p d P L X) {a : Option Addr} {len cap : Nat} {xs : List Nat} (hc : Came w0 a len cap xs) : Off (fun i => X i ∨ L.F d i) a len := by
  intro ad e hl hk
  obtain ⟨b, off, ha, hcell⟩ := hc.bs.2.2 0 hl
  rw [ha] at e
  cases e
  have h1 : w0.heap.size ≤ b := h.foot _ hk
  have h2 : b < w0.heap.size := World.block_lt_of_cell? w0 _ hcell
  omega
section
variable {M : PoM} {w0 w : World} {p d : Nat} {P : Po} {n c : Nat}
/-- What Evict leaves, of any page. -/
def Po.evictAny (P : Po) (k : Int) : Po := if 0 ≤ k ∧ (P.m k.toNat).isSome = true then P.evict k.toNat else P
end

theorem ahead_ss (P : Po) (z : Int) : (P.ahead z).D.ss = P.D.ss := by
  unfold Po.ahead
  split
  · exact P.D.sync_sp.2.1
  · rfl
theorem write_ss (P : Po) (k : Nat) : (P.write k).D.ss = P.D.ss := by
  unfold Po.write
  cases P.m k with
  | none => rfl
  | some s =>
    simp only
    split
    · show ((P.ahead s.place).D.write k s.b).ss = _
      rw [((P.ahead s.place).D.write_ss k s.b).1, ahead_ss]
    · rfl
theorem letIn_ss (P : Po) (k : Nat) : (P.letIn k).D.ss = P.D.ss := by
  have h1 : ∀ (Q : Po) (z : Int), (Q.left z).D.ss = Q.D.ss := fun Q z => by
    unfold Po.left
    split
    · exact write_ss Q _
    · rfl
  have h2 : ∀ (Q : Po), (Q.fetch k).D.ss = Q.D.ss := fun Q => by
    unfold Po.fetch
    split <;> rfl
  unfold Po.letIn
  rw [h2, h1]
  rfl
theorem writes_ss : ∀ (L : List Nat) (P : Po), (L.foldl Po.write P).D.ss = P.D.ss
  | [], P => rfl
  | p :: L, P => by rw [List.foldl_cons, writes_ss L, write_ss]
theorem Po.Fine.letIn {P : Po} {n c : Nat} (h : P.Fine n c) (hc : c + 4 ≤ 9000) {k : Nat} (hk : k < n) : (P.letIn k).Fine n (c + 4) := ⟨(h.ok.letIn hk).ok, h.wet.letIn hk, hc, by rw [letIn_ss]; exact h.ss⟩
theorem Po.Fine.set {P : Po} {n c : Nat} (h : P.Fine n c) (hc : c + 4 ≤ 9000) {k : Nat} (hk : k < n) {b : List Nat} (hb : b.length = 512) (hx : Bytes b) (z : Int) : (P.set k b z).Fine n (c + 4) := ⟨(h.ok.set hk hb z).1, h.wet.set hk hb hx z, hc, by show (P.letIn k).D.ss.length ≤ _; rw [letIn_ss]; exact h.ss⟩
theorem Po.Fine.flush {P : Po} {n c : Nat} (h : P.Fine n c) (hc : c + 4 * n ≤ 9000) : (P.flush n).Fine n (c + 4 * n) := ⟨h.ok.flush.1.ok, h.wet.flush, hc, by show ((P.dirty n).foldl Po.write P).D.ss.length ≤ _; rw [writes_ss]; exact h.ss⟩
theorem Po.Fine.more {P : Po} {n c c' : Nat} (h : P.Fine n c) (h1 : c ≤ c') (hc : c' ≤ 9000) : P.Fine n c' := ⟨h.ok, h.wet.more h1, hc, h.ss⟩
theorem Po.Fine.evictAny {P : Po} {n c : Nat} (h : P.Fine n c) (hc : c + 4 ≤ 9000) (k : Int) : (P.evictAny k).Fine n (c + 4) ∧ (∀ i, i < n → (P.evictAny k).con i = P.con i) ∧ (P.evictAny k).l.length = P.l.length := by
  unfold Po.evictAny
  split
  · rename_i hk
    obtain ⟨e1, e2, e3, _⟩ := h.ok.evict hk.2
    exact ⟨⟨e1, h.wet.evict _, hc, by show ((P.write k.toNat).D.ss).length ≤ _; rw [write_ss]; exact h.ss⟩, e2, e3⟩
  · exact ⟨h.more (by omega) hc, fun _ _ => rfl, rfl⟩
theorem Po.Fine.new {n f : Nat} (hn1 : 1 ≤ n) (hn2 : n ≤ 64) (h1 : 1 ≤ f) (h2 : f ≤ 64) : (Po.new (Ds.new n) f).Fine n 0 := ⟨Po.Ok.new List.length_replicate hn2 h1 h2, Po.Wet.new hn1 hn2, by omega, by show (0 : Nat) ≤ _; omega⟩
end Go.Proofs.YtpggkfdnpdhkfaaGreat

namespace Go.Proofs.YtpggkfdnpdhkfaaGreat
open Go.RowKit
set_option maxRecDepth 100000
set_option maxRecDepth 100000

theorem bytes_one (x : Nat) (h : x < 256) : Bytes [x] := fun y hy => by rw [List.mem_singleton.1 hy]; exact h
theorem came_one (w : World) (x : Nat) (h : x < 256) : Came (w.alloc (.cells #[.int .u8 ((x : Nat) : Int)] 5)) (some ⟨w.heap.size, 0, none⟩) 1 1 [x] :=
  (own_made w 1 (by omega) [x] rfl).came (bytes_one x h)
/-- A byte that was read of a page. -/
theorem page_cells {w : World} {s : Sl} {xs : List Nat} (h : Own 5 1 w s (vals xs)) (hl : s.len = 512) : xs.length = 512 ∧ ∃ g off cap, s = ⟨some ⟨g, off, none⟩, 512, cap⟩ ∧ ∀ j, j < 512 → w.cell? ⟨g, off + j, none⟩ = some (.int .u8 ((xs.getD j 0 : Nat) : Int)) := by
  have hlen : xs.length = 512 := by have := h.1; rw [vals_length, hl] at this; omega
  refine ⟨hlen, ?_⟩
  rcases h.2 with ⟨h0, _⟩ | ⟨g, off, cur, ha, _⟩
  · rw [h0] at hl; cases hl
  · obtain ⟨a, l, k⟩ := s
    simp only at ha hl
    subst ha; subst hl
    refine ⟨g, off, k, rfl, fun j hj => ?_⟩
    have := h.cell (a := ⟨g, off, none⟩) rfl j (.int .u8 ((xs.getD j 0 : Nat) : Int)) (by simp [vals, List.getD, hlen, hj])
    simpa [Addr.add_lit] using this

end Go.Proofs.YtpggkfdnpdhkfaaGreat
