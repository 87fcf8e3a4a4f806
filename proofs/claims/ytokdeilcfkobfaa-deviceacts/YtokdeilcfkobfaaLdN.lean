/-
  A device of a call's own; awake.
-/
import Derived.Test.YtokdeilcfkobfaaLdM
namespace Go.Proofs.Ytokdeilcfkobfaa
open Go.RowKit

/-- A device that a call has made itself, since the world w0. -/
structure Mine (B : Nat) (w0 w : World) (p : Nat) (D : Ds) (L : Dl) : Prop where
  dev : DevM w p D L
  foot : ∀ k, L.F p k → B ≤ k
  below : Below B w0 w
  le : B ≤ w.heap.size
theorem Mine.turn {B : Nat} {w0 w w' : World} {p : Nat} {D D' : Ds} {L L' : Dl} (h : Mine B w0 w p D L) (t : Turned w p L w' D' L') : Mine B w0 w' p D' L' :=
  ⟨t.dev, fun k hk => (t.foot k hk).elim (h.foot k) (fun e => Nat.le_trans h.le e), h.below.trans (t.frm.below h.le h.foot), Nat.le_trans h.le t.frm.size⟩
theorem Mine.keep {B : Nat} {w0 w w' : World} {p : Nat} {D : Ds} {L : Dl} (h : Mine B w0 w p D L) (hb : Below w.heap.size w w') : Mine B w0 w' p D L := h.turn (Turned.same h.dev hb)
theorem Mine.off {B : Nat} {w0 w : World} {p : Nat} {D : Ds} {L : Dl} (h : Mine B w0 w p D L) {a : Option Addr} {len : Nat} (ha : ∀ ad, a = some ad → 0 < len → ad.block < B) : Off (L.F p) a len := fun ad e hl hk => by
  have h1 := h.foot _ hk
  have h2 := ha ad e hl
  omega
/-- A slice in a block that was made behind the device is apart from it. -/
theorem DevM.offNew {w : World} {p : Nat} {D : Ds} {L : Dl} (h : DevM w p D L) {g o len : Nat} (hg : w.heap.size ≤ g) : Off (L.F p) (some ⟨g, o, none⟩) len := fun ad e _ hk => by
  cases e
  have := h.lt hk
  simp only at this
  omega

theorem Ds.fit0 (D : Ds) (h : D.tr = []) (u0 : Nat) (hu : u0 ≤ D.ap.length) : D.Fit u0 0 := ⟨⟨Nat.zero_le _, fun t ht => by omega, fun ht => by rw [h] at ht; simp at ht⟩, Nat.zero_le _, by omega, fun h0 => by omega⟩
theorem Ds.new_sane (n : Nat) (h1 : 1 ≤ n) (h2 : n ≤ 64) : (Ds.new n).Sane n := ⟨by simp [Ds.new], by simp [Ds.new], h1, h2, fun x hx => by simp [Ds.new] at hx, by simp [Ds.new], by simp [Ds.new], by simp [Ds.new]⟩

def aw1 : Ds := (Ds.new 1).write 0 (List.replicate 512 1)
def aw2 : Ds := aw1.sync
def aw3 : Ds := aw2.write 0 (List.replicate 512 2)
def aw4 : Ds := aw3.crash [true, false] 0 0
theorem bytes_rep (n c : Nat) (hc : c < 256) : Bytes (List.replicate n c) := fun x hx => by rw [(List.mem_replicate.1 hx).2]; exact hc
theorem aw1_wr : aw1.wr = secs 0 (List.replicate 512 1) 4 := by kernel_rfl
theorem aw3_wr : aw3.wr = secs 0 (List.replicate 512 2) 4 := by kernel_rfl
theorem sane_by (D : Ds) (b : List Nat) (hw : D.wr = secs 0 b 4) (hb : b.length = 512) (hx : Bytes b) (h1 : D.sp.length = 512) (h2 : D.kp.length = 512) (h3 : D.ks.length + D.ap.length = 0) (h4 : D.tr = []) : D.Sane 1 :=
  ⟨h1, h2, by omega, by omega, by rw [hw]; exact secs_ok 0 b 4 (512 * 1) hb hx (by omega) (by omega), by rw [hw]; simp [secs], by omega, by rw [h4]; simp⟩
theorem aw1_sane : aw1.Sane 1 := sane_by _ _ aw1_wr (by kernel_rfl) (bytes_rep _ _ (by omega)) (by kernel_rfl) (by kernel_rfl) (by kernel_rfl) (by kernel_rfl)
theorem aw3_sane : aw3.Sane 1 := sane_by _ _ aw3_wr (by kernel_rfl) (bytes_rep _ _ (by omega)) (by kernel_rfl) (by kernel_rfl) (by kernel_rfl) (by kernel_rfl)
theorem aw4_read : ((aw4.sp.drop (512 * 0)).take 512).getD 0 0 = 2 ∧ ((aw4.sp.drop (512 * 0)).take 512).getD 128 0 = 1 ∧ ((aw4.sp.drop (512 * 0)).take 512).getD 256 0 = 2 ∧ ((aw4.sp.drop (512 * 0)).take 512).getD 511 0 = 1 := ⟨by kernel_rfl, by kernel_rfl, by kernel_rfl, by kernel_rfl⟩
theorem aw2_len : aw2.sp.length = 512 * 1 := by kernel_rfl
theorem aw4_len : aw4.sp.length = 512 * 1 := by kernel_rfl
theorem aw2_wr : aw2.wr = [] := by kernel_rfl
theorem aw1_g : aw1.gone = false := by kernel_rfl
theorem aw1_t : aw1.tr = [] := by kernel_rfl
theorem aw3_t : aw3.tr = [] := by kernel_rfl
theorem aw2_a : aw2.armed = false := by kernel_rfl
theorem aw3_c : (0 : Nat) = aw3.count 0 := by kernel_rfl
theorem aw1_u : aw1.units ≤ aw1.ap.length := by unfold Ds.units; rw [aw1_t]; exact Nat.le_refl _

set_option maxHeartbeats 8000000 in
set_option maxRecDepth 100000 in
theorem awake_any (w : World) : Calls Try.prog 9 #[] w fun e w' => e = .returned (.bool true) ∧ Below w.heap.size w w' := by
  have HN := hide (new_any w 1 (by omega) (by omega))
  have HF1 : Hid (∀ w', Calls Try.prog 28 #[.int .u8 1] w' fun e w2 => Below w'.heap.size w' w2 ∧ e = .returned (.slice (some ⟨w'.heap.size, 0, none⟩) 512 512) ∧ Came w2 (some ⟨w'.heap.size, 0, none⟩) 512 512 (List.replicate 512 1)) := fun w' => full_any w' 1 (by omega)
  have HF2 : Hid (∀ w', Calls Try.prog 28 #[.int .u8 2] w' fun e w2 => Below w'.heap.size w' w2 ∧ e = .returned (.slice (some ⟨w'.heap.size, 0, none⟩) 512 512) ∧ Came w2 (some ⟨w'.heap.size, 0, none⟩) 512 512 (List.replicate 512 2)) := fun w' => full_any w' 2 (by omega)
  have HW1 : Hid (∀ w' p L g cap, DevM w' p (Ds.new 1) L → Came w' (some ⟨g, 0, none⟩) 512 cap (List.replicate 512 1) → Off (L.F p) (some ⟨g, 0, none⟩) 512 → Calls Try.prog 13 #[at0 p, .int .i64 0, .slice (some ⟨g, 0, none⟩) 512 cap] w' fun e w2 => e = .returned (.int .i64 0) ∧ ∃ L', Turned w' p L w2 aw1 L') :=
    fun w' p L g cap hd hc ho => write_ok w' p _ L hd 1 (by kernel_rfl) (by omega) (fun x hx => by cases hx) (by show ([] : List Sw).length ≤ _; simp) (fun e => by cases e) 0 (by omega) _ cap _ hc ho
  have HS : Hid (∀ w' p L, DevM w' p aw1 L → Calls Try.prog 20 #[at0 p] w' fun e w2 => e = .returned (.tuple #[]) ∧ ∃ L', Turned w' p L w2 aw2 L') :=
    fun w' p L hd => sync_any w' p _ L hd 1 aw1_sane (fun _ => by rw [show aw1.tr.length = 0 by rw [aw1_t]; rfl]; exact aw1.fit0 aw1_t _ aw1_u)
  have HW2 : Hid (∀ w' p L g cap, DevM w' p aw2 L → Came w' (some ⟨g, 0, none⟩) 512 cap (List.replicate 512 2) → Off (L.F p) (some ⟨g, 0, none⟩) 512 → Calls Try.prog 13 #[at0 p, .int .i64 0, .slice (some ⟨g, 0, none⟩) 512 cap] w' fun e w2 => e = .returned (.int .i64 0) ∧ ∃ L', Turned w' p L w2 aw3 L') :=
    fun w' p L g cap hd hc ho => write_ok w' p _ L hd 1 aw2_len (by omega) (fun x hx => by rw [aw2_wr] at hx; cases hx) (by rw [aw2_wr]; simp) (fun e => by rw [aw2_a] at e; cases e) 0 (by omega) _ cap _ hc ho
  have HC : Hid (∀ w' p L g, DevM w' p aw3 L → Pat w' (some ⟨g, 0, none⟩) 2 [true, false] → Off (L.F p) (some ⟨g, 0, none⟩) 2 → Calls Try.prog 24 #[at0 p, .slice (some ⟨g, 0, none⟩) 2 2, .int .i64 0] w' fun e w2 => e = .returned (.tuple #[]) ∧ ∃ L', Turned w' p L w2 aw4 L') :=
    fun w' p L g hd hp ho => crash_any w' p _ L hd 1 aw3_sane _ _ 2 _ hp ho (by omega) 0 0 0 aw3_c (aw3.fit0 aw3_t 0 (Nat.zero_le _))
  have HR : Hid (∀ w' p L, DevM w' p aw4 L → Calls Try.prog 29 #[at0 p, .int .i64 0] w' fun e w2 => Below w'.heap.size w' w2 ∧ ∃ s : Sl, e = .returned (.tuple #[s.val, .int .i64 0]) ∧ Own 5 1 w2 s (vals ((aw4.sp.drop (512 * 0)).take 512)) ∧ s.len = 512 ∧ ∀ k, s.blk = some k → w'.heap.size ≤ k) :=
    fun w' p L hd => read_any w' p _ L hd 1 aw4_len (by omega) 0 (by omega)
  have HRD := hide aw4_read
  generalize aw1 = d1 at *
  generalize aw2 = d2 at *
  generalize aw3 = d3 at *
  generalize ((aw4.sp.drop (512 * 0)).take 512) = rd at *
  generalize aw4 = d4 at *
  generalize List.replicate 512 1 = r1 at *
  generalize List.replicate 512 2 = r2 at *
  unfold at0 at *
  go_enter Try.func9, Try.ntmps9
  go_wp2_with fail
  refine HN.out.mono ?_
  rintro e w1 ⟨hb1, p, L1, rfl, hd1, hf1⟩
  have M1 := hide (Mine.mk hd1 hf1 hb1 hb1.size)
  clear hb1 hd1 hf1
  have hnil : ∀ w : World, (binOp .eql 23 (.pointer (some ⟨p, 0, none⟩)) (.pointer none)).run Try.prog w = .ok (.bool false) w := fun _ => rfl
  go_wp2_with fail
  refine (HF1.out w1).mono ?_
  rintro e w2 ⟨hb2, rfl, hc2⟩
  have M2 := hide (M1.out.keep hb2)
  have HC2 := hide hc2
  have HO2 := hide (M1.out.dev.offNew (o := 0) (len := 512) (Nat.le_refl w1.heap.size))
  clear hb2 hc2
  go_wp2_with fail
  refine (HW1.out w2 p L1 w1.heap.size 512 M2.out.dev HC2.out HO2.out).mono ?_
  rintro e w3 ⟨rfl, L3, hT3⟩
  have M3 := hide (M2.out.turn hT3)
  clear hT3
  go_wp2_with fail
  refine (HS.out w3 p L3 M3.out.dev).mono ?_
  rintro e w4 ⟨rfl, L4, hT4⟩
  have M4 := hide (M3.out.turn hT4)
  clear hT4
  go_wp2_with fail
  refine (HF2.out w4).mono ?_
  rintro e w5 ⟨hb5, rfl, hc5⟩
  have M5 := hide (M4.out.keep hb5)
  have HC5 := hide hc5
  have HO5 := hide (M4.out.dev.offNew (o := 0) (len := 512) (Nat.le_refl w4.heap.size))
  clear hb5 hc5
  go_wp2_with fail
  refine (HW2.out w5 p L4 w4.heap.size 512 M5.out.dev HC5.out HO5.out).mono ?_
  rintro e w6 ⟨rfl, L6, hT6⟩
  have M6 := hide (M5.out.turn hT6)
  clear hT6
  have hA := below_alloc w6 (.cells #[.bool true, .bool false] 4)
  have M7 := hide (M6.out.keep hA)
  have HP7 : Hid (Pat (w6.alloc (.cells #[.bool true, .bool false] 4)) (some ⟨w6.heap.size, 0, none⟩) 2 [true, false]) := by
    refine ⟨rfl, fun i hi => ⟨w6.heap.size, 0, rfl, ?_⟩⟩
    rw [Addr.cell0 (heap_alloc_new w6 _)]
    rcases i with _ | _ | i
    · rfl
    · rfl
    · omega
  have HO7 := hide (M6.out.dev.offNew (o := 0) (len := 2) (Nat.le_refl w6.heap.size))
  clear hA
  go_wp2_with fail
  refine (HC.out _ p L6 w6.heap.size M7.out.dev HP7.out HO7.out).mono ?_
  rintro e w8 ⟨rfl, L8, hT8⟩
  have M8 := hide (M7.out.turn hT8)
  clear hT8
  go_wp2_with fail
  refine (HR.out w8 p L8 M8.out.dev).mono ?_
  rintro e w9 ⟨hb9, s9, rfl, ho9, hl9, _⟩
  have M9 := hide (M8.out.keep hb9)
  have hlen : rd.length = 512 := by have := ho9.1; rw [vals_length, hl9] at this; omega
  have hcell : ∃ g off cap, s9 = ⟨some ⟨g, off, none⟩, 512, cap⟩ ∧ ∀ j, j < 512 → w9.cell? ⟨g, off + j, none⟩ = some (.int .u8 ((rd.getD j 0 : Nat) : Int)) := by
    rcases ho9.2 with ⟨h0, _⟩ | ⟨g, off, cur, ha, _⟩
    · rw [h0] at hl9; cases hl9
    · obtain ⟨a9, l9, k9⟩ := s9
      simp only at ha hl9
      subst ha; subst hl9
      refine ⟨g, off, k9, rfl, fun j hj => ?_⟩
      have := ho9.cell rfl j _ (vals_get (by omega : j < rd.length))
      rwa [Addr.add_lit] at this
  obtain ⟨g, off, cap9, rfl, hcell⟩ := hcell
  obtain ⟨q0, q1, q2, q3⟩ := HRD.out
  have k0 := hcell 0 (by omega)
  have k1 := hcell 128 (by omega)
  have k2 := hcell 256 (by omega)
  have k3 := hcell 511 (by omega)
  rw [q0] at k0
  rw [q1] at k1
  rw [q2] at k2
  rw [q3] at k3
  rw [Nat.add_zero] at k0
  clear hb9 ho9 hl9 hlen hcell q0 q1 q2 q3
  unfold Sl.val
  simp only
  go_wp2_with fail
  go_ret
  exact ⟨rfl, M9.out.below⟩

end Go.Proofs.Ytokdeilcfkobfaa
