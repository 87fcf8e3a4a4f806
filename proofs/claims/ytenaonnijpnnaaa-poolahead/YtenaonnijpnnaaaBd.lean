/-
  The landed device: Write where it may not be; a page of one byte; awake.
  A device of a call's own; awake.
  Nobody's device; the walk of the law on it.
-/
import Derived.Test.YtenaonnijpnnaaaBc
namespace Go.Proofs.Ytenaonnijpnnaaa
open Go.RowKit
set_option maxRecDepth 100000

set_option maxHeartbeats 2000000 in
theorem write_none (w : World) (p : Nat) (D : Ds) (L : Dl) (h : DevM w p D L) (n : Nat) (hn : D.sp.length = 512 * n) (hn2 : n ≤ 64) (k : Int) (hk : ¬ (0 ≤ k ∧ k < ((n : Nat) : Int))) (v : Value) : Calls Try.prog 43 #[at0 p, .int .i64 k, v] w fun e w' => e = .returned (.int .i64 3) ∧ w' = w := by
  have HG := hide (has_any w p D L h n hn hn2 k)
  rw [decide_eq_false hk] at HG
  clear h hn hk
  unfold at0 at *
  go_enter Try.func43, Try.ntmps43
  go_wp2_with fail
  refine HG.out.mono ?_
  rintro e w' ⟨rfl, hw⟩
  obtain rfl := hw.symm
  go_wp2_with fail
  go_ret
  exact ⟨rfl, rfl⟩

set_option maxHeartbeats 2000000 in
theorem write_arg (w : World) (p : Nat) (D : Ds) (L : Dl) (h : DevM w p D L) (n : Nat) (hn : D.sp.length = 512 * n) (hn2 : n ≤ 64) (k : Int) (hk : 0 ≤ k ∧ k < ((n : Nat) : Int)) (a : Option Addr) (len cap : Nat) (hl : len ≠ 512) : Calls Try.prog 43 #[at0 p, .int .i64 k, .slice a len cap] w fun e w' => e = .returned (.int .i64 1) ∧ w' = w := by
  have HG := hide (has_any w p D L h n hn hn2 k)
  rw [decide_eq_true hk] at HG
  have h1 : ¬ ((len : Nat) : Int) = 512 := by omega
  have h2 : ¬ len = 512 := hl
  clear h hn hk hl
  unfold at0 at *
  go_enter Try.func43, Try.ntmps43
  go_wp2_with fail
  refine HG.out.mono ?_
  rintro e w' ⟨rfl, hw⟩
  obtain rfl := hw.symm
  go_wp2_with fail
  go_ret
  exact ⟨rfl, rfl⟩

theorem wpList_make {ops : Array Oper} {rest : List Oper} {o : Oper} {a : Act} {Q : Exit → Act → World → Prop} (w : World) (hgd : o.guard = none) (t : TypeId) (x y : Operand) (ho : o.op = .makeSlice t x y) (u u' v : Value) (hu : a.eval x = u) (hu' : a.eval y = u') (w' : World) (hrun : (Instr.makeSlice t u u').run Try.prog w = .ok v w') (hK : wpList Try.prog ops Q rest (a.put o.dst v) w') : wpList Try.prog ops Q (o :: rest) a w := by
  refine wpList_val w hgd v w' ?_ hK
  have e : execOp a.eval o = (do pure (.value (← Instr.makeSlice t (a.eval x) (a.eval y)))) := by
    unfold execOp
    rw [ho]
  rw [e, hu, hu']
  simp [hrun]

theorem rep_set (c i N : Nat) (hi : i < N) : (List.replicate i c ++ List.replicate (N - i) 0).set i c = List.replicate (i + 1) c ++ List.replicate (N - (i + 1)) 0 := by
  rw [List.set_append_right _ _ (by simp), List.length_replicate, Nat.sub_self, show N - i = (N - (i + 1)) + 1 by omega, List.replicate_succ, List.set_cons_zero, List.replicate_succ', List.append_assoc]
  rfl

end Go.Proofs.Ytenaonnijpnnaaa

namespace Go.Proofs.Ytenaonnijpnnaaa
open Go.RowKit
set_option maxRecDepth 100000

/-- A device that a call has made itself, since the world w0. -/
structure Mine (B : Nat) (w0 w : World) (p : Nat) (D : Ds) (L : Dl) : Prop where
  dev : DevM w p D L
  foot : ∀ k, L.F p k → B ≤ k
  below : Below B w0 w
  le : B ≤ w.heap.size
theorem Mine.turn {B : Nat} {w0 w w' : World} {p : Nat} {D D' : Ds} {L L' : Dl} (h : Mine B w0 w p D L) (t : Turned w p L w' D' L') : Mine B w0 w' p D' L' :=
  ⟨t.dev, fun k hk => (t.foot k hk).elim (h.foot k) (fun e => Nat.le_trans h.le e), h.below.trans (t.frm.below h.le h.foot), Nat.le_trans h.le t.frm.size⟩
theorem Mine.keep {B : Nat} {w0 w w' : World} {p : Nat} {D : Ds} {L : Dl} (h : Mine B w0 w p D L) (hb : Below w.heap.size w w') : Mine B w0 w' p D L := h.turn (Turned.same h.dev hb)
theorem Mine.off {B : Nat} {w0 w : World} {p : Nat} {D : Ds} {L : Dl} (h : Mine B w0 w p D L) {a : Option Addr} {len : Nat} (ha : ∀ ad, a = some ad → 0 < len → ad.block < B) : Off (L.F p) a len := fun ad e hl hk => by
  have h1 := h.foot _ hk
  have h2 := ha ad e hl
  omega
/-- A slice in a block that was made behind the device is apart from it. -/
theorem DevM.offNew {w : World} {p : Nat} {D : Ds} {L : Dl} (h : DevM w p D L) {g o len : Nat} (hg : w.heap.size ≤ g) : Off (L.F p) (some ⟨g, o, none⟩) len := fun ad e _ hk => by
  cases e
  have := h.lt hk
  simp only at this
  omega

theorem Ds.fit0 (D : Ds) (h : D.tr = []) (u0 : Nat) (hu : u0 ≤ D.ap.length) : D.Fit u0 0 := ⟨⟨Nat.zero_le _, fun t ht => by omega, fun ht => by rw [h] at ht; simp at ht⟩, Nat.zero_le _, by omega, fun h0 => by omega⟩
theorem Ds.new_sane (n : Nat) (h1 : 1 ≤ n) (h2 : n ≤ 64) : (Ds.new n).Sane n := ⟨by simp [Ds.new], by simp [Ds.new], h1, h2, fun x hx => by simp [Ds.new] at hx, by simp [Ds.new], by simp [Ds.new], by simp [Ds.new]⟩

def aw1 : Ds := (Ds.new 1).write 0 (List.replicate 512 1)
def aw2 : Ds := aw1.sync
def aw3 : Ds := aw2.write 0 (List.replicate 512 2)
def aw4 : Ds := aw3.crash [true, false] 0 0
theorem bytes_rep (n c : Nat) (hc : c < 256) : Bytes (List.replicate n c) := fun x hx => by rw [(List.mem_replicate.1 hx).2]; exact hc
theorem aw1_wr : aw1.wr = secs 0 (List.replicate 512 1) 4 := by kernel_rfl
theorem aw3_wr : aw3.wr = secs 0 (List.replicate 512 2) 4 := by kernel_rfl
theorem sane_by (D : Ds) (b : List Nat) (hw : D.wr = secs 0 b 4) (hb : b.length = 512) (hx : Bytes b) (h1 : D.sp.length = 512) (h2 : D.kp.length = 512) (h3 : D.ks.length + D.ap.length = 0) (h4 : D.tr = []) : D.Sane 1 :=
  ⟨h1, h2, by omega, by omega, by rw [hw]; exact secs_ok 0 b 4 (512 * 1) hb hx (by omega) (by omega), by rw [hw]; simp [secs], by omega, by rw [h4]; simp⟩
theorem aw1_sane : aw1.Sane 1 := sane_by _ _ aw1_wr (by kernel_rfl) (bytes_rep _ _ (by omega)) (by kernel_rfl) (by kernel_rfl) (by kernel_rfl) (by kernel_rfl)
theorem aw3_sane : aw3.Sane 1 := sane_by _ _ aw3_wr (by kernel_rfl) (bytes_rep _ _ (by omega)) (by kernel_rfl) (by kernel_rfl) (by kernel_rfl) (by kernel_rfl)
theorem aw4_read : ((aw4.sp.drop (512 * 0)).take 512).getD 0 0 = 2 ∧ ((aw4.sp.drop (512 * 0)).take 512).getD 128 0 = 1 ∧ ((aw4.sp.drop (512 * 0)).take 512).getD 256 0 = 2 ∧ ((aw4.sp.drop (512 * 0)).take 512).getD 511 0 = 1 := ⟨by kernel_rfl, by kernel_rfl, by kernel_rfl, by kernel_rfl⟩
theorem aw2_len : aw2.sp.length = 512 * 1 := by kernel_rfl
theorem aw4_len : aw4.sp.length = 512 * 1 := by kernel_rfl
theorem aw2_wr : aw2.wr = [] := by kernel_rfl
theorem aw1_g : aw1.gone = false := by kernel_rfl
theorem aw1_t : aw1.tr = [] := by kernel_rfl
theorem aw3_t : aw3.tr = [] := by kernel_rfl
theorem aw2_a : aw2.armed = false := by kernel_rfl
theorem aw3_c : (0 : Nat) = aw3.count 0 := by kernel_rfl
theorem aw1_u : aw1.units ≤ aw1.ap.length := by unfold Ds.units; rw [aw1_t]; exact Nat.le_refl _

end Go.Proofs.Ytenaonnijpnnaaa

namespace Go.Proofs.Ytenaonnijpnnaaa
open Go.RowKit
set_option maxRecDepth 100000

/-- Nobody's device: no pointer, or one to a device that New did not give. -/
def Dead (w : World) (v : Value) : Prop := v = .pointer none ∨ ∃ p, v = .pointer (some ⟨p, 0, none⟩) ∧ w.cell? ⟨p, 0, none⟩ = some (.slice none 0 0)
theorem Dead.keep {w w' : World} {v : Value} (h : Dead w v) (hb : Below w.heap.size w w') : Dead w' v := by
  rcases h with h | ⟨p, h, hc⟩
  · exact .inl h
  · exact .inr ⟨p, h, (hb.cell (World.block_lt_of_cell? w _ hc)).trans hc⟩

set_option maxHeartbeats 1000000 in
theorem dead_pages (w : World) (v : Value) (h : Dead w v) : Calls Try.prog 23 #[v] w fun e w' => e = .returned (.int .i64 0) ∧ w' = w := by
  rcases h with rfl | ⟨p, rfl, c0⟩
  · have hnil : ∀ w : World, (binOp .eql 23 (.pointer none) (.pointer none)).run Try.prog w = .ok (.bool true) w := fun _ => rfl
    go_enter Try.func23, Try.ntmps23
    go_wp2_with fail
    go_ret
    exact ⟨rfl, rfl⟩
  · have hnil : ∀ w : World, (binOp .eql 23 (.pointer (some ⟨p, 0, none⟩)) (.pointer none)).run Try.prog w = .ok (.bool false) w := fun _ => rfl
    go_enter Try.func23, Try.ntmps23
    go_wp2_with fail
    go_ret
    exact ⟨rfl, rfl⟩

set_option maxHeartbeats 1000000 in
theorem dead_given (w : World) (v : Value) (h : Dead w v) : Calls Try.prog 31 #[v] w fun e w' => e = .returned (.bool false) ∧ w' = w := by
  have HP := hide (dead_pages w v h)
  clear h
  go_enter Try.func31, Try.ntmps31
  go_wp2_with fail
  refine HP.out.mono ?_
  rintro e w' ⟨rfl, hw⟩
  obtain rfl := hw.symm
  go_wp2_with fail
  go_ret
  exact ⟨rfl, rfl⟩

set_option maxHeartbeats 1000000 in
theorem dead_has (w : World) (v : Value) (h : Dead w v) : Calls Try.prog 34 #[v, .int .i64 0] w fun e w' => e = .returned (.bool false) ∧ w' = w := by
  have HP := hide (dead_pages w v h)
  clear h
  go_enter Try.func34, Try.ntmps34
  go_wp2_with fail
  refine HP.out.mono ?_
  rintro e w' ⟨rfl, hw⟩
  obtain rfl := hw.symm
  go_wp2_with fail
  go_ret
  exact ⟨rfl, rfl⟩

set_option maxHeartbeats 1000000 in
theorem dead_sync (w : World) (v : Value) (h : Dead w v) : Calls Try.prog 42 #[v] w fun e w' => e = .returned (.tuple #[]) ∧ w' = w := by
  have HP := hide (dead_given w v h)
  clear h
  go_enter Try.func42, Try.ntmps42
  go_wp2_with fail
  refine HP.out.mono ?_
  rintro e w' ⟨rfl, hw⟩
  obtain rfl := hw.symm
  go_wp2_with fail
  refine bodyPost_ret (results_none rfl _ _ _) rfl ?_
  exact ⟨rfl, rfl⟩

set_option maxHeartbeats 1000000 in
theorem dead_crash (w : World) (v : Value) (h : Dead w v) (x y : Value) : Calls Try.prog 17 #[v, x, y] w fun e w' => e = .returned (.tuple #[]) ∧ w' = w := by
  have HP := hide (dead_given w v h)
  clear h
  go_enter Try.func17, Try.ntmps17
  go_wp2_with fail
  refine HP.out.mono ?_
  rintro e w' ⟨rfl, hw⟩
  obtain rfl := hw.symm
  go_wp2_with fail
  refine bodyPost_ret (results_none rfl _ _ _) rfl ?_
  exact ⟨rfl, rfl⟩

set_option maxHeartbeats 1000000 in
theorem dead_read (w : World) (v : Value) (h : Dead w v) : Calls Try.prog 19 #[v, .int .i64 0] w fun e w' => e = .returned (.tuple #[.slice none 0 0, .int .i64 3]) ∧ w' = w := by
  have HP := hide (dead_has w v h)
  clear h
  go_enter Try.func19, Try.ntmps19
  go_wp2_with fail
  refine HP.out.mono ?_
  rintro e w' ⟨rfl, hw⟩
  obtain rfl := hw.symm
  go_wp2_with fail
  go_ret2
  exact ⟨rfl, rfl⟩

set_option maxHeartbeats 1000000 in
theorem dead_stream (w : World) (v : Value) (h : Dead w v) : Calls Try.prog 18 #[v] w fun e w' => e = .returned (.tuple #[.int .i64 0, .slice none 0 0]) ∧ w' = w := by
  have HP := hide (dead_given w v h)
  clear h
  go_enter Try.func18, Try.ntmps18
  go_wp2_with fail
  refine HP.out.mono ?_
  rintro e w' ⟨rfl, hw⟩
  obtain rfl := hw.symm
  go_wp2_with fail
  go_ret2
  exact ⟨rfl, rfl⟩

set_option maxHeartbeats 1000000 in
theorem dead_write (w : World) (v : Value) (h : Dead w v) (x : Value) : Calls Try.prog 43 #[v, .int .i64 0, x] w fun e w' => e = .returned (.int .i64 3) ∧ w' = w := by
  have HP := hide (dead_has w v h)
  clear h
  go_enter Try.func43, Try.ntmps43
  go_wp2_with fail
  refine HP.out.mono ?_
  rintro e w' ⟨rfl, hw⟩
  obtain rfl := hw.symm
  go_wp2_with fail
  go_ret
  exact ⟨rfl, rfl⟩

set_option maxHeartbeats 1000000 in
theorem dead_append (w : World) (v : Value) (h : Dead w v) (x : Value) : Calls Try.prog 16 #[v, x] w fun e w' => e = .returned (.int .i64 1) ∧ w' = w := by
  have HP := hide (dead_given w v h)
  clear h
  go_enter Try.func16, Try.ntmps16
  go_wp2_with fail
  refine HP.out.mono ?_
  rintro e w' ⟨rfl, hw⟩
  obtain rfl := hw.symm
  go_wp2_with fail
  go_ret
  exact ⟨rfl, rfl⟩

end Go.Proofs.Ytenaonnijpnnaaa
