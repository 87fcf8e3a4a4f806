/-
  The landed device: Append.
  The landed device: Trim.
  The landed device: keepUnits.
  The landed device: keep.
  The landed device: Sync, Crash.
  The landed device: New.
  The landed device: Write.
  The landed device: Write, whole.
-/
import Derived.Test.YtpggkfdnpdhkfaaGreatBb
import Derived.Deep.MidRow
import Derived.Deep.WholeRow
import Derived.Laws.MakeOwn
import Derived.Great.BuildSlice
import Derived.Great.FillDense
namespace Go.Proofs.YtpggkfdnpdhkfaaGreat
open Go.RowKit
set_option maxRecDepth 100000

theorem Frm.pblk {F : Nat → Prop} {w w1 : World} {p : Nat} {D : Ds} {L : Dl} (hf : Frm F w w1) (h : DevM w p D L) (hF : ¬ F p) : w1.heap[p]? = some (.cells (dvCells D L) 91 (0, 0)) := (hf.block p (h.lt (.inl rfl)) hF).trans h.blk

/-- Bytes that came are apart from a device's blocks. -/
def Off (F : Nat → Prop) (a : Option Addr) (len : Nat) : Prop := ∀ ad, a = some ad → 0 < len → ¬ F ad.block
theorem Came.frm {F : Nat → Prop} {w w1 : World} {a : Option Addr} {len cap : Nat} {xs : List Nat} (h : Came w a len cap xs) (hf : Frm F w w1) (ho : Off F a len) : Came w1 a len cap xs := by
  refine ⟨⟨h.bs.1, h.bs.2.1, fun i hi => ?_⟩, h.nil, h.le, h.big⟩
  obtain ⟨b, off, ha, hc⟩ := h.bs.2.2 i hi
  refine ⟨b, off, ha, ?_⟩
  have := hf.block b (World.block_lt_of_cell? w _ hc) (ho _ ha (by omega))
  simp only [World.cell?] at hc ⊢
  rw [this]
  exact hc
theorem Off.turned {w w' : World} {p : Nat} {D' : Ds} {L L' : Dl} {a : Option Addr} {len cap : Nat} {xs : List Nat} (h : Off (L.F p) a len) (hc : Came w a len cap xs) (ht : Turned w p L w' D' L') : Off (L'.F p) a len := by
  intro ad ha hl hk
  rcases ht.foot _ hk with h1 | h1
  · exact h ad ha hl h1
  · obtain ⟨b, off, e, hcell⟩ := hc.bs.2.2 0 hl
    rw [ha] at e
    obtain rfl := Option.some.inj e
    have := World.block_lt_of_cell? w _ hcell
    simp only at *
    omega
theorem Came.turned {w w' : World} {p : Nat} {D' : Ds} {L L' : Dl} {a : Option Addr} {len cap : Nat} {xs : List Nat} (hc : Came w a len cap xs) (h : Off (L.F p) a len) (ht : Turned w p L w' D' L') : Came w' a len cap xs := hc.frm ht.frm h

theorem Ds.spend_b (D : Ds) (n : Nat) (f : Fld) : (D.spend n).b f = D.b f := by
  unfold Ds.spend
  split
  · rfl
  · split
    · rfl
    · split <;> cases f <;> rfl
theorem Ds.spend_wr (D : Ds) (n : Nat) : (D.spend n).wr = D.wr := by
  unfold Ds.spend
  split
  · rfl
  · split
    · rfl
    · split <;> rfl
theorem Ds.spend_tr (D : Ds) (n : Nat) : (D.spend n).tr = D.tr := by
  unfold Ds.spend
  split
  · rfl
  · split
    · rfl
    · split <;> rfl
theorem Ds.spent_le (D : Ds) (n : Nat) : D.spent n ≤ n := by
  unfold Ds.spent
  split
  · omega
  · split
    · omega
    · split <;> omega
theorem Came.upto {w : World} {a : Option Addr} {len cap : Nat} {xs : List Nat} (h : Came w a len cap xs) (k : Nat) (hk : k ≤ len) : Came w (fromA a cap 0) k cap (xs.take k) := by
  refine ⟨h.bs.upto hk, fun e => ?_, Nat.le_trans hk h.le, Nat.le_trans hk h.big⟩
  unfold fromA at e
  split at e
  · omega
  · cases ha : a with
    | none => exact h.nil ha
    | some x => rw [ha] at e; cases e
theorem Bytes.append {xs ys : List Nat} (h : Bytes xs) (k : Bytes ys) : Bytes (xs ++ ys) := fun x hx => (List.mem_append.1 hx).elim (h x) (k x)
theorem Bytes.take {xs : List Nat} (h : Bytes xs) (k : Nat) : Bytes (xs.take k) := fun x hx => h x (List.mem_of_mem_take hx)
theorem Bytes.drop {xs : List Nat} (h : Bytes xs) (k : Nat) : Bytes (xs.drop k) := fun x hx => h x (List.mem_of_mem_drop hx)

/-- Bytes appended to a field of the device. -/
theorem DevM.app {w : World} {p : Nat} {D : Ds} {L : Dl} (h : DevM w p D L) (f : Fld) (a : Option Addr) (len cap : Nat) (ys : List Nat) (hy : Came w a len cap ys) (hm : (D.b f).length + len ≤ 1000000) :
    ∃ s' w1, (∀ ty, (Builtin.append_ #[32, 32] ty #[(L.s f).val, .slice a len cap]).run Tryz.prog w = .ok s'.val w1) ∧ Own 5 1 w1 s' (vals (D.b f ++ ys)) ∧ Frm (fun k => (L.s f).blk = some k) w w1 ∧ (∀ k, s'.blk = some k → (L.s f).blk = some k ∨ w.heap.size ≤ k) := by
  have hl := h.len f
  obtain ⟨s', w1, hr, ho, _, hf, hb⟩ := own_append (S := 32) Tryz.underlying32 info5 rfl (by omega) w (L.s f) _ (h.own f) (vals_one _) (.slice a len cap) len (vals ys) hy.src (by omega) 32
  refine ⟨s', w1, fun ty => hr, by rw [vals_append]; exact ho, hf, fun k hk => ?_⟩
  rcases hb with e | ⟨e, _⟩
  · exact .inl (by rw [← e]; exact hk)
  · rw [e] at hk
    cases hk
    exact .inr (Nat.le_refl _)

theorem wpList_appRun (w : World) {ops : Array Oper} {rest : List Oper} {o : Oper} {a : Act} {Q : Exit → Act → World → Prop} (hgd : o.guard = none) (t : TypeId) (s x : Operand)
    (ho : o.op = .call { callee := .builtin .append, args := #[s, x], argTypes := #[t, t] }) (v' : Value) (w' : World) (hrun : ∀ ty, (Builtin.append_ #[t, t] ty #[a.eval s, a.eval x]).run Tryz.prog w = .ok v' w')
    (hK : wpList Tryz.prog ops Q rest (a.put o.dst v') w') : wpList Tryz.prog ops Q (o :: rest) a w := by
  refine wpList_plain hgd fun K hK' => ?_
  unfold Oper.wp
  simp [execOp, ho, resolve, invoke, builtin, hrun, Result.andThen]
  exact hK' _ _ hK

set_option maxHeartbeats 2000000 in
set_option maxRecDepth 100000 in
theorem append6 (w : World) (p : Nat) (D : Ds) (L : Dl) (h : DevM w p D L) (a : Option Addr) (len cap : Nat) (ys : List Nat) (hy : Came w a len cap ys) (hoff : Off (L.F p) a len) (hl : D.armed = true → 0 ≤ D.left ∧ D.left ≤ 9223372036854775807) (hm : D.ap.length + len ≤ 1000000)
    {Q : Exit → Act → World → Prop} {A : Act} (hsz : A.tmps.size = 43) (hdf : A.defers = []) (s0 : A.tmps.getD 0 undef = .pointer (some ⟨p, 0, none⟩)) (s1 : A.tmps.getD 1 undef = .slice a len cap)
    (hend : ∀ (u : Nat → Value) w', (∃ L', Turned w p L w' { D.spend len with ap := D.ap ++ ys.take (D.spent len) } L') → Q .normal (((((((((((((((A).put (some 29) (u 29)).put (some 30) (u 30)).put (some 31) (u 31)).put (some 32) (u 32)).put (some 34) (u 34)).put (some 35) (u 35)).put (some 36) (u 36)).put (some 37) (u 37)).put (some 33) (u 33)).put (some 38) (u 38)).put (some 39) (u 39)).put (some 40) (u 40)).put (some 41) (u 41)).put (some 42) (u 42)) w') :
    (Code.region 6 (Pl.find 6 ((Tryz.f47.body).getD .skip)) true).wp Tryz.prog Q A w := by
  have hA := Pl.At.same (v := .slice a len cap) (d := 1) (Pl.At.same (v := .pointer (some ⟨p, 0, none⟩)) (d := 0) (Pl.At.here hsz hdf) s0) s1
  refine Pl.H.start (S := fun _ => True) (by kernel_rfl) hA True.intro ?_
  rw [show (Pl.find 6 ((Tryz.f47.body).getD .skip)).size = 15 by kernel_rfl]
  refine Pl.H.take 0 29 (.pointer (some ⟨p, 0, none⟩)) (by kernel_rfl) (by kernel_rfl) (by kernel_rfl) (Pl.free 0 (by kernel_rfl)) (Pl.move 0 (.tmp 0) (by kernel_rfl) (by decide)) True.intro ?_
  refine Pl.H.take 1 30 (.pointer (some ⟨p, 0, none⟩)) (by kernel_rfl) (by kernel_rfl) (by kernel_rfl) (Pl.free 1 (by kernel_rfl)) (Pl.move 1 (.tmp 0) (by kernel_rfl) (by decide)) True.intro ?_
  refine Pl.H.take 2 31 (.pointer (some ⟨p, 0, none⟩)) (by kernel_rfl) (by kernel_rfl) (by kernel_rfl) (Pl.free 2 (by kernel_rfl)) (Pl.nilc 2 (.tmp 30) _ (by kernel_rfl) (by decide) rfl) True.intro ?_
  refine Pl.H.take 3 32 (.pointer (some ⟨p, 7, none⟩)) (by kernel_rfl) (by kernel_rfl) (by kernel_rfl) (Pl.free 3 (by kernel_rfl)) (Pl.field 3 91 (.tmp 31) 3 _ (by kernel_rfl) (by decide) (fdDev3_0 p)) True.intro ?_
  refine Pl.H.take 5 34 (.slice a len cap) (by kernel_rfl) (by kernel_rfl) (by kernel_rfl) (Pl.free 5 (by kernel_rfl)) (Pl.move 5 (.tmp 1) (by kernel_rfl) (by decide)) True.intro ?_
  refine Pl.H.take 6 35 (.pointer (some ⟨p, 0, none⟩)) (by kernel_rfl) (by kernel_rfl) (by kernel_rfl) (Pl.free 6 (by kernel_rfl)) (Pl.move 6 (.tmp 0) (by kernel_rfl) (by decide)) True.intro ?_
  refine Pl.H.take 7 36 (.slice a len cap) (by kernel_rfl) (by kernel_rfl) (by kernel_rfl) (Pl.free 7 (by kernel_rfl)) (Pl.move 7 (.tmp 1) (by kernel_rfl) (by decide)) True.intro ?_
  refine Pl.H.take 8 37 (.int .i64 ((len : Nat) : Int)) (by kernel_rfl) (by kernel_rfl) (by kernel_rfl) (Pl.free 8 (by kernel_rfl)) (Pl.lenOf 8 32 (.tmp 36) _ (by kernel_rfl) (by decide) (fun _ _ => rfl)) True.intro ?_
  refine Pl.H.two 4 9 (by kernel_rfl) ?_ ?_
  · refine Pl.HOp.value 4 33 (.slice L.ap.a L.ap.len L.ap.cap) w.drew (by kernel_rfl) (by kernel_rfl) (by kernel_rfl) (Pl.load1 4 32 (.tmp 32) _ (by kernel_rfl) (by decide) (ldBs p 7 _ _ _ _ h.drew.c7)) True.intro ?_
    refine Pl.H.call 9 38 86 [(.tmp 35), (.tmp 37)] #[23, 3] (by kernel_rfl) (by kernel_rfl) (by kernel_rfl) (Pl.free 9 (by kernel_rfl)) (by kernel_rfl) (by decide) entSpend (Calls.mono (spend_any w.drew p D L h.drew len hl (by omega)) ?_)
    rintro e w2 ⟨rfl, hd2, hf2, hz2⟩
    refine ⟨.int .i64 ((D.spent len : Nat) : Int), rfl, True.intro, ?_⟩
    refine Pl.H.take 10 39 (.slice (fromA a cap 0) (D.spent len) cap) (by kernel_rfl) (by kernel_rfl) (by kernel_rfl) (Pl.free 10 (by kernel_rfl)) (Pl.slice 10 32 (.tmp 34) none (some (.tmp 38)) _ (by kernel_rfl) (by decide) (by decide) (by decide) (fun w => slice_upto a len cap (D.spent len) (Nat.le_trans (D.spent_le len) hy.le) w)) True.intro ?_
    have hy2 := (hy.frm ((Frm.refl (fun k => k = p) w).drew) (fun ad e1 e2 e3 => hoff ad e1 e2 (.inl e3))).frm hf2 (fun ad e1 e2 e3 => hoff ad e1 e2 (.inl e3))
    have hsl := D.spent_le len
    obtain ⟨s3, w3, hr3, ho3, hf3, hb3⟩ := hd2.app .ap _ _ _ _ (hy2.upto (D.spent len) hsl) (by rw [Ds.spend_b]; show D.ap.length + _ ≤ _; omega)
    have hT := (Turned.cell hd2 ((Frm.refl (fun k => k = p) w).drew.trans hf2 (fun _ _ e => e))).trans (hd2.swap .ap s3 _ hf3 ho3 ((hd2.byt .ap).append (hy.bs.2.1.take _)) hb3 7 { D.spend len with ap := D.ap ++ ys.take (D.spent len) } { L with ap := s3 } (by rfl) ⟨rfl, by rw [Ds.spend_b]; rfl⟩ (fun f hf => by cases f <;> first | exact ⟨rfl, rfl⟩ | exact absurd rfl hf) ⟨rfl, rfl⟩ ⟨rfl, rfl⟩)
    have hp3 := hf3.pblk hd2 (hd2.ne .ap)
    refine Pl.H.make 11 40 (s3.val) w3 (by kernel_rfl) (by kernel_rfl) (by kernel_rfl) (Pl.free 11 (by kernel_rfl)) (Pl.appT 11 32 32 (.tmp 33) (.tmp 39) _ _ (by kernel_rfl) (by kernel_rfl) (by decide) (by decide) (hr3 _)) True.intro ?_
    refine Pl.H.take 12 41 (.pointer (some ⟨p, 0, none⟩)) (by kernel_rfl) (by kernel_rfl) (by kernel_rfl) (Pl.free 12 (by kernel_rfl)) (Pl.nilc 12 (.tmp 29) _ (by kernel_rfl) (by decide) rfl) True.intro ?_
    refine Pl.H.take 13 42 (.pointer (some ⟨p, 7, none⟩)) (by kernel_rfl) (by kernel_rfl) (by kernel_rfl) (Pl.free 13 (by kernel_rfl)) (Pl.field 13 91 (.tmp 41) 3 _ (by kernel_rfl) (by decide) (fdDev3_0 p)) True.intro ?_
    refine Pl.H.store 14 (w3.setCell ⟨p, 7, none⟩ s3.val) (by kernel_rfl) (by kernel_rfl) (by kernel_rfl) (Pl.free 14 (by kernel_rfl)) (Pl.storeV 14 32 (.tmp 42) (.tmp 40) _ (by kernel_rfl) (by decide) (by decide) (stBs p 7 _ _ w3 (Addr.cell0 hp3) (frozen_of_row w3 p _ _ 91 hp3))) True.intro ?_
    refine Pl.H.done (by kernel_rfl) (fun A' hA' => ?_)
    rw [Pl.At.ext hA' ((((((((((((((hA.put 29 _).put 30 _).put 31 _).put 32 _).put 34 _).put 35 _).put 36 _).put 37 _).put 33 _).put 38 _).put 39 _).put 40 _).put 41 _).put 42 _)]
    exact hend (fun d => if d = 29 then .pointer (some ⟨p, 0, none⟩) else if d = 30 then .pointer (some ⟨p, 0, none⟩) else if d = 31 then .pointer (some ⟨p, 0, none⟩) else if d = 32 then .pointer (some ⟨p, 7, none⟩) else if d = 34 then .slice a len cap else if d = 35 then .pointer (some ⟨p, 0, none⟩) else if d = 36 then .slice a len cap else if d = 37 then .int .i64 ((len : Nat) : Int) else if d = 33 then .slice L.ap.a L.ap.len L.ap.cap else if d = 38 then .int .i64 ((D.spent len : Nat) : Int) else if d = 39 then .slice (fromA a cap 0) (D.spent len) cap else if d = 40 then s3.val else if d = 41 then .pointer (some ⟨p, 0, none⟩) else if d = 42 then .pointer (some ⟨p, 7, none⟩) else undef) _ ⟨_, hT⟩
  · refine Pl.HOp.call 9 38 86 [(.tmp 35), (.tmp 37)] #[23, 3] (by kernel_rfl) (by kernel_rfl) (by kernel_rfl) (by kernel_rfl) (by decide) entSpend (Calls.mono (spend_any w.drew p D L h.drew len hl (by omega)) ?_)
    rintro e w2 ⟨rfl, hd2, hf2, hz2⟩
    refine ⟨.int .i64 ((D.spent len : Nat) : Int), rfl, True.intro, ?_⟩
    refine Pl.H.take 10 39 (.slice (fromA a cap 0) (D.spent len) cap) (by kernel_rfl) (by kernel_rfl) (by kernel_rfl) (Pl.free 10 (by kernel_rfl)) (Pl.slice 10 32 (.tmp 34) none (some (.tmp 38)) _ (by kernel_rfl) (by decide) (by decide) (by decide) (fun w => slice_upto a len cap (D.spent len) (Nat.le_trans (D.spent_le len) hy.le) w)) True.intro ?_
    refine Pl.H.solo 4 33 (.slice L.ap.a L.ap.len L.ap.cap) (by kernel_rfl) (by kernel_rfl) (by kernel_rfl) (Pl.free 4 (by kernel_rfl)) (Pl.load1 4 32 (.tmp 32) _ (by kernel_rfl) (by decide) (ldBs p 7 _ _ _ _ hd2.c7)) True.intro ?_
    rw [Pl.upd_comm _ 39 33 _ _ (by decide)]
    rw [Pl.upd_comm _ 38 33 _ _ (by decide)]
    have hy2 := (hy.frm ((Frm.refl (fun k => k = p) w).drew) (fun ad e1 e2 e3 => hoff ad e1 e2 (.inl e3))).frm hf2 (fun ad e1 e2 e3 => hoff ad e1 e2 (.inl e3))
    have hsl := D.spent_le len
    obtain ⟨s3, w3, hr3, ho3, hf3, hb3⟩ := hd2.app .ap _ _ _ _ (hy2.upto (D.spent len) hsl) (by rw [Ds.spend_b]; show D.ap.length + _ ≤ _; omega)
    have hT := (Turned.cell hd2 ((Frm.refl (fun k => k = p) w).drew.trans hf2 (fun _ _ e => e))).trans (hd2.swap .ap s3 _ hf3 ho3 ((hd2.byt .ap).append (hy.bs.2.1.take _)) hb3 7 { D.spend len with ap := D.ap ++ ys.take (D.spent len) } { L with ap := s3 } (by rfl) ⟨rfl, by rw [Ds.spend_b]; rfl⟩ (fun f hf => by cases f <;> first | exact ⟨rfl, rfl⟩ | exact absurd rfl hf) ⟨rfl, rfl⟩ ⟨rfl, rfl⟩)
    have hp3 := hf3.pblk hd2 (hd2.ne .ap)
    refine Pl.H.make 11 40 (s3.val) w3 (by kernel_rfl) (by kernel_rfl) (by kernel_rfl) (Pl.free 11 (by kernel_rfl)) (Pl.appT 11 32 32 (.tmp 33) (.tmp 39) _ _ (by kernel_rfl) (by kernel_rfl) (by decide) (by decide) (hr3 _)) True.intro ?_
    refine Pl.H.take 12 41 (.pointer (some ⟨p, 0, none⟩)) (by kernel_rfl) (by kernel_rfl) (by kernel_rfl) (Pl.free 12 (by kernel_rfl)) (Pl.nilc 12 (.tmp 29) _ (by kernel_rfl) (by decide) rfl) True.intro ?_
    refine Pl.H.take 13 42 (.pointer (some ⟨p, 7, none⟩)) (by kernel_rfl) (by kernel_rfl) (by kernel_rfl) (Pl.free 13 (by kernel_rfl)) (Pl.field 13 91 (.tmp 41) 3 _ (by kernel_rfl) (by decide) (fdDev3_0 p)) True.intro ?_
    refine Pl.H.store 14 (w3.setCell ⟨p, 7, none⟩ s3.val) (by kernel_rfl) (by kernel_rfl) (by kernel_rfl) (Pl.free 14 (by kernel_rfl)) (Pl.storeV 14 32 (.tmp 42) (.tmp 40) _ (by kernel_rfl) (by decide) (by decide) (stBs p 7 _ _ w3 (Addr.cell0 hp3) (frozen_of_row w3 p _ _ 91 hp3))) True.intro ?_
    refine Pl.H.done (by kernel_rfl) (fun A' hA' => ?_)
    rw [Pl.At.ext hA' ((((((((((((((hA.put 29 _).put 30 _).put 31 _).put 32 _).put 34 _).put 35 _).put 36 _).put 37 _).put 33 _).put 38 _).put 39 _).put 40 _).put 41 _).put 42 _)]
    exact hend (fun d => if d = 29 then .pointer (some ⟨p, 0, none⟩) else if d = 30 then .pointer (some ⟨p, 0, none⟩) else if d = 31 then .pointer (some ⟨p, 0, none⟩) else if d = 32 then .pointer (some ⟨p, 7, none⟩) else if d = 34 then .slice a len cap else if d = 35 then .pointer (some ⟨p, 0, none⟩) else if d = 36 then .slice a len cap else if d = 37 then .int .i64 ((len : Nat) : Int) else if d = 33 then .slice L.ap.a L.ap.len L.ap.cap else if d = 38 then .int .i64 ((D.spent len : Nat) : Int) else if d = 39 then .slice (fromA a cap 0) (D.spent len) cap else if d = 40 then s3.val else if d = 41 then .pointer (some ⟨p, 0, none⟩) else if d = 42 then .pointer (some ⟨p, 7, none⟩) else undef) _ ⟨_, hT⟩

/-- A device behind bytes that are appended to its stream. -/
def Ds.append (D : Ds) (b : List Nat) : Ds := { D.spend b.length with ss := D.ss ++ b, ap := D.ap ++ b.take (D.spent b.length) }

theorem Ds.append_eq (D : Ds) (ys : List Nat) : { Ds.spend { D with ss := D.ss ++ ys } ys.length with ap := D.ap ++ ys.take (Ds.spent { D with ss := D.ss ++ ys } ys.length) } = D.append ys := by
  unfold Ds.append Ds.spend Ds.spent
  simp only
  split
  · rfl
  · split
    · rfl
    · split <;> rfl

set_option maxHeartbeats 4000000 in
theorem append_ok (w : World) (p : Nat) (D : Ds) (L : Dl) (h : DevM w p D L) (n : Nat) (hn : D.sp.length = 512 * n) (hn2 : n ≤ 64) (hn1 : 1 ≤ n) (a : Option Addr) (len cap : Nat) (ys : List Nat) (hy : Came w a len cap ys) (hoff : Off (L.F p) a len) (hl : D.armed = true → 0 ≤ D.left ∧ D.left ≤ 9223372036854775807) (hm : D.ap.length + len ≤ 1000000) (hs : D.ss.length + len ≤ 65536) :
    Calls Tryz.prog 47 #[at0 p, .slice a len cap] w fun e w' => e = .returned (.int .i64 0) ∧ ∃ L', Turned w p L w' (D.append ys) L' := by
  have HG := hide (given_any w p D L h n hn hn2 hn1)
  have hsl : D.ss.length = L.ss.len := h.len .ss
  obtain ⟨s1, w1, hr1, ho1, hf1, hb1⟩ := h.app .ss a len cap ys hy (by show D.ss.length + len ≤ _; omega)
  have hT := h.swap .ss s1 _ hf1 ho1 ((h.byt .ss).append hy.bs.2.1) hb1 2 { D with ss := D.ss ++ ys } { L with ss := s1 } (by rfl) ⟨rfl, rfl⟩ (fun f hf => by cases f <;> first | exact ⟨rfl, rfl⟩ | exact absurd rfl hf) ⟨rfl, rfl⟩ ⟨rfl, rfl⟩
  have hp1 := hf1.pblk h (h.ne .ss)
  have d2 : w1.cell? ⟨p, 2, none⟩ = some (.slice L.ss.a L.ss.len L.ss.cap) := (Addr.cell0 hp1).trans rfl
  have df := frozen_of_row w1 p 2 _ 91 hp1
  have hyl := hy.bs.1
  have HR : Hid (∀ {Q : Exit → Act → World → Prop} {A : Act}, _) := fun {Q A} => append6 _ p _ _ hT.dev a len cap ys (hy.turned hoff hT) (hoff.turned hy hT) hl hm (Q := Q) (A := A)
  have HT := hide hT
  have c2 := h.c2
  have HRUN := hide hr1
  have HE := hide (D.append_eq ys)
  rw [hyl] at HE
  have hw1 : IntKind.i64.wrap (65536 - ((L.ss.len : Nat) : Int)) = 65536 - ((L.ss.len : Nat) : Int) := by rw [IntKind.wrap_i64]; omega
  have hc1 : ¬ (65536 - ((L.ss.len : Nat) : Int) < ((len : Nat) : Int)) := by omega
  have hc2 : ((len : Nat) : Int) ≤ 65536 - ((L.ss.len : Nat) : Int) := by omega
  obtain ⟨a1, l1, k1⟩ := s1
  unfold Sl.val at HR HT HRUN
  unfold Dl.s at HRUN
  simp only at HR HT HRUN
  clear hT ho1 hf1 hb1 hr1 hp1 h hy hoff hn hs hyl hsl
  unfold at0 at *
  go_enter Tryz.func47, Tryz.ntmps47
  go_wp2_with fail
  refine HG.out.mono ?_
  rintro e w' ⟨rfl, hw⟩
  obtain rfl := hw.symm
  go_wp2_with (at_builtin; refine wpList_appRun _ rfl 32 (.tmp 23) (.tmp 24) rfl _ _ HRUN.out ?_)
  go_wp2_with fail
  refine Pl.region_is (ops := Pl.find 6 ((Tryz.f47.body).getD .skip)) (by kernel_rfl) ?_
  refine HR.out (by rfl) rfl (by rfl) (by rfl) ?_
  rintro u w' ⟨L', hT2⟩
  have HT2 := hide (HT.out.trans hT2)
  simp only [Act.put, List.setIfInBounds_toArray, List.set_cons_zero, List.set_cons_succ]
  clear hT2
  go_wp2_with fail
  go_ret
  refine ⟨rfl, L', ?_⟩
  rw [← HE.out]
  exact HT2.out

set_option maxHeartbeats 2000000 in
theorem append_full (w : World) (p : Nat) (D : Ds) (L : Dl) (h : DevM w p D L) (n : Nat) (hn : D.sp.length = 512 * n) (hn2 : n ≤ 64) (hn1 : 1 ≤ n) (a : Option Addr) (len cap : Nat) (hss : D.ss.length ≤ 65536) (hs : 65536 < D.ss.length + len) :
    Calls Tryz.prog 47 #[at0 p, .slice a len cap] w fun e w' => e = .returned (.int .i64 10) ∧ w' = w := by
  have HG := hide (given_any w p D L h n hn hn2 hn1)
  have hsl : D.ss.length = L.ss.len := h.len .ss
  have c2 := h.c2
  have hw1 : IntKind.i64.wrap (65536 - ((L.ss.len : Nat) : Int)) = 65536 - ((L.ss.len : Nat) : Int) := by rw [IntKind.wrap_i64]; omega
  have hc1 : (65536 - ((L.ss.len : Nat) : Int) < ((len : Nat) : Int)) := by omega
  clear h hn hs hsl hss
  unfold at0 at *
  go_enter Tryz.func47, Tryz.ntmps47
  go_wp2_with fail
  refine HG.out.mono ?_
  rintro e w' ⟨rfl, hw⟩
  obtain rfl := hw.symm
  go_wp2_with fail
  go_ret
  exact ⟨rfl, rfl⟩

end Go.Proofs.YtpggkfdnpdhkfaaGreat

namespace Go.Proofs.YtpggkfdnpdhkfaaGreat
open Go.RowKit
set_option maxRecDepth 100000

theorem Pl.buildD {P : Program} {ops : Array Oper} {S : World → Prop} {n : Nat} {f : Nat → Value} (i : Nat) (t : TypeId) (parts : List (Nat × Operand)) (v : Value) (h : (Pl.op ops i).op = .build t parts.toArray) (hx : parts.all (fun p => Pl.inB n p.2) = true) (hv : ∀ w, (Instr.build t (parts.map fun p => (p.1, Pl.ev f p.2)).toArray).run P w = .ok v w) :
    ∀ A, Pl.At n A f → ∀ w, S w → (execOp A.eval (Pl.op ops i)).run P w = .ok (.value v) w := by
  intro A hA w _
  have e : execOp A.eval (Pl.op ops i) = (do pure (.value (← Instr.build t (parts.toArray.map fun p => (p.1, A.eval p.2))))) := by
    unfold execOp
    rw [h]
  have hm : (parts.toArray.map fun p => (p.1, A.eval p.2)) = (parts.map fun p => (p.1, Pl.ev f p.2)).toArray := by
    simp only [List.map_toArray]
    congr 1
    apply List.map_congr_left
    intro p hp
    rw [hA.ev p.2 (List.all_eq_true.1 hx p hp)]
  rw [e, hm]
  simp [hv w]


theorem infoT : (Tryz.prog.info? 138).map (fun i => (i.zero, i.size, i.bytes)) = some (some (.agg #[.int .i64 0, .int .i64 0]), 2, 16) := by kernel_rfl
theorem tmCells_one (l : List Tm) : ∀ u ∈ tmCells l, u.oneCell' = true := by
  intro u hu
  obtain ⟨i, _, hi⟩ := List.mem_flatMap.1 hu
  simp only [Tm.cells, List.mem_cons, List.mem_nil_iff, or_false] at hi
  rcases hi with rfl | rfl <;> rfl
theorem tmCells_append (l m : List Tm) : tmCells (l ++ m) = tmCells l ++ tmCells m := by simp [tmCells]
theorem build_tm (a b : Int) (w : World) : (Instr.build 138 #[(0, .int .i64 a), (1, .int .i64 b)]).run Tryz.prog w = .ok (.agg #[.int .i64 a, .int .i64 b]) w := by simp [go_sem, Instr.build]
theorem build_tm1 (a b : Int) (w : World) : (Instr.buildSlice 89 1 #[(0, .agg #[.int .i64 a, .int .i64 b])]).run Tryz.prog w = .ok (.slice (some ⟨w.heap.size, 0, none⟩) 1 1) (w.alloc (.cells #[.int .i64 a, .int .i64 b] 138)) := by
  simp [go_sem, Instr.buildSlice]

/-- A trimming more. -/
theorem DevM.appT {w : World} {p : Nat} {D : Ds} {L : Dl} (h : DevM w p D L) (g : Nat) (x : Tm) (hg : w.heap[g]? = some (.cells #[.int .i64 ((x.ahead : Nat) : Int), .int .i64 ((x.place : Nat) : Int)] 138 (0, 0))) (hm : D.tr.length ≤ 100000) :
    ∃ s' w1, (∀ ty, (Builtin.append_ #[89, 89] ty #[L.tr.val, .slice (some ⟨g, 0, none⟩) 1 1]).run Tryz.prog w = .ok s'.val w1) ∧ Own 138 2 w1 s' (tmCells (D.tr ++ [x])) ∧ Frm (fun k => L.tr.blk = some k) w w1 ∧ (∀ k, s'.blk = some k → L.tr.blk = some k ∨ w.heap.size ≤ k) := by
  have hl := h.lenT
  have hsrc : Src Tryz.prog 2 89 (.slice (some ⟨g, 0, none⟩) 1 1) 1 (tmCells [x]) w := by
    refine Src.ofSlice w Tryz.underlying89 ⟨g, 0, none⟩ 1 1 (tmCells [x]) rfl (fun j u hj => ?_) (tmCells_one _)
    rw [Addr.add_lit, Nat.zero_add, Addr.cell0 hg]
    rw [← hj]
    rcases j with _ | _ | j
    · rfl
    · rfl
    · simp [tmCells, Tm.cells]
  obtain ⟨s', w1, hr, ho, _, hf, hb⟩ := own_append (S := 89) Tryz.underlying89 infoT rfl (by omega) w L.tr _ h.tr (tmCells_one _) _ 1 _ hsrc (by omega) 89
  refine ⟨s', w1, fun ty => hr, by rw [tmCells_append]; exact ho, hf, fun k hk => ?_⟩
  rcases hb with e | ⟨e, _⟩
  · exact .inl (by rw [← e]; exact hk)
  · rw [e] at hk
    cases hk
    exact .inr (Nat.le_refl _)

set_option maxHeartbeats 2000000 in
set_option maxRecDepth 100000 in
theorem trim5 (w : World) (p : Nat) (D : Ds) (L : Dl) (h : DevM w p D L) (pl : Nat) (hu : D.units ≤ 1000000000) (hm : D.tr.length ≤ 100000)
    {Q : Exit → Act → World → Prop} {A : Act} (hsz : A.tmps.size = 46) (hdf : A.defers = []) (s0 : A.tmps.getD 0 undef = .pointer (some ⟨p, 0, none⟩)) (s1 : A.tmps.getD 1 undef = .int .i64 ((pl : Nat) : Int))
    (hend : ∀ (u : Nat → Value) w', (∃ L', Turned w p L w' { D with tr := D.tr ++ [⟨D.units, pl⟩] } L') → Q .normal ((((((((((((((A).put (some 33) (u 33)).put (some 34) (u 34)).put (some 35) (u 35)).put (some 36) (u 36)).put (some 38) (u 38)).put (some 40) (u 40)).put (some 37) (u 37)).put (some 39) (u 39)).put (some 41) (u 41)).put (some 42) (u 42)).put (some 43) (u 43)).put (some 44) (u 44)).put (some 45) (u 45)) w') :
    (Code.region 5 (Pl.find 5 ((Tryz.f60.body).getD .skip)) true).wp Tryz.prog Q A w := by
  have hA := Pl.At.same (v := .int .i64 ((pl : Nat) : Int)) (d := 1) (Pl.At.same (v := .pointer (some ⟨p, 0, none⟩)) (d := 0) (Pl.At.here hsz hdf) s0) s1
  refine Pl.H.start (S := fun _ => True) (by kernel_rfl) hA True.intro ?_
  rw [show (Pl.find 5 ((Tryz.f60.body).getD .skip)).size = 14 by kernel_rfl]
  refine Pl.H.take 0 33 (.pointer (some ⟨p, 0, none⟩)) (by kernel_rfl) (by kernel_rfl) (by kernel_rfl) (Pl.free 0 (by kernel_rfl)) (Pl.move 0 (.tmp 0) (by kernel_rfl) (by decide)) True.intro ?_
  refine Pl.H.take 1 34 (.pointer (some ⟨p, 0, none⟩)) (by kernel_rfl) (by kernel_rfl) (by kernel_rfl) (Pl.free 1 (by kernel_rfl)) (Pl.move 1 (.tmp 0) (by kernel_rfl) (by decide)) True.intro ?_
  refine Pl.H.take 2 35 (.pointer (some ⟨p, 0, none⟩)) (by kernel_rfl) (by kernel_rfl) (by kernel_rfl) (Pl.free 2 (by kernel_rfl)) (Pl.nilc 2 (.tmp 34) _ (by kernel_rfl) (by decide) rfl) True.intro ?_
  refine Pl.H.take 3 36 (.pointer (some ⟨p, 8, none⟩)) (by kernel_rfl) (by kernel_rfl) (by kernel_rfl) (Pl.free 3 (by kernel_rfl)) (Pl.field 3 91 (.tmp 35) 4 _ (by kernel_rfl) (by decide) (fdDev4_0 p)) True.intro ?_
  refine Pl.H.take 5 38 (.pointer (some ⟨p, 0, none⟩)) (by kernel_rfl) (by kernel_rfl) (by kernel_rfl) (Pl.free 5 (by kernel_rfl)) (Pl.move 5 (.tmp 0) (by kernel_rfl) (by decide)) True.intro ?_
  refine Pl.H.take 7 40 (.int .i64 ((pl : Nat) : Int)) (by kernel_rfl) (by kernel_rfl) (by kernel_rfl) (Pl.free 7 (by kernel_rfl)) (Pl.move 7 (.tmp 1) (by kernel_rfl) (by decide)) True.intro ?_
  refine Pl.H.two 4 6 (by kernel_rfl) ?_ ?_
  · refine Pl.HOp.value 4 37 (.slice L.tr.a L.tr.len L.tr.cap) w.drew (by kernel_rfl) (by kernel_rfl) (by kernel_rfl) (Pl.load1 4 89 (.tmp 36) _ (by kernel_rfl) (by decide) (ldTs p 8 _ _ _ _ h.drew.c8)) True.intro ?_
    refine Pl.H.call 6 39 76 [(.tmp 38)] #[23] (by kernel_rfl) (by kernel_rfl) (by kernel_rfl) (Pl.free 6 (by kernel_rfl)) (by kernel_rfl) (by decide) entUnits (Calls.mono (units_any w.drew p D L h.drew hu) ?_)
    rintro e w2 ⟨rfl, hb2⟩
    have hd2 := h.drew.keep hb2
    refine ⟨.int .i64 ((D.units : Nat) : Int), rfl, True.intro, ?_⟩
    refine Pl.H.take 8 41 (.agg #[.int .i64 ((D.units : Nat) : Int), .int .i64 ((pl : Nat) : Int)]) (by kernel_rfl) (by kernel_rfl) (by kernel_rfl) (Pl.free 8 (by kernel_rfl)) (Pl.buildD 8 138 [(0, .tmp 39), (1, .tmp 40)] _ (by kernel_rfl) (by decide) (build_tm _ _)) True.intro ?_
    have hd3 := hd2.keep (below_alloc w2 (.cells #[.int .i64 ((D.units : Nat) : Int), .int .i64 ((pl : Nat) : Int)] 138))
    refine Pl.H.make 9 42 (.slice (some ⟨w2.heap.size, 0, none⟩) 1 1) (w2.alloc (.cells #[.int .i64 ((D.units : Nat) : Int), .int .i64 ((pl : Nat) : Int)] 138)) (by kernel_rfl) (by kernel_rfl) (by kernel_rfl) (Pl.free 9 (by kernel_rfl)) (Pl.one 9 89 (.tmp 41) _ _ (by kernel_rfl) (by decide) (build_tm1 _ _ w2)) True.intro ?_
    obtain ⟨s4, w4, hr4, ho4, hf4, hb4⟩ := hd3.appT w2.heap.size ⟨D.units, pl⟩ (heap_alloc_new w2 _) hm
    have hT := (Turned.same h ((below_drew w).trans (hb2.trans (below_alloc w2 (.cells #[.int .i64 ((D.units : Nat) : Int), .int .i64 ((pl : Nat) : Int)] 138) |>.mono hb2.size)))).trans (hd3.swapT s4 _ hf4 ho4 hb4)
    have hp4 := hf4.pblk hd3 hd3.neT
    refine Pl.H.make 10 43 (s4.val) w4 (by kernel_rfl) (by kernel_rfl) (by kernel_rfl) (Pl.free 10 (by kernel_rfl)) (Pl.appT 10 89 89 (.tmp 37) (.tmp 42) _ _ (by kernel_rfl) (by kernel_rfl) (by decide) (by decide) (hr4 _)) True.intro ?_
    refine Pl.H.take 11 44 (.pointer (some ⟨p, 0, none⟩)) (by kernel_rfl) (by kernel_rfl) (by kernel_rfl) (Pl.free 11 (by kernel_rfl)) (Pl.nilc 11 (.tmp 33) _ (by kernel_rfl) (by decide) rfl) True.intro ?_
    refine Pl.H.take 12 45 (.pointer (some ⟨p, 8, none⟩)) (by kernel_rfl) (by kernel_rfl) (by kernel_rfl) (Pl.free 12 (by kernel_rfl)) (Pl.field 12 91 (.tmp 44) 4 _ (by kernel_rfl) (by decide) (fdDev4_0 p)) True.intro ?_
    refine Pl.H.store 13 (w4.setCell ⟨p, 8, none⟩ s4.val) (by kernel_rfl) (by kernel_rfl) (by kernel_rfl) (Pl.free 13 (by kernel_rfl)) (Pl.storeV 13 89 (.tmp 45) (.tmp 43) _ (by kernel_rfl) (by decide) (by decide) (stTs p 8 _ _ w4 (Addr.cell0 hp4) (frozen_of_row w4 p _ _ 91 hp4))) True.intro ?_
    refine Pl.H.done (by kernel_rfl) (fun A' hA' => ?_)
    rw [Pl.At.ext hA' (((((((((((((hA.put 33 _).put 34 _).put 35 _).put 36 _).put 38 _).put 40 _).put 37 _).put 39 _).put 41 _).put 42 _).put 43 _).put 44 _).put 45 _)]
    exact hend (fun d => if d = 33 then .pointer (some ⟨p, 0, none⟩) else if d = 34 then .pointer (some ⟨p, 0, none⟩) else if d = 35 then .pointer (some ⟨p, 0, none⟩) else if d = 36 then .pointer (some ⟨p, 8, none⟩) else if d = 38 then .pointer (some ⟨p, 0, none⟩) else if d = 40 then .int .i64 ((pl : Nat) : Int) else if d = 37 then .slice L.tr.a L.tr.len L.tr.cap else if d = 39 then .int .i64 ((D.units : Nat) : Int) else if d = 41 then .agg #[.int .i64 ((D.units : Nat) : Int), .int .i64 ((pl : Nat) : Int)] else if d = 42 then .slice (some ⟨w2.heap.size, 0, none⟩) 1 1 else if d = 43 then s4.val else if d = 44 then .pointer (some ⟨p, 0, none⟩) else if d = 45 then .pointer (some ⟨p, 8, none⟩) else undef) _ ⟨_, hT⟩
  · refine Pl.HOp.call 6 39 76 [(.tmp 38)] #[23] (by kernel_rfl) (by kernel_rfl) (by kernel_rfl) (by kernel_rfl) (by decide) entUnits (Calls.mono (units_any w.drew p D L h.drew hu) ?_)
    rintro e w2 ⟨rfl, hb2⟩
    have hd2 := h.drew.keep hb2
    refine ⟨.int .i64 ((D.units : Nat) : Int), rfl, True.intro, ?_⟩
    refine Pl.H.take 8 41 (.agg #[.int .i64 ((D.units : Nat) : Int), .int .i64 ((pl : Nat) : Int)]) (by kernel_rfl) (by kernel_rfl) (by kernel_rfl) (Pl.free 8 (by kernel_rfl)) (Pl.buildD 8 138 [(0, .tmp 39), (1, .tmp 40)] _ (by kernel_rfl) (by decide) (build_tm _ _)) True.intro ?_
    refine Pl.H.two 4 9 (by kernel_rfl) ?_ ?_
    · refine Pl.HOp.value 4 37 (.slice L.tr.a L.tr.len L.tr.cap) w2 (by kernel_rfl) (by kernel_rfl) (by kernel_rfl) (Pl.load1 4 89 (.tmp 36) _ (by kernel_rfl) (by decide) (ldTs p 8 _ _ _ _ hd2.c8)) True.intro ?_
      rw [Pl.upd_comm _ 41 37 _ _ (by decide)]
      rw [Pl.upd_comm _ 39 37 _ _ (by decide)]
      have hd3 := hd2.keep (below_alloc w2 (.cells #[.int .i64 ((D.units : Nat) : Int), .int .i64 ((pl : Nat) : Int)] 138))
      refine Pl.H.make 9 42 (.slice (some ⟨w2.heap.size, 0, none⟩) 1 1) (w2.alloc (.cells #[.int .i64 ((D.units : Nat) : Int), .int .i64 ((pl : Nat) : Int)] 138)) (by kernel_rfl) (by kernel_rfl) (by kernel_rfl) (Pl.free 9 (by kernel_rfl)) (Pl.one 9 89 (.tmp 41) _ _ (by kernel_rfl) (by decide) (build_tm1 _ _ w2)) True.intro ?_
      obtain ⟨s4, w4, hr4, ho4, hf4, hb4⟩ := hd3.appT w2.heap.size ⟨D.units, pl⟩ (heap_alloc_new w2 _) hm
      have hT := (Turned.same h ((below_drew w).trans (hb2.trans (below_alloc w2 (.cells #[.int .i64 ((D.units : Nat) : Int), .int .i64 ((pl : Nat) : Int)] 138) |>.mono hb2.size)))).trans (hd3.swapT s4 _ hf4 ho4 hb4)
      have hp4 := hf4.pblk hd3 hd3.neT
      refine Pl.H.make 10 43 (s4.val) w4 (by kernel_rfl) (by kernel_rfl) (by kernel_rfl) (Pl.free 10 (by kernel_rfl)) (Pl.appT 10 89 89 (.tmp 37) (.tmp 42) _ _ (by kernel_rfl) (by kernel_rfl) (by decide) (by decide) (hr4 _)) True.intro ?_
      refine Pl.H.take 11 44 (.pointer (some ⟨p, 0, none⟩)) (by kernel_rfl) (by kernel_rfl) (by kernel_rfl) (Pl.free 11 (by kernel_rfl)) (Pl.nilc 11 (.tmp 33) _ (by kernel_rfl) (by decide) rfl) True.intro ?_
      refine Pl.H.take 12 45 (.pointer (some ⟨p, 8, none⟩)) (by kernel_rfl) (by kernel_rfl) (by kernel_rfl) (Pl.free 12 (by kernel_rfl)) (Pl.field 12 91 (.tmp 44) 4 _ (by kernel_rfl) (by decide) (fdDev4_0 p)) True.intro ?_
      refine Pl.H.store 13 (w4.setCell ⟨p, 8, none⟩ s4.val) (by kernel_rfl) (by kernel_rfl) (by kernel_rfl) (Pl.free 13 (by kernel_rfl)) (Pl.storeV 13 89 (.tmp 45) (.tmp 43) _ (by kernel_rfl) (by decide) (by decide) (stTs p 8 _ _ w4 (Addr.cell0 hp4) (frozen_of_row w4 p _ _ 91 hp4))) True.intro ?_
      refine Pl.H.done (by kernel_rfl) (fun A' hA' => ?_)
      rw [Pl.At.ext hA' (((((((((((((hA.put 33 _).put 34 _).put 35 _).put 36 _).put 38 _).put 40 _).put 37 _).put 39 _).put 41 _).put 42 _).put 43 _).put 44 _).put 45 _)]
      exact hend (fun d => if d = 33 then .pointer (some ⟨p, 0, none⟩) else if d = 34 then .pointer (some ⟨p, 0, none⟩) else if d = 35 then .pointer (some ⟨p, 0, none⟩) else if d = 36 then .pointer (some ⟨p, 8, none⟩) else if d = 38 then .pointer (some ⟨p, 0, none⟩) else if d = 40 then .int .i64 ((pl : Nat) : Int) else if d = 37 then .slice L.tr.a L.tr.len L.tr.cap else if d = 39 then .int .i64 ((D.units : Nat) : Int) else if d = 41 then .agg #[.int .i64 ((D.units : Nat) : Int), .int .i64 ((pl : Nat) : Int)] else if d = 42 then .slice (some ⟨w2.heap.size, 0, none⟩) 1 1 else if d = 43 then s4.val else if d = 44 then .pointer (some ⟨p, 0, none⟩) else if d = 45 then .pointer (some ⟨p, 8, none⟩) else undef) _ ⟨_, hT⟩
    · have hd3 := hd2.keep (below_alloc w2 (.cells #[.int .i64 ((D.units : Nat) : Int), .int .i64 ((pl : Nat) : Int)] 138))
      refine Pl.HOp.value 9 42 (.slice (some ⟨w2.heap.size, 0, none⟩) 1 1) (w2.alloc (.cells #[.int .i64 ((D.units : Nat) : Int), .int .i64 ((pl : Nat) : Int)] 138)) (by kernel_rfl) (by kernel_rfl) (by kernel_rfl) (Pl.one 9 89 (.tmp 41) _ _ (by kernel_rfl) (by decide) (build_tm1 _ _ w2)) True.intro ?_
      refine Pl.H.solo 4 37 (.slice L.tr.a L.tr.len L.tr.cap) (by kernel_rfl) (by kernel_rfl) (by kernel_rfl) (Pl.free 4 (by kernel_rfl)) (Pl.load1 4 89 (.tmp 36) _ (by kernel_rfl) (by decide) (ldTs p 8 _ _ _ _ hd3.c8)) True.intro ?_
      rw [Pl.upd_comm _ 42 37 _ _ (by decide)]
      rw [Pl.upd_comm _ 41 37 _ _ (by decide)]
      rw [Pl.upd_comm _ 39 37 _ _ (by decide)]
      obtain ⟨s4, w4, hr4, ho4, hf4, hb4⟩ := hd3.appT w2.heap.size ⟨D.units, pl⟩ (heap_alloc_new w2 _) hm
      have hT := (Turned.same h ((below_drew w).trans (hb2.trans (below_alloc w2 (.cells #[.int .i64 ((D.units : Nat) : Int), .int .i64 ((pl : Nat) : Int)] 138) |>.mono hb2.size)))).trans (hd3.swapT s4 _ hf4 ho4 hb4)
      have hp4 := hf4.pblk hd3 hd3.neT
      refine Pl.H.make 10 43 (s4.val) w4 (by kernel_rfl) (by kernel_rfl) (by kernel_rfl) (Pl.free 10 (by kernel_rfl)) (Pl.appT 10 89 89 (.tmp 37) (.tmp 42) _ _ (by kernel_rfl) (by kernel_rfl) (by decide) (by decide) (hr4 _)) True.intro ?_
      refine Pl.H.take 11 44 (.pointer (some ⟨p, 0, none⟩)) (by kernel_rfl) (by kernel_rfl) (by kernel_rfl) (Pl.free 11 (by kernel_rfl)) (Pl.nilc 11 (.tmp 33) _ (by kernel_rfl) (by decide) rfl) True.intro ?_
      refine Pl.H.take 12 45 (.pointer (some ⟨p, 8, none⟩)) (by kernel_rfl) (by kernel_rfl) (by kernel_rfl) (Pl.free 12 (by kernel_rfl)) (Pl.field 12 91 (.tmp 44) 4 _ (by kernel_rfl) (by decide) (fdDev4_0 p)) True.intro ?_
      refine Pl.H.store 13 (w4.setCell ⟨p, 8, none⟩ s4.val) (by kernel_rfl) (by kernel_rfl) (by kernel_rfl) (Pl.free 13 (by kernel_rfl)) (Pl.storeV 13 89 (.tmp 45) (.tmp 43) _ (by kernel_rfl) (by decide) (by decide) (stTs p 8 _ _ w4 (Addr.cell0 hp4) (frozen_of_row w4 p _ _ 91 hp4))) True.intro ?_
      refine Pl.H.done (by kernel_rfl) (fun A' hA' => ?_)
      rw [Pl.At.ext hA' (((((((((((((hA.put 33 _).put 34 _).put 35 _).put 36 _).put 38 _).put 40 _).put 37 _).put 39 _).put 41 _).put 42 _).put 43 _).put 44 _).put 45 _)]
      exact hend (fun d => if d = 33 then .pointer (some ⟨p, 0, none⟩) else if d = 34 then .pointer (some ⟨p, 0, none⟩) else if d = 35 then .pointer (some ⟨p, 0, none⟩) else if d = 36 then .pointer (some ⟨p, 8, none⟩) else if d = 38 then .pointer (some ⟨p, 0, none⟩) else if d = 40 then .int .i64 ((pl : Nat) : Int) else if d = 37 then .slice L.tr.a L.tr.len L.tr.cap else if d = 39 then .int .i64 ((D.units : Nat) : Int) else if d = 41 then .agg #[.int .i64 ((D.units : Nat) : Int), .int .i64 ((pl : Nat) : Int)] else if d = 42 then .slice (some ⟨w2.heap.size, 0, none⟩) 1 1 else if d = 43 then s4.val else if d = 44 then .pointer (some ⟨p, 0, none⟩) else if d = 45 then .pointer (some ⟨p, 8, none⟩) else undef) _ ⟨_, hT⟩

/-- A device behind a trimming. -/
def Ds.trim0 (D : Ds) (pl : Nat) : Ds := { D with ss := D.ss.drop (pl - D.sb), sb := pl }
def Ds.trim (D : Ds) (pl : Nat) : Ds := if (D.trim0 pl).spent 1 = 1 then { (D.trim0 pl).spend 1 with tr := D.tr ++ [⟨D.units, pl⟩] } else (D.trim0 pl).spend 1
theorem Ds.spend_units (D : Ds) (n : Nat) : (D.spend n).units = D.units := by
  unfold Ds.units
  rw [D.spend_tr, show (D.spend n).ap = D.ap from D.spend_b n .ap]

set_option maxHeartbeats 4000000 in
theorem trim_ok (w : World) (p : Nat) (D : Ds) (L : Dl) (h : DevM w p D L) (n : Nat) (hn : D.sp.length = 512 * n) (hn2 : n ≤ 64) (hn1 : 1 ≤ n) (pl : Nat) (h1 : D.sb ≤ pl) (h2 : pl ≤ D.sb + D.ss.length) (h3 : D.sb + D.ss.length ≤ 1000000000000) (hl : D.armed = true → 0 ≤ D.left ∧ D.left ≤ 9223372036854775807) (hu : D.units ≤ 1000000000) (hm : D.tr.length ≤ 100000) :
    Calls Tryz.prog 60 #[at0 p, .int .i64 ((pl : Nat) : Int)] w fun e w' => e = .returned (.int .i64 0) ∧ ∃ L', Turned w p L w' (D.trim pl) L' := by
  have HG := hide (given_any w p D L h n hn hn2 hn1)
  have HE := hide (end_any w p D L h h3)
  have HTR : Hid (∀ w', Below w.heap.size w w' → Calls Tryz.prog 92 #[.pointer (some ⟨p, 0, none⟩), .int .i64 ((pl : Nat) : Int)] w' fun e w2 => e = .returned (.tuple #[]) ∧ ∃ L', Turned w' p L w2 (D.trim0 pl) L') := fun w' hb => trimS w' p D L (h.keep hb) pl h1 h2 (by omega)
  have HSP : Hid (∀ w' L', DevM w' p (D.trim0 pl) L' → Calls Tryz.prog 86 #[at0 p, .int .i64 1] w' fun e w2 => e = .returned (.int .i64 (((D.trim0 pl).spent 1 : Nat) : Int)) ∧ DevM w2 p ((D.trim0 pl).spend 1) L' ∧ Frm (fun k => k = p) w' w2 ∧ w2.heap.size = w'.heap.size) := fun w' L' hd => spend_any w' p _ L' hd 1 hl (by omega)
  have HR : Hid (∀ w' L', DevM w' p ((D.trim0 pl).spend 1) L' → ∀ {Q : Exit → Act → World → Prop} {A : Act}, _) := fun w' L' hd {Q A} => trim5 w' p _ L' hd pl (by rw [Ds.spend_units]; exact hu) (by rw [Ds.spend_tr]; exact hm) (Q := Q) (A := A)
  have c1 := h.c1
  have HS := hide h
  have i1 : ¬ (((pl : Nat) : Int) < ((D.sb : Nat) : Int)) := by omega
  have i2 : ¬ ((((D.sb + D.ss.length : Nat)) : Int) < ((pl : Nat) : Int)) := by omega
  have i1' : ¬ (pl < D.sb) := by omega
  have i2' : ¬ (D.sb + D.ss.length < pl) := by omega
  have i1n : D.sb ≤ pl := h1
  have i2n : pl ≤ D.sb + D.ss.length := h2
  have hsle := (D.trim0 pl).spent_le 1
  have hty : (D.trim0 pl).spent 1 = 0 ∨ (D.trim0 pl).spent 1 = 1 := by omega
  have HD0 : Hid (((D.trim0 pl).spend 1).tr = D.tr) := ((D.trim0 pl).spend_tr 1)
  have HD1 : Hid (((D.trim0 pl).spend 1).units = D.units) := ((D.trim0 pl).spend_units 1)
  generalize hSB : D.sb + D.ss.length = SB at HE i2 i2' i2n
  have HDT : Hid (D.trim pl = if (D.trim0 pl).spent 1 = 1 then { (D.trim0 pl).spend 1 with tr := D.tr ++ [⟨D.units, pl⟩] } else (D.trim0 pl).spend 1) := rfl
  clear h hn h3 hl hu hm hSB hsle h1 h2
  unfold at0 at *
  rcases hty with hty | hty
  · rw [hty] at HSP HDT
    go_enter Tryz.func60, Tryz.ntmps60
    go_wp2_with fail
    refine HG.out.mono ?_
    rintro e w' ⟨rfl, hw⟩
    obtain rfl := hw.symm
    go_wp2_with fail
    refine HE.out.mono ?_
    rintro e w1 ⟨rfl, hb1⟩
    have HB1 := hide hb1
    clear hb1
    go_wp2_with fail
    refine (HTR.out w1 HB1.out).mono ?_
    rintro e w2 ⟨rfl, L2, hT2⟩
    have HT2 := hide ((Turned.same HS.out HB1.out).trans hT2)
    clear hT2
    go_wp2_with fail
    refine (HSP.out w2 L2 HT2.out.dev).mono ?_
    rintro e w3 ⟨rfl, hd3, hf3, _⟩
    have HT3 := hide (HT2.out.trans (Turned.cell hd3 hf3))
    clear hd3 hf3
    go_wp2_with fail
    go_ret
    refine ⟨rfl, L2, ?_⟩
    have := HDT.out
    rw [if_neg (by decide)] at this
    rw [this]
    exact HT3.out
  · rw [hty] at HSP HDT
    go_enter Tryz.func60, Tryz.ntmps60
    go_wp2_with fail
    refine HG.out.mono ?_
    rintro e w' ⟨rfl, hw⟩
    obtain rfl := hw.symm
    go_wp2_with fail
    refine HE.out.mono ?_
    rintro e w1 ⟨rfl, hb1⟩
    have HB1 := hide hb1
    clear hb1
    go_wp2_with fail
    refine (HTR.out w1 HB1.out).mono ?_
    rintro e w2 ⟨rfl, L2, hT2⟩
    have HT2 := hide ((Turned.same HS.out HB1.out).trans hT2)
    clear hT2
    go_wp2_with fail
    refine (HSP.out w2 L2 HT2.out.dev).mono ?_
    rintro e w3 ⟨rfl, hd3, hf3, _⟩
    have HT3 := hide (HT2.out.trans (Turned.cell hd3 hf3))
    clear hd3 hf3
    go_wp2_with fail
    refine Pl.region_is (ops := Pl.find 5 ((Tryz.f60.body).getD .skip)) (by kernel_rfl) ?_
    refine HR.out w3 L2 HT3.out.dev (by rfl) rfl (by rfl) (by rfl) ?_
    rintro u w4 ⟨L4, hT4⟩
    have HT4 := hide (HT3.out.trans hT4)
    simp only [Act.put, List.setIfInBounds_toArray, List.set_cons_zero, List.set_cons_succ]
    clear hT4
    go_wp2_with fail
    go_ret
    refine ⟨rfl, L4, ?_⟩
    have := HDT.out
    rw [if_pos True.intro] at this
    rw [this]
    have e := HT4.out
    rw [HD0.out, HD1.out] at e
    exact e

end Go.Proofs.YtpggkfdnpdhkfaaGreat

namespace Go.Proofs.YtpggkfdnpdhkfaaGreat
open Go.RowKit
set_option maxRecDepth 100000

def tmD : Tm := ⟨0, 0⟩
theorem tmCells_get : ∀ (l : List Tm) (j t : Nat), j < l.length → t < 2 → (tmCells l)[j * 2 + t]? = (l.getD j tmD).cells[t]?
  | i :: r, 0, t, _, ht => by
    simp only [tmCells, List.flatMap_cons]
    rw [List.getElem?_append_left (by simp [Tm.cells]; omega)]
    simp
  | i :: r, j + 1, t, hj, ht => by
    have := tmCells_get r j t (by simpa using hj) ht
    simp only [tmCells, List.flatMap_cons] at *
    rw [List.getElem?_append_right (by simp [Tm.cells]; omega)]
    have e : (j + 1) * 2 + t - i.cells.length = j * 2 + t := by simp [Tm.cells]; omega
    rw [e, this]
    simp [List.getD]
/-- Where a trimming lies. -/
theorem DevM.tmAt {w : World} {p : Nat} {D : Ds} {L : Dl} (h : DevM w p D L) (j : Nat) (hj : j < D.tr.length) : ∃ g off, L.tr.a = some ⟨g, off, none⟩ ∧ w.cell? ⟨g, off + j * 2, none⟩ = some (.int .i64 (((D.tr.getD j tmD).ahead : Nat) : Int)) ∧ w.cell? ⟨g, off + j * 2 + 1, none⟩ = some (.int .i64 (((D.tr.getD j tmD).place : Nat) : Int)) := by
  have hl := h.lenT
  rcases h.tr.2 with ⟨h0, _⟩ | ⟨g, off, cur, ha, _⟩
  · rw [h0] at hl
    have : D.tr.length = 0 := hl
    omega
  · have h1 := h.tr.cell ha (j * 2 + 0) _ (tmCells_get D.tr j 0 hj (by omega))
    have h2 := h.tr.cell ha (j * 2 + 1) _ (tmCells_get D.tr j 1 hj (by omega))
    rw [Addr.add_lit] at h1 h2
    exact ⟨g, off, ha, h1, h2⟩

/-- So many trimmings are among the first so many units. -/
structure Ds.Trims (D : Ds) (u m : Nat) : Prop where
  le : m ≤ D.tr.length
  lt : ∀ t, t < m → (D.tr.getD t tmD).ahead < u
  ge : m < D.tr.length → u ≤ (D.tr.getD m tmD).ahead

set_option maxHeartbeats 2000000 in
set_option maxRecDepth 100000 in
theorem keepU3 (w : World) (p : Nat) (D : Ds) (L : Dl) (h : DevM w p D L) (u0 m k : Nat) (hk : IntKind.i64.wrap ((u0 : Int) - (m : Int)) = (k : Nat)) (hkl : k ≤ L.ap.len) (hm : D.ks.length + k ≤ 1000000)
    {Q : Exit → Act → World → Prop} {A : Act} (hsz : A.tmps.size = 59) (hdf : A.defers = []) (s0 : A.tmps.getD 0 undef = .pointer (some ⟨p, 0, none⟩)) (s1 : A.tmps.getD 1 undef = .int .i64 ((u0 : Nat) : Int)) (s4 : A.tmps.getD 4 undef = .int .i64 ((m : Nat) : Int))
    (hend : ∀ (u : Nat → Value) w', (∃ L', Turned w p L w' { D with ks := D.ks ++ D.ap.take k } L') → Q .normal (((((((((((((((((((A).put (some 26) (u 26)).put (some 27) (u 27)).put (some 28) (u 28)).put (some 29) (u 29)).put (some 30) (u 30)).put (some 32) (u 32)).put (some 33) (u 33)).put (some 34) (u 34)).put (some 35) (u 35)).put (some 36) (u 36)).put (some 37) (u 37)).put (some 38) (u 38)).put (some 39) (u 39)).put (some 31) (u 31)).put (some 40) (u 40)).put (some 41) (u 41)).put (some 42) (u 42)).put (some 43) (u 43)) w') :
    (Code.region 3 (Pl.find 3 ((Tryz.f102.body).getD .skip)) true).wp Tryz.prog Q A w := by
  obtain ⟨sl1, w1, hr1, ho1, hf1, hb1⟩ := h.drew.app .ks _ _ _ _ ((h.drew.came .ap).upto k hkl) hm
  have hp1 := hf1.pblk h.drew (h.drew.ne .ks)
  have hT := (Turned.same h (below_drew w)).trans (h.drew.swap .ks sl1 _ hf1 ho1 ((h.byt .ks).append ((h.byt .ap).take k)) hb1 5 { D with ks := D.ks ++ D.ap.take k } { L with ks := sl1 } (by rfl) ⟨rfl, rfl⟩ (fun f hf => by cases f <;> first | exact ⟨rfl, rfl⟩ | exact absurd rfl hf) ⟨rfl, rfl⟩ ⟨rfl, rfl⟩)
  have hS2 : (fun (w' : World) => w'.cell? ⟨p, 7, none⟩ = some (.slice L.ap.a L.ap.len L.ap.cap)) (w1.setCell ⟨p, 5, none⟩ sl1.val) := hT.dev.c7
  have hA := Pl.At.same (v := .int .i64 ((m : Nat) : Int)) (d := 4) (Pl.At.same (v := .int .i64 ((u0 : Nat) : Int)) (d := 1) (Pl.At.same (v := .pointer (some ⟨p, 0, none⟩)) (d := 0) (Pl.At.here hsz hdf) s0) s1) s4
  refine Pl.H.start (S := fun w' => w'.cell? ⟨p, 7, none⟩ = some (.slice L.ap.a L.ap.len L.ap.cap)) (by kernel_rfl) hA (show (fun w' => w'.cell? ⟨p, 7, none⟩ = some (.slice L.ap.a L.ap.len L.ap.cap)) w.drew from h.drew.c7) ?_
  rw [show (Pl.find 3 ((Tryz.f102.body).getD .skip)).size = 19 by kernel_rfl]
  refine Pl.H.take 0 26 (.pointer (some ⟨p, 0, none⟩)) (by kernel_rfl) (by kernel_rfl) (by kernel_rfl) (Pl.free 0 (by kernel_rfl)) (Pl.move 0 (.tmp 0) (by kernel_rfl) (by decide)) (show (fun w' => w'.cell? ⟨p, 7, none⟩ = some (.slice L.ap.a L.ap.len L.ap.cap)) w.drew from h.drew.c7) ?_
  refine Pl.H.take 1 27 (.pointer (some ⟨p, 0, none⟩)) (by kernel_rfl) (by kernel_rfl) (by kernel_rfl) (Pl.free 1 (by kernel_rfl)) (Pl.move 1 (.tmp 0) (by kernel_rfl) (by decide)) (show (fun w' => w'.cell? ⟨p, 7, none⟩ = some (.slice L.ap.a L.ap.len L.ap.cap)) w.drew from h.drew.c7) ?_
  refine Pl.H.take 2 28 (.pointer (some ⟨p, 0, none⟩)) (by kernel_rfl) (by kernel_rfl) (by kernel_rfl) (Pl.free 2 (by kernel_rfl)) (Pl.nilc 2 (.tmp 27) _ (by kernel_rfl) (by decide) rfl) (show (fun w' => w'.cell? ⟨p, 7, none⟩ = some (.slice L.ap.a L.ap.len L.ap.cap)) w.drew from h.drew.c7) ?_
  refine Pl.H.take 3 29 (.pointer (some ⟨p, 3, none⟩)) (by kernel_rfl) (by kernel_rfl) (by kernel_rfl) (Pl.free 3 (by kernel_rfl)) (Pl.field 3 91 (.tmp 28) 1 _ (by kernel_rfl) (by decide) (fdDev1_0 p)) (show (fun w' => w'.cell? ⟨p, 7, none⟩ = some (.slice L.ap.a L.ap.len L.ap.cap)) w.drew from h.drew.c7) ?_
  refine Pl.H.take 4 30 (.pointer (some ⟨p, 5, none⟩)) (by kernel_rfl) (by kernel_rfl) (by kernel_rfl) (Pl.free 4 (by kernel_rfl)) (Pl.field 4 87 (.tmp 29) 2 _ (by kernel_rfl) (by decide) (fdDk2_3 p)) (show (fun w' => w'.cell? ⟨p, 7, none⟩ = some (.slice L.ap.a L.ap.len L.ap.cap)) w.drew from h.drew.c7) ?_
  refine Pl.H.take 6 32 (.pointer (some ⟨p, 0, none⟩)) (by kernel_rfl) (by kernel_rfl) (by kernel_rfl) (Pl.free 6 (by kernel_rfl)) (Pl.move 6 (.tmp 0) (by kernel_rfl) (by decide)) (show (fun w' => w'.cell? ⟨p, 7, none⟩ = some (.slice L.ap.a L.ap.len L.ap.cap)) w.drew from h.drew.c7) ?_
  refine Pl.H.take 7 33 (.pointer (some ⟨p, 0, none⟩)) (by kernel_rfl) (by kernel_rfl) (by kernel_rfl) (Pl.free 7 (by kernel_rfl)) (Pl.nilc 7 (.tmp 32) _ (by kernel_rfl) (by decide) rfl) (show (fun w' => w'.cell? ⟨p, 7, none⟩ = some (.slice L.ap.a L.ap.len L.ap.cap)) w.drew from h.drew.c7) ?_
  refine Pl.H.take 8 34 (.pointer (some ⟨p, 7, none⟩)) (by kernel_rfl) (by kernel_rfl) (by kernel_rfl) (Pl.free 8 (by kernel_rfl)) (Pl.field 8 91 (.tmp 33) 3 _ (by kernel_rfl) (by decide) (fdDev3_0 p)) (show (fun w' => w'.cell? ⟨p, 7, none⟩ = some (.slice L.ap.a L.ap.len L.ap.cap)) w.drew from h.drew.c7) ?_
  refine Pl.H.take 9 35 (.slice L.ap.a L.ap.len L.ap.cap) (by kernel_rfl) (by kernel_rfl) (by kernel_rfl) (Pl.free 9 (by kernel_rfl)) (Pl.load 9 32 (.tmp 34) _ (by kernel_rfl) (by decide) (fun w' hS => ldBs p 7 _ _ _ w' hS)) (show (fun w' => w'.cell? ⟨p, 7, none⟩ = some (.slice L.ap.a L.ap.len L.ap.cap)) w.drew from h.drew.c7) ?_
  refine Pl.H.take 10 36 (.int .i64 ((u0 : Nat) : Int)) (by kernel_rfl) (by kernel_rfl) (by kernel_rfl) (Pl.free 10 (by kernel_rfl)) (Pl.move 10 (.tmp 1) (by kernel_rfl) (by decide)) (show (fun w' => w'.cell? ⟨p, 7, none⟩ = some (.slice L.ap.a L.ap.len L.ap.cap)) w.drew from h.drew.c7) ?_
  refine Pl.H.take 11 37 (.int .i64 ((m : Nat) : Int)) (by kernel_rfl) (by kernel_rfl) (by kernel_rfl) (Pl.free 11 (by kernel_rfl)) (Pl.move 11 (.tmp 4) (by kernel_rfl) (by decide)) (show (fun w' => w'.cell? ⟨p, 7, none⟩ = some (.slice L.ap.a L.ap.len L.ap.cap)) w.drew from h.drew.c7) ?_
  refine Pl.H.take 12 38 (.int .i64 ((k : Nat) : Int)) (by kernel_rfl) (by kernel_rfl) (by kernel_rfl) (Pl.free 12 (by kernel_rfl)) (Pl.binV 12 .sub 3 3 (.tmp 36) (.tmp 37) (.int .i64 ((u0 : Nat) : Int)) (.int .i64 ((m : Nat) : Int)) _ (by kernel_rfl) (by decide) (by decide) rfl rfl (fun w => by simp [go_sem, eqGuard, hk])) (show (fun w' => w'.cell? ⟨p, 7, none⟩ = some (.slice L.ap.a L.ap.len L.ap.cap)) w.drew from h.drew.c7) ?_
  refine Pl.H.take 13 39 (.slice (fromA L.ap.a L.ap.cap 0) k L.ap.cap) (by kernel_rfl) (by kernel_rfl) (by kernel_rfl) (Pl.free 13 (by kernel_rfl)) (Pl.slice 13 32 (.tmp 35) none (some (.tmp 38)) _ (by kernel_rfl) (by decide) (by decide) (by decide) (fun w => slice_upto L.ap.a L.ap.len L.ap.cap k (Nat.le_trans hkl (h.own .ap).lecap) w)) (show (fun w' => w'.cell? ⟨p, 7, none⟩ = some (.slice L.ap.a L.ap.len L.ap.cap)) w.drew from h.drew.c7) ?_
  refine Pl.H.solo 5 31 (.slice L.ks.a L.ks.len L.ks.cap) (by kernel_rfl) (by kernel_rfl) (by kernel_rfl) (Pl.free 5 (by kernel_rfl)) (Pl.load1 5 32 (.tmp 30) _ (by kernel_rfl) (by decide) (ldBs p 5 _ _ _ _ h.drew.c5)) (show (fun w' => w'.cell? ⟨p, 7, none⟩ = some (.slice L.ap.a L.ap.len L.ap.cap)) w.drew from h.drew.c7) ?_
  have hS1 : (fun w' : World => w'.cell? ⟨p, 7, none⟩ = some (.slice L.ap.a L.ap.len L.ap.cap)) w1 := (Addr.cell0 hp1).trans rfl
  refine Pl.H.make 14 40 (sl1.val) w1 (by kernel_rfl) (by kernel_rfl) (by kernel_rfl) (Pl.free 14 (by kernel_rfl)) (Pl.appT 14 32 32 (.tmp 31) (.tmp 39) _ _ (by kernel_rfl) (by kernel_rfl) (by decide) (by decide) (hr1 _)) hS1 ?_
  refine Pl.H.take 15 41 (.pointer (some ⟨p, 0, none⟩)) (by kernel_rfl) (by kernel_rfl) (by kernel_rfl) (Pl.free 15 (by kernel_rfl)) (Pl.nilc 15 (.tmp 26) _ (by kernel_rfl) (by decide) rfl) hS1 ?_
  refine Pl.H.take 16 42 (.pointer (some ⟨p, 3, none⟩)) (by kernel_rfl) (by kernel_rfl) (by kernel_rfl) (Pl.free 16 (by kernel_rfl)) (Pl.field 16 91 (.tmp 41) 1 _ (by kernel_rfl) (by decide) (fdDev1_0 p)) hS1 ?_
  refine Pl.H.take 17 43 (.pointer (some ⟨p, 5, none⟩)) (by kernel_rfl) (by kernel_rfl) (by kernel_rfl) (Pl.free 17 (by kernel_rfl)) (Pl.field 17 87 (.tmp 42) 2 _ (by kernel_rfl) (by decide) (fdDk2_3 p)) hS1 ?_
  refine Pl.H.store 18 (w1.setCell ⟨p, 5, none⟩ sl1.val) (by kernel_rfl) (by kernel_rfl) (by kernel_rfl) (Pl.free 18 (by kernel_rfl)) (Pl.storeV 18 32 (.tmp 43) (.tmp 40) _ (by kernel_rfl) (by decide) (by decide) (stBs p 5 _ _ w1 (Addr.cell0 hp1) (frozen_of_row w1 p _ _ 91 hp1))) hS2 ?_
  refine Pl.H.done (by kernel_rfl) (fun A' hA' => ?_)
  rw [Pl.At.ext hA' ((((((((((((((((((hA.put 26 _).put 27 _).put 28 _).put 29 _).put 30 _).put 32 _).put 33 _).put 34 _).put 35 _).put 36 _).put 37 _).put 38 _).put 39 _).put 31 _).put 40 _).put 41 _).put 42 _).put 43 _)]
  exact hend (fun d => if d = 26 then .pointer (some ⟨p, 0, none⟩) else if d = 27 then .pointer (some ⟨p, 0, none⟩) else if d = 28 then .pointer (some ⟨p, 0, none⟩) else if d = 29 then .pointer (some ⟨p, 3, none⟩) else if d = 30 then .pointer (some ⟨p, 5, none⟩) else if d = 32 then .pointer (some ⟨p, 0, none⟩) else if d = 33 then .pointer (some ⟨p, 0, none⟩) else if d = 34 then .pointer (some ⟨p, 7, none⟩) else if d = 35 then .slice L.ap.a L.ap.len L.ap.cap else if d = 36 then .int .i64 ((u0 : Nat) : Int) else if d = 37 then .int .i64 ((m : Nat) : Int) else if d = 38 then .int .i64 ((k : Nat) : Int) else if d = 39 then .slice (fromA L.ap.a L.ap.cap 0) k L.ap.cap else if d = 31 then .slice L.ks.a L.ks.len L.ks.cap else if d = 40 then sl1.val else if d = 41 then .pointer (some ⟨p, 0, none⟩) else if d = 42 then .pointer (some ⟨p, 3, none⟩) else if d = 43 then .pointer (some ⟨p, 5, none⟩) else undef) _ ⟨_, hT⟩

theorem idxTm (b o len cap k : Nat) (hk : k < len) (w : World) : (Instr.indexAt 89 (.slice (some ⟨b, o, none⟩) len cap) (.int .i64 (k : Nat))).run Tryz.prog w = .ok (.pointer (some ⟨b, o + k * 2, none⟩)) w := by
  have h22 : Tryz.prog.underlying 89 = some (.slice (Tryz.prog.elem 89)) := by kernel_rfl
  have h1 : (0 : Int) ≤ (k : Int) := by omega
  have h2 : (k : Int) < (len : Int) := by omega
  simp [go_sem, Instr.indexAt, run_underlying h22, h1, Addr.add_lit]
  intro h
  omega
theorem fldTm1 (p o : Nat) (w : World) : (Instr.fieldAt 138 (.pointer (some ⟨p, o, none⟩)) 1).run Tryz.prog w = .ok (.pointer (some ⟨p, o + 1, none⟩)) w := by simp [go_sem, Instr.fieldAt]

set_option maxHeartbeats 2000000 in
set_option maxRecDepth 100000 in
theorem keepU5 (w : World) (p : Nat) (D : Ds) (L : Dl) (h : DevM w p D L) (m m1 pl g off : Nat) (hm : IntKind.i64.wrap ((m1 : Int) - 1) = (m : Nat)) (hml : m < L.tr.len) (ha : L.tr.a = some ⟨g, off, none⟩) (hc : w.cell? ⟨g, off + m * 2 + 1, none⟩ = some (.int .i64 ((pl : Nat) : Int))) (h1 : D.kb ≤ pl) (h2 : pl ≤ D.kb + D.ks.length) (h3 : pl ≤ 1000000000000)
    {Q : Exit → Act → World → Prop} {A : Act} (hsz : A.tmps.size = 59) (hdf : A.defers = []) (s0 : A.tmps.getD 0 undef = .pointer (some ⟨p, 0, none⟩)) (s4 : A.tmps.getD 4 undef = .int .i64 ((m1 : Nat) : Int))
    (hend : ∀ (u : Nat → Value) w', (∃ L', Turned w p L w' { D with ks := D.ks.drop (pl - D.kb), kb := pl } L') → Q .normal ((((((((((((((A).put (some 46) (u 46)).put (some 47) (u 47)).put (some 48) (u 48)).put (some 49) (u 49)).put (some 50) (u 50)).put (some 51) (u 51)).put (some 53) (u 53)).put (some 54) (u 54)).put (some 52) (u 52)).put (some 55) (u 55)).put (some 56) (u 56)).put (some 57) (u 57)).put (some 58) (u 58)) w') :
    (Code.region 5 (Pl.find 5 ((Tryz.f102.body).getD .skip)) true).wp Tryz.prog Q A w := by
  have hA := Pl.At.same (v := .int .i64 ((m1 : Nat) : Int)) (d := 4) (Pl.At.same (v := .pointer (some ⟨p, 0, none⟩)) (d := 0) (Pl.At.here hsz hdf) s0) s4
  refine Pl.H.start (S := fun _ => True) (by kernel_rfl) hA True.intro ?_
  rw [show (Pl.find 5 ((Tryz.f102.body).getD .skip)).size = 13 by kernel_rfl]
  refine Pl.H.take 0 46 (.pointer (some ⟨p, 0, none⟩)) (by kernel_rfl) (by kernel_rfl) (by kernel_rfl) (Pl.free 0 (by kernel_rfl)) (Pl.move 0 (.tmp 0) (by kernel_rfl) (by decide)) True.intro ?_
  refine Pl.H.take 1 47 (.pointer (some ⟨p, 0, none⟩)) (by kernel_rfl) (by kernel_rfl) (by kernel_rfl) (Pl.free 1 (by kernel_rfl)) (Pl.nilc 1 (.tmp 46) _ (by kernel_rfl) (by decide) rfl) True.intro ?_
  refine Pl.H.take 2 48 (.pointer (some ⟨p, 3, none⟩)) (by kernel_rfl) (by kernel_rfl) (by kernel_rfl) (Pl.free 2 (by kernel_rfl)) (Pl.field 2 91 (.tmp 47) 1 _ (by kernel_rfl) (by decide) (fdDev1_0 p)) True.intro ?_
  refine Pl.H.take 3 49 (.pointer (some ⟨p, 0, none⟩)) (by kernel_rfl) (by kernel_rfl) (by kernel_rfl) (Pl.free 3 (by kernel_rfl)) (Pl.move 3 (.tmp 0) (by kernel_rfl) (by decide)) True.intro ?_
  refine Pl.H.take 4 50 (.pointer (some ⟨p, 0, none⟩)) (by kernel_rfl) (by kernel_rfl) (by kernel_rfl) (Pl.free 4 (by kernel_rfl)) (Pl.nilc 4 (.tmp 49) _ (by kernel_rfl) (by decide) rfl) True.intro ?_
  refine Pl.H.take 5 51 (.pointer (some ⟨p, 8, none⟩)) (by kernel_rfl) (by kernel_rfl) (by kernel_rfl) (Pl.free 5 (by kernel_rfl)) (Pl.field 5 91 (.tmp 50) 4 _ (by kernel_rfl) (by decide) (fdDev4_0 p)) True.intro ?_
  refine Pl.H.take 7 53 (.int .i64 ((m1 : Nat) : Int)) (by kernel_rfl) (by kernel_rfl) (by kernel_rfl) (Pl.free 7 (by kernel_rfl)) (Pl.move 7 (.tmp 4) (by kernel_rfl) (by decide)) True.intro ?_
  refine Pl.H.take 8 54 (.int .i64 ((m : Nat) : Int)) (by kernel_rfl) (by kernel_rfl) (by kernel_rfl) (Pl.free 8 (by kernel_rfl)) (Pl.binV 8 .sub 3 3 (.tmp 53) (.const (.int .i64 1)) (.int .i64 ((m1 : Nat) : Int)) (.int .i64 1) _ (by kernel_rfl) (by decide) (by decide) rfl rfl (fun w => by simp [go_sem, eqGuard, hm])) True.intro ?_
  refine Pl.H.solo 6 52 (.slice (some ⟨g, off, none⟩) L.tr.len L.tr.cap) (by kernel_rfl) (by kernel_rfl) (by kernel_rfl) (Pl.free 6 (by kernel_rfl)) (Pl.load1 6 89 (.tmp 51) _ (by kernel_rfl) (by decide) (ldTs p 8 _ _ _ _ (by rw [← ha]; exact h.drew.c8))) True.intro ?_
  refine Pl.H.take 9 55 (.pointer (some ⟨g, off + m * 2, none⟩)) (by kernel_rfl) (by kernel_rfl) (by kernel_rfl) (Pl.free 9 (by kernel_rfl)) (Pl.index 9 89 (.tmp 52) (.tmp 54) _ (by kernel_rfl) (by decide) (by decide) (idxTm g off L.tr.len L.tr.cap m hml)) True.intro ?_
  refine Pl.H.take 10 56 (.pointer (some ⟨g, off + m * 2 + 1, none⟩)) (by kernel_rfl) (by kernel_rfl) (by kernel_rfl) (Pl.free 10 (by kernel_rfl)) (Pl.field 10 138 (.tmp 55) 1 _ (by kernel_rfl) (by decide) (fldTm1 g (off + m * 2))) True.intro ?_
  refine Pl.H.solo 11 57 (.int .i64 ((pl : Nat) : Int)) (by kernel_rfl) (by kernel_rfl) (by kernel_rfl) (Pl.free 11 (by kernel_rfl)) (Pl.load1 11 3 (.tmp 56) _ (by kernel_rfl) (by decide) (ldInt g (off + m * 2 + 1) _ _ hc)) True.intro ?_
  refine Pl.H.call 12 58 92 [(.tmp 48), (.tmp 57)] #[87, 3] (by kernel_rfl) (by kernel_rfl) (by kernel_rfl) (Pl.free 12 (by kernel_rfl)) (by kernel_rfl) (by decide) entTrim (Calls.mono (trimK w.drew p D L h.drew pl h1 h2 h3) ?_)
  rintro e w2 ⟨rfl, L2, hT2⟩
  refine ⟨.tuple #[], rfl, True.intro, ?_⟩
  refine Pl.H.done (by kernel_rfl) (fun A' hA' => ?_)
  rw [Pl.At.ext hA' (((((((((((((hA.put 46 _).put 47 _).put 48 _).put 49 _).put 50 _).put 51 _).put 53 _).put 54 _).put 52 _).put 55 _).put 56 _).put 57 _).put 58 _)]
  exact hend (fun d => if d = 46 then .pointer (some ⟨p, 0, none⟩) else if d = 47 then .pointer (some ⟨p, 0, none⟩) else if d = 48 then .pointer (some ⟨p, 3, none⟩) else if d = 49 then .pointer (some ⟨p, 0, none⟩) else if d = 50 then .pointer (some ⟨p, 0, none⟩) else if d = 51 then .pointer (some ⟨p, 8, none⟩) else if d = 53 then .int .i64 ((m1 : Nat) : Int) else if d = 54 then .int .i64 ((m : Nat) : Int) else if d = 52 then .slice (some ⟨g, off, none⟩) L.tr.len L.tr.cap else if d = 55 then .pointer (some ⟨g, off + m * 2, none⟩) else if d = 56 then .pointer (some ⟨g, off + m * 2 + 1, none⟩) else if d = 57 then .int .i64 ((pl : Nat) : Int) else if d = 58 then .tuple #[] else undef) _ ⟨_, (Turned.same h (below_drew w)).trans hT2⟩

/-- The stream's first units are kept, m trimmings among them. -/
def Ds.keepU (D : Ds) (u m : Nat) : Ds :=
  if m = 0 then { D with ks := D.ks ++ D.ap.take u }
  else { D with ks := (D.ks ++ D.ap.take (u - m)).drop ((D.tr.getD (m - 1) tmD).place - D.kb), kb := (D.tr.getD (m - 1) tmD).place }

set_option maxHeartbeats 4000000 in
theorem keepU_any (w : World) (p : Nat) (D : Ds) (L : Dl) (h : DevM w p D L) (u m : Nat) (ht : D.Trims u m) (hum : m ≤ u) (hua : u - m ≤ D.ap.length) (hm : D.ks.length + D.ap.length ≤ 1000000) (hu : u ≤ 1000000000)
    (hp : 0 < m → D.kb ≤ (D.tr.getD (m - 1) tmD).place ∧ (D.tr.getD (m - 1) tmD).place ≤ D.kb + (D.ks.length + (u - m)) ∧ (D.tr.getD (m - 1) tmD).place ≤ 1000000000000) (htl : D.tr.length ≤ 100000) :
    Calls Tryz.prog 102 #[at0 p, .int .i64 ((u : Nat) : Int)] w fun e w' => e = .returned (.tuple #[]) ∧ ∃ L', Turned w p L w' (D.keepU u m) L' := by
  have HH := hide h
  have HT := hide ht
  have c8 := h.c8
  have hlt := h.lenT
  have HLT := hide hlt
  rw [← hlt] at c8
  have hal : D.ap.length = L.ap.len := h.len .ap
  have HR : Hid (∀ {Q : Exit → Act → World → Prop} {A : Act}, _) := fun {Q A} => keepU3 w p D L h u m (u - m) (by rw [IntKind.wrap_i64]; omega) (by omega) (by omega) (Q := Q) (A := A)
  have HP := hide hp
  have HK : Hid (∀ (h0 : m = 0), D.keepU u m = { D with ks := D.ks ++ D.ap.take u }) := fun h0 => by unfold Ds.keepU; rw [if_pos h0]
  have HK2 : Hid (∀ (h0 : 0 < m), D.keepU u m = { D with ks := (D.ks ++ D.ap.take (u - m)).drop ((D.tr.getD (m - 1) tmD).place - D.kb), kb := (D.tr.getD (m - 1) tmD).place }) := fun h0 => by unfold Ds.keepU; rw [if_neg (by omega)]
  have hml := ht.le
  have HAL : Hid (u - m ≤ D.ap.length) := hua
  clear ht h hp hal hlt hua
  unfold at0 at *
  go_enter Tryz.func102, Tryz.ntmps102
  go_wp2_with fail
  go_loop [4] (fun i => ∃ j : Nat, j ≤ m ∧ i = .int .i64 j) (fun i => m - (intOf i).toNat)
  case atStart => exact ⟨0, by omega, rfl⟩
  case round =>
    obtain ⟨j, hj, rfl⟩ := hrel
    rcases Nat.lt_or_ge j m with hlt | hge
    · obtain ⟨g, off, ha, hc, _⟩ := HH.out.tmAt j (by omega)
      have hx := HT.out.lt j hlt
      obtain ⟨x, hxe⟩ : ∃ x, x = (D.tr.getD j tmD).ahead := ⟨_, rfl⟩
      rw [← hxe] at hc hx
      rw [ha] at c8
      have i1 : ((j : Nat) : Int) < ((D.tr.length : Nat) : Int) := by omega
      have i2 : ((x : Nat) : Int) < ((u : Nat) : Int) := by omega
      clear hxe ha
      go_wp2_with fail
      go_round
      case rel => exact ⟨j + 1, by omega, by go_num⟩
      case measure => simp only [intOf]; omega
    · obtain rfl : j = m := by omega
      rcases Nat.lt_or_ge j D.tr.length with hl2 | hl2
      · obtain ⟨g, off, ha, hc, _⟩ := HH.out.tmAt j hl2
        have hx := HT.out.ge hl2
        obtain ⟨x, hxe⟩ : ∃ x, x = (D.tr.getD j tmD).ahead := ⟨_, rfl⟩
        rw [← hxe] at hc hx
        rw [ha] at c8
        have i1 : ((j : Nat) : Int) < ((D.tr.length : Nat) : Int) := by omega
        have i2 : ¬ ((x : Nat) : Int) < ((u : Nat) : Int) := by omega
        clear hxe ha
        go_wp2_with fail
        refine Pl.region_is (ops := Pl.find 3 ((Tryz.f102.body).getD .skip)) (by kernel_rfl) ?_
        refine HR.out (by rfl) rfl (by rfl) (by rfl) (by rfl) ?_
        rintro uu w1 ⟨L1, hT1⟩
        have HT1 := hide hT1
        simp only [Act.put, List.setIfInBounds_toArray, List.set_cons_zero, List.set_cons_succ]
        clear hT1
        rcases Nat.eq_zero_or_pos j with h0 | h0
        · have HK0 := hide (HK.out h0)
          have i3 : ¬ (0 : Int) < ((j : Nat) : Int) := by omega
          have i4 : ((j : Nat) : Int) ≤ 0 := by omega
          have HJ := hide h0
          have i5 : ¬ 0 < j := by omega
          clear h0
          go_wp2_with fail
          go_end0
          refine ⟨rfl, L1, ?_⟩
          rw [HK0.out]
          have e := HT1.out
          rw [HJ.out] at e
          exact e
        · have i3 : (0 : Int) < ((j : Nat) : Int) := by omega
          go_wp2_with fail
          refine Pl.region_is (ops := Pl.find 5 ((Tryz.f102.body).getD .skip)) (by kernel_rfl) ?_
          obtain ⟨q1, q2, q3⟩ := HP.out h0
          have hle := HT.out.le
          obtain ⟨g5, off5, ha5, _, hc5⟩ := HT1.out.dev.tmAt (j - 1) (by show _ < D.tr.length; omega)
          have hl5 := HT1.out.dev.lenT
          have e5 : (D.ks ++ D.ap.take (u - j)).length = D.ks.length + (u - j) := by have := HAL.out; simp only [List.length_append, List.length_take]; omega
          refine keepU5 w1 p _ L1 HT1.out.dev (j - 1) j _ g5 off5 (by rw [IntKind.wrap_i64]; omega) (by rw [← hl5]; show _ < D.tr.length; omega) ha5 hc5 q1 (by show _ ≤ D.kb + (D.ks ++ D.ap.take (u - j)).length; rw [e5]; exact q2) q3 (by rfl) rfl (by rfl) (by rfl) ?_
          rintro uu w2 ⟨L2, hT2⟩
          have HT2 := hide (HT1.out.trans hT2)
          have HKK := hide (HK2.out h0)
          simp only [Act.put, List.setIfInBounds_toArray, List.set_cons_zero, List.set_cons_succ]
          clear hT2 ha5 hc5 hl5 e5 q1 q2 q3 hle
          go_wp2_with fail
          go_end0
          refine ⟨rfl, L2, ?_⟩
          rw [HKK.out]
          exact HT2.out
      · have i1 : ¬ ((j : Nat) : Int) < ((D.tr.length : Nat) : Int) := by omega
        go_wp2_with fail
        refine Pl.region_is (ops := Pl.find 3 ((Tryz.f102.body).getD .skip)) (by kernel_rfl) ?_
        refine HR.out (by rfl) rfl (by rfl) (by rfl) (by rfl) ?_
        rintro uu w1 ⟨L1, hT1⟩
        have HT1 := hide hT1
        simp only [Act.put, List.setIfInBounds_toArray, List.set_cons_zero, List.set_cons_succ]
        clear hT1
        rcases Nat.eq_zero_or_pos j with h0 | h0
        · have HK0 := hide (HK.out h0)
          have i3 : ¬ (0 : Int) < ((j : Nat) : Int) := by omega
          have i4 : ((j : Nat) : Int) ≤ 0 := by omega
          have HJ := hide h0
          have i5 : ¬ 0 < j := by omega
          clear h0
          go_wp2_with fail
          go_end0
          refine ⟨rfl, L1, ?_⟩
          rw [HK0.out]
          have e := HT1.out
          rw [HJ.out] at e
          exact e
        · have i3 : (0 : Int) < ((j : Nat) : Int) := by omega
          go_wp2_with fail
          refine Pl.region_is (ops := Pl.find 5 ((Tryz.f102.body).getD .skip)) (by kernel_rfl) ?_
          obtain ⟨q1, q2, q3⟩ := HP.out h0
          have hle := HT.out.le
          obtain ⟨g5, off5, ha5, _, hc5⟩ := HT1.out.dev.tmAt (j - 1) (by show _ < D.tr.length; omega)
          have hl5 := HT1.out.dev.lenT
          have e5 : (D.ks ++ D.ap.take (u - j)).length = D.ks.length + (u - j) := by have := HAL.out; simp only [List.length_append, List.length_take]; omega
          refine keepU5 w1 p _ L1 HT1.out.dev (j - 1) j _ g5 off5 (by rw [IntKind.wrap_i64]; omega) (by rw [← hl5]; show _ < D.tr.length; omega) ha5 hc5 q1 (by show _ ≤ D.kb + (D.ks ++ D.ap.take (u - j)).length; rw [e5]; exact q2) q3 (by rfl) rfl (by rfl) (by rfl) ?_
          rintro uu w2 ⟨L2, hT2⟩
          have HT2 := hide (HT1.out.trans hT2)
          have HKK := hide (HK2.out h0)
          simp only [Act.put, List.setIfInBounds_toArray, List.set_cons_zero, List.set_cons_succ]
          clear hT2 ha5 hc5 hl5 e5 q1 q2 q3 hle
          go_wp2_with fail
          go_end0
          refine ⟨rfl, L2, ?_⟩
          rw [HKK.out]
          exact HT2.out

end Go.Proofs.YtpggkfdnpdhkfaaGreat

namespace Go.Proofs.YtpggkfdnpdhkfaaGreat
open Go.RowKit
set_option maxRecDepth 100000

/-- A pattern: bools behind a slice. -/
structure Pat (w : World) (a : Option Addr) (len : Nat) (bs : List Bool) : Prop where
  len_ : bs.length = len
  at_ : ∀ i, i < len → ∃ b off, a = some ⟨b, off, none⟩ ∧ w.cell? ⟨b, off + i, none⟩ = some (.bool (bs.getD i false))
theorem Pat.frm {F : Nat → Prop} {w w1 : World} {a : Option Addr} {len : Nat} {bs : List Bool} (h : Pat w a len bs) (hf : Frm F w w1) (ho : Off F a len) : Pat w1 a len bs := by
  refine ⟨h.len_, fun i hi => ?_⟩
  obtain ⟨b, off, ha, hc⟩ := h.at_ i hi
  refine ⟨b, off, ha, ?_⟩
  have := hf.block b (World.block_lt_of_cell? w _ hc) (ho _ ha (by omega))
  simp only [World.cell?] at hc ⊢
  rw [this]
  exact hc
/-- Does the pattern keep the i-th write? -/
def hit (bs : List Bool) (i : Nat) : Bool := decide (0 < bs.length) && bs.getD (i % bs.length) false
/-- The pages behind the writes that are kept. -/
def keepW (bs : List Bool) : Nat → List Sw → List Nat → List Nat
  | _, [], kp => kp
  | i, x :: r, kp => keepW bs (i + 1) r (if hit bs i = true then splice kp x.at_ x.b else kp)
theorem keepW_snoc (bs : List Bool) : ∀ (l : List Sw) (i : Nat) (x : Sw) (kp : List Nat), keepW bs i (l ++ [x]) kp = if hit bs (i + l.length) = true then splice (keepW bs i l kp) x.at_ x.b else keepW bs i l kp
  | [], i, x, kp => by simp [keepW]
  | y :: r, i, x, kp => by
    show keepW bs (i + 1) (r ++ [x]) _ = _
    have e : i + (y :: r).length = i + 1 + r.length := by simp only [List.length_cons]; omega
    rw [keepW_snoc bs r (i + 1) x, e]
    simp only [keepW]
/-- A sector's write that fits. -/
structure Sw.Ok (x : Sw) (m : Nat) : Prop where
  len : x.b.length = 128
  byt : Bytes x.b
  le : x.at_ + 128 ≤ m
theorem keepW_length (bs : List Bool) (m : Nat) : ∀ (l : List Sw) (i : Nat) (kp : List Nat), (∀ x ∈ l, x.Ok m) → kp.length = m → (keepW bs i l kp).length = m
  | [], _, kp, _, h => h
  | x :: r, i, kp, hl, h => by
    have hx := hl x (by simp)
    refine keepW_length bs m r (i + 1) _ (fun y hy => hl y (by simp [hy])) ?_
    split
    · rw [splice_length _ _ _ (by have := hx.len; have := hx.le; omega)]; exact h
    · exact h
theorem Bytes.splice {xs ys : List Nat} (h : Bytes xs) (k : Bytes ys) (o : Nat) : Bytes (splice xs o ys) := by
  unfold Go.Proofs.YtpggkfdnpdhkfaaGreat.splice
  exact ((h.take o).append k).append (h.drop _)
theorem keepW_bytes (bs : List Bool) : ∀ (l : List Sw) (i : Nat) (kp : List Nat), (∀ x ∈ l, Bytes x.b) → Bytes kp → Bytes (keepW bs i l kp)
  | [], _, kp, _, h => h
  | x :: r, i, kp, hl, h => by
    refine keepW_bytes bs r (i + 1) _ (fun y hy => hl y (by simp [hy])) ?_
    split
    · exact h.splice (hl x (by simp)) _
    · exact h

def swD : Sw := ⟨0, []⟩
theorem swCells_get : ∀ (l : List Sw) (j t : Nat), (∀ x ∈ l, x.b.length = 128) → j < l.length → t < 129 → (swCells l)[j * 129 + t]? = (l.getD j swD).cells[t]?
  | i :: r, 0, t, h, _, ht => by
    simp only [swCells, List.flatMap_cons]
    rw [List.getElem?_append_left (by rw [i.cells_length (h i (by simp))]; omega)]
    simp
  | i :: r, j + 1, t, h, hj, ht => by
    have := swCells_get r j t (fun x hx => h x (by simp [hx])) (by simpa using hj) ht
    have hc := i.cells_length (h i (by simp))
    simp only [swCells, List.flatMap_cons] at *
    rw [List.getElem?_append_right (by rw [hc]; omega)]
    have e : (j + 1) * 129 + t - i.cells.length = j * 129 + t := by rw [hc]; omega
    rw [e, this]
    simp [List.getD]
/-- Where a sector's write lies. -/
theorem DevM.swAt {w : World} {p : Nat} {D : Ds} {L : Dl} (h : DevM w p D L) (hw : ∀ x ∈ D.wr, x.b.length = 128) (j : Nat) (hj : j < D.wr.length) : ∃ g off, L.wr.a = some ⟨g, off, none⟩ ∧ w.rangeAt g (off + j * 129) (D.wr.getD j swD).cells := by
  have hl := h.lenW hw
  rcases h.wr.2 with ⟨h0, _⟩ | ⟨g, off, cur, ha, _⟩
  · rw [h0] at hl
    have : D.wr.length = 0 := hl
    omega
  · refine ⟨g, off, ha, fun t v ht => ?_⟩
    have hx : (D.wr.getD j swD).cells.length = 129 := by
      refine Sw.cells_length _ ?_
      have := hw _ (List.getElem_mem hj)
      simpa [List.getD, hj] using this
    have htl : t < 129 := by have := (List.getElem?_eq_some_iff.1 ht).1; omega
    have h1 := h.wr.cell ha (j * 129 + t) v ((swCells_get D.wr j t hw hj htl).trans ht)
    rw [Addr.add_lit] at h1
    rw [show off + j * 129 + t = off + (j * 129 + t) by omega]
    exact h1
def swZ : Array Value := ((.int .i64 0 : Value) :: List.replicate 128 (.int .u8 0)).toArray
theorem Sw.cells_one (x : Sw) : ∀ u ∈ x.cells, u.oneCell' = true := by
  intro u hu
  rcases List.mem_cons.1 hu with rfl | h
  · rfl
  · exact vals_one _ u h
theorem sizeSw : (Tryz.prog.info? 150).map (·.size) = some 129 := by kernel_rfl
theorem sw_alloc (w : World) : (Instr.alloc 150 true (.tuple #[])).run Tryz.prog w = .ok (.pointer (some ⟨w.heap.size, 0, none⟩)) (w.alloc (.cells swZ 150)) := by
  have hz : (Tryz.prog.info? 150).map (fun i => (i.zero, i.size, i.bytes)) = some (some (.agg swZ), 129, 136) := by kernel_rfl
  obtain ⟨i0, hi, hz0, hz1, hz2⟩ := info_parts hz
  simp [Instr.alloc, zeroValue, typeInfo, hi, hz0, newVar, newRow, Value.cells]
theorem sw_store (x : Sw) (h : x.b.length = 128) (w : World) : (Instr.storeAt 150 (.pointer (some ⟨w.heap.size, 0, none⟩)) (.agg x.cells.toArray)).run Tryz.prog (w.alloc (.cells swZ 150)) = .ok () (w.alloc (.cells x.cells.toArray 150)) :=
  run_storeAt_new w 150 swZ x.cells.toArray (by rw [sizeSw]; simp [x.cells_length h]) (by simp [swZ, x.cells_length h]) (by simp; exact x.cells_one)
theorem sw_load (x : Sw) (h : x.b.length = 128) (w : World) (g o : Nat) (hc : w.rangeAt g o x.cells) : (Instr.loadAt 150 (.pointer (some ⟨g, o, none⟩))).run Tryz.prog w = .ok (.agg x.cells.toArray) w :=
  run_loadAt_mid w g o 150 x.cells _ hc Tryz.underlying150 rfl (by rw [sizeSw, x.cells_length h])

theorem Pl.copyV {P : Program} {ops : Array Oper} {n : Nat} {f : Nat → Value} {w : World} (i : Nat) (t : TypeId) (x y : Operand) (v : Value) (w' : World) (h : (Pl.op ops i).op = .call { callee := .builtin .copy, args := #[x, y], argTypes := #[t, t] }) (hx : Pl.inB n x = true) (hy : Pl.inB n y = true)
    (hv : ∀ ty, (Builtin.copy_ #[t, t] ty #[Pl.ev f x, Pl.ev f y]).run P w = .ok v w') :
    ∀ A, Pl.At n A f → (execOp A.eval (Pl.op ops i)).run P w = .ok (.value v) w' := by
  intro A hA
  unfold execOp
  rw [h]
  simp [resolve, invoke, builtin, hA.ev x hx, hA.ev y hy, hv]

theorem slice76 (q : Nat) (w : World) : (Instr.sliceAt 148 (.pointer (some ⟨q, 1, none⟩)) none none none).run Tryz.prog w = .ok (.slice (some ⟨q, 1, none⟩) 128 128) w := by simp [go_sem, Instr.sliceAt]
/-- How many units of the stream's are kept. -/
def Ds.count (D : Ds) (u : Int) : Nat := if u < 0 then 0 else if u ≤ ((D.units : Nat) : Int) then u.toNat else D.units
/-- What is not synced is kept, as far as the pattern and the number say; the rest is forgotten. -/
def Ds.keep (D : Ds) (bs : List Bool) (u0 mm : Nat) : Ds := { Ds.keepU { D with kp := keepW bs 0 D.wr D.kp } u0 mm with wr := [], ap := [], tr := [] }
theorem DevM.clr6 {w : World} {p : Nat} {D : Ds} {L : Dl} (h : DevM w p D L) : Turned w p L (w.setCell ⟨p, 6, none⟩ (.slice none 0 0)) { D with wr := [] } { L with wr := Sl.nil } := h.swapW Sl.nil [] (Frm.refl _ _) (Own.nil _ _ _) (fun k hk => by cases hk)
theorem DevM.clr7 {w : World} {p : Nat} {D : Ds} {L : Dl} (h : DevM w p D L) : Turned w p L (w.setCell ⟨p, 7, none⟩ (.slice none 0 0)) { D with ap := [] } { L with ap := Sl.nil } := h.swap .ap Sl.nil [] (Frm.refl _ _) (Own.nil _ _ _) (fun x hx => by cases hx) (fun k hk => by cases hk) 7 _ _ (by rfl) ⟨rfl, rfl⟩ (fun f hf => by cases f <;> first | exact ⟨rfl, rfl⟩ | exact absurd rfl hf) ⟨rfl, rfl⟩ ⟨rfl, rfl⟩
theorem DevM.clr8 {w : World} {p : Nat} {D : Ds} {L : Dl} (h : DevM w p D L) : Turned w p L (w.setCell ⟨p, 8, none⟩ (.slice none 0 0)) { D with tr := [] } { L with tr := Sl.nil } := h.swapT Sl.nil [] (Frm.refl _ _) (Own.nil _ _ _) (fun k hk => by cases hk)

/-- A sector's write in a block of its own. -/
def SwBlk (w : World) (q : Nat) (x : Sw) : Prop := w.heap[q]? = some (.cells x.cells.toArray 150 (0, 0))
theorem SwBlk.c0 {w : World} {q : Nat} {x : Sw} (h : SwBlk w q x) : w.cell? ⟨q, 0, none⟩ = some (.int .i64 ((x.at_ : Nat) : Int)) := (Addr.cell0 h).trans rfl
theorem SwBlk.came {w : World} {q : Nat} {x : Sw} (h : SwBlk w q x) (hl : x.b.length = 128) (hb : Bytes x.b) : Came w (some ⟨q, 1, none⟩) 128 128 x.b := by
  refine ⟨⟨hl, hb, fun i hi => ⟨q, 1, rfl, ?_⟩⟩, (fun e => by cases e), Nat.le_refl _, by omega⟩
  rw [Addr.cell0 h]
  have : x.cells.toArray[1 + i]? = (vals x.b)[i]? := by
    simp only [Sw.cells, List.getElem?_toArray]
    rw [Nat.add_comm, List.getElem?_cons_succ]
  rw [this, vals_get (by omega)]

set_option maxHeartbeats 2000000 in
set_option maxRecDepth 100000 in
theorem keep4 (w : World) (p : Nat) (D : Ds) (L : Dl) (h : DevM w p D L) (q : Nat) (x : Sw) (hb : SwBlk w q x) (hx : x.Ok D.kp.length)
    {Q : Exit → Act → World → Prop} {A : Act} (hsz : A.tmps.size = 58) (hdf : A.defers = []) (s0 : A.tmps.getD 0 undef = .pointer (some ⟨p, 0, none⟩)) (s7 : A.tmps.getD 7 undef = .pointer (some ⟨q, 0, none⟩))
    (hend : ∀ (u : Nat → Value) w', Turned w p L w' { D with kp := splice D.kp x.at_ x.b } L → Q .normal ((((((((((((A).put (some 30) (u 30)).put (some 31) (u 31)).put (some 32) (u 32)).put (some 33) (u 33)).put (some 34) (u 34)).put (some 35) (u 35)).put (some 36) (u 36)).put (some 37) (u 37)).put (some 38) (u 38)).put (some 39) (u 39)).put (some 40) (u 40)) w') :
    (Code.region 4 (Pl.find 4 ((Tryz.f71.body).getD .skip)) true).wp Tryz.prog Q A w := by
  have hlen : D.kp.length = L.kp.len := h.len .kp
  have hal : x.at_ ≤ L.kp.len := by have := hx.le; omega
  have hq : SwBlk w.drew q x := hb
  have hS0 : (fun (w' : World) => w'.cell? ⟨p, 3, none⟩ = some (.slice L.kp.a L.kp.len L.kp.cap) ∧ w'.cell? ⟨q, 0, none⟩ = some (.int .i64 ((x.at_ : Nat) : Int))) w.drew := ⟨h.drew.c3, hq.c0⟩
  obtain ⟨n1, w1, hr1, ho1, hf1, hz1⟩ : ∃ n1 w1, (∀ ty, (Builtin.copy_ #[32, 32] ty #[(L.kp.from_ x.at_).val, .slice (some ⟨q, 1, none⟩) 128 128]).run Tryz.prog w.drew = .ok n1 w1) ∧ Own 5 1 w1 L.kp (vals (splice D.kp x.at_ x.b)) ∧ Frm (fun k => L.kp.blk = some k) w.drew w1 ∧ w1.heap.size = w.drew.heap.size := by
    obtain ⟨n1, w1, e1, e2, e3, e4⟩ := own_copy w.drew L.kp D.kp (h.drew.own .kp) x.at_ (some ⟨q, 1, none⟩) 128 128 x.b x.b (hq.came hx.len hx.byt) (by rw [List.take_of_length_le]; have := hx.le; have := hx.len; omega) hal 3
    exact ⟨n1, w1, fun ty => e1, e2, e3, e4⟩
  have hT := (Turned.same h (below_drew w)).trans (h.drew.over .kp _ hf1 ho1 ((h.byt .kp).splice hx.byt x.at_) { D with kp := splice D.kp x.at_ x.b } (by rfl) rfl (fun f hf => by cases f <;> first | rfl | exact absurd rfl hf) rfl rfl)
  have hqk : L.kp.blk ≠ some q := by
    intro e
    obtain ⟨cur, hc⟩ := (h.own .kp).kind e
    have hb' : w.heap[q]? = _ := hb
    rw [hc] at hb'
    simp only [Option.some.injEq, Obj.cells.injEq] at hb'
    exact absurd hb'.2.1 (by decide)
  have hq1 : SwBlk w1 q x := (hf1.block q (Array.getElem?_eq_some_iff.1 hq).1 hqk).trans hq
  have hS1 : (fun (w' : World) => w'.cell? ⟨p, 3, none⟩ = some (.slice L.kp.a L.kp.len L.kp.cap) ∧ w'.cell? ⟨q, 0, none⟩ = some (.int .i64 ((x.at_ : Nat) : Int))) w1 := ⟨hT.dev.c3, hq1.c0⟩
  have hA := Pl.At.same (v := .pointer (some ⟨q, 0, none⟩)) (d := 7) (Pl.At.same (v := .pointer (some ⟨p, 0, none⟩)) (d := 0) (Pl.At.here hsz hdf) s0) s7
  refine Pl.H.start (S := fun w' => w'.cell? ⟨p, 3, none⟩ = some (.slice L.kp.a L.kp.len L.kp.cap) ∧ w'.cell? ⟨q, 0, none⟩ = some (.int .i64 ((x.at_ : Nat) : Int))) (by kernel_rfl) hA hS0 ?_
  rw [show (Pl.find 4 ((Tryz.f71.body).getD .skip)).size = 11 by kernel_rfl]
  refine Pl.H.take 0 30 (.pointer (some ⟨p, 0, none⟩)) (by kernel_rfl) (by kernel_rfl) (by kernel_rfl) (Pl.free 0 (by kernel_rfl)) (Pl.move 0 (.tmp 0) (by kernel_rfl) (by decide)) hS0 ?_
  refine Pl.H.take 1 31 (.pointer (some ⟨p, 0, none⟩)) (by kernel_rfl) (by kernel_rfl) (by kernel_rfl) (Pl.free 1 (by kernel_rfl)) (Pl.nilc 1 (.tmp 30) _ (by kernel_rfl) (by decide) rfl) hS0 ?_
  refine Pl.H.take 2 32 (.pointer (some ⟨p, 3, none⟩)) (by kernel_rfl) (by kernel_rfl) (by kernel_rfl) (Pl.free 2 (by kernel_rfl)) (Pl.field 2 91 (.tmp 31) 1 _ (by kernel_rfl) (by decide) (fdDev1_0 p)) hS0 ?_
  refine Pl.H.take 3 33 (.pointer (some ⟨p, 3, none⟩)) (by kernel_rfl) (by kernel_rfl) (by kernel_rfl) (Pl.free 3 (by kernel_rfl)) (Pl.field 3 87 (.tmp 32) 0 _ (by kernel_rfl) (by decide) (fdDk0_3 p)) hS0 ?_
  refine Pl.H.take 4 34 (.slice L.kp.a L.kp.len L.kp.cap) (by kernel_rfl) (by kernel_rfl) (by kernel_rfl) (Pl.free 4 (by kernel_rfl)) (Pl.load 4 32 (.tmp 33) _ (by kernel_rfl) (by decide) (fun w' hS => ldBs p 3 _ _ _ w' hS.1)) hS0 ?_
  refine Pl.H.take 5 35 (.pointer (some ⟨q, 0, none⟩)) (by kernel_rfl) (by kernel_rfl) (by kernel_rfl) (Pl.free 5 (by kernel_rfl)) (Pl.field 5 150 (.tmp 7) 0 _ (by kernel_rfl) (by decide) (fdSw0_0 q)) hS0 ?_
  refine Pl.H.take 6 36 (.int .i64 ((x.at_ : Nat) : Int)) (by kernel_rfl) (by kernel_rfl) (by kernel_rfl) (Pl.free 6 (by kernel_rfl)) (Pl.load 6 3 (.tmp 35) _ (by kernel_rfl) (by decide) (fun w' hS => ldInt q 0 _ w' hS.2)) hS0 ?_
  refine Pl.H.take 7 37 ((L.kp.from_ x.at_).val) (by kernel_rfl) (by kernel_rfl) (by kernel_rfl) (Pl.free 7 (by kernel_rfl)) (Pl.slice 7 32 (.tmp 34) (some (.tmp 36)) none _ (by kernel_rfl) (by decide) (by decide) (by decide) (fun w => slice_from L.kp.a L.kp.len L.kp.cap x.at_ hal w)) hS0 ?_
  refine Pl.H.take 8 38 (.pointer (some ⟨q, 1, none⟩)) (by kernel_rfl) (by kernel_rfl) (by kernel_rfl) (Pl.free 8 (by kernel_rfl)) (Pl.field 8 150 (.tmp 7) 1 _ (by kernel_rfl) (by decide) (fdSw1_0 q)) hS0 ?_
  refine Pl.H.take 9 39 (.slice (some ⟨q, 1, none⟩) 128 128) (by kernel_rfl) (by kernel_rfl) (by kernel_rfl) (Pl.free 9 (by kernel_rfl)) (Pl.slice 9 148 (.tmp 38) none none _ (by kernel_rfl) (by decide) (by decide) (by decide) (slice76 q)) hS0 ?_
  refine Pl.H.make 10 40 (n1) w1 (by kernel_rfl) (by kernel_rfl) (by kernel_rfl) (Pl.free 10 (by kernel_rfl)) (Pl.copyV 10 32 (.tmp 37) (.tmp 39) _ _ (by kernel_rfl) (by decide) (by decide) hr1) hS1 ?_
  refine Pl.H.done (by kernel_rfl) (fun A' hA' => ?_)
  rw [Pl.At.ext hA' (((((((((((hA.put 30 _).put 31 _).put 32 _).put 33 _).put 34 _).put 35 _).put 36 _).put 37 _).put 38 _).put 39 _).put 40 _)]
  exact hend (fun d => if d = 30 then .pointer (some ⟨p, 0, none⟩) else if d = 31 then .pointer (some ⟨p, 0, none⟩) else if d = 32 then .pointer (some ⟨p, 3, none⟩) else if d = 33 then .pointer (some ⟨p, 3, none⟩) else if d = 34 then .slice L.kp.a L.kp.len L.kp.cap else if d = 35 then .pointer (some ⟨q, 0, none⟩) else if d = 36 then .int .i64 ((x.at_ : Nat) : Int) else if d = 37 then (L.kp.from_ x.at_).val else if d = 38 then .pointer (some ⟨q, 1, none⟩) else if d = 39 then .slice (some ⟨q, 1, none⟩) 128 128 else if d = 40 then n1 else undef) _ hT

set_option maxHeartbeats 4000000 in
set_option maxRecDepth 100000 in
theorem keep_any (w : World) (p : Nat) (D : Ds) (L : Dl) (h : DevM w p D L) (m : Nat) (hkp : D.kp.length = m) (hw : ∀ x ∈ D.wr, x.Ok m) (hwl : D.wr.length ≤ 1000000) (pa : Option Addr) (pl pc : Nat) (bs : List Bool) (hpat : Pat w pa pl bs) (hoff : Off (L.F p) pa pl) (hpl : pl ≤ 9223372036854775807) (u : Int)
    (u0 mm : Nat) (hu0 : u0 = D.count u) (ht : D.Trims u0 mm) (hum : mm ≤ u0) (hua : u0 - mm ≤ D.ap.length) (hks : D.ks.length + D.ap.length ≤ 1000000) (htl : D.tr.length ≤ 100000)
    (hp : 0 < mm → D.kb ≤ (D.tr.getD (mm - 1) tmD).place ∧ (D.tr.getD (mm - 1) tmD).place ≤ D.kb + (D.ks.length + (u0 - mm)) ∧ (D.tr.getD (mm - 1) tmD).place ≤ 1000000000000) :
    Calls Tryz.prog 71 #[at0 p, .slice pa pl pc, .int .i64 u] w fun e w' => e = .returned (.tuple #[]) ∧ ∃ L', Turned w p L w' (D.keep bs u0 mm) L' := by
  have hunits : D.units ≤ 2000000 := by unfold Ds.units; omega
  have HUN : Hid (∀ w' kp', DevM w' p { D with kp := kp' } L → Calls Tryz.prog 76 #[at0 p] w' fun e w2 => e = .returned (.int .i64 ((D.units : Nat) : Int)) ∧ Below w'.heap.size w' w2) := fun w' kp' hd => units_any w' p { D with kp := kp' } L hd (by show D.units ≤ _; omega)
  have hcle : u0 ≤ D.units := by
    rw [hu0]
    unfold Ds.count
    split
    · omega
    · split <;> omega
  have HKU : Hid (∀ w' kp', DevM w' p { D with kp := kp' } L → Calls Tryz.prog 102 #[at0 p, .int .i64 ((u0 : Nat) : Int)] w' fun e w2 => e = .returned (.tuple #[]) ∧ ∃ L', Turned w' p L w2 (Ds.keepU { D with kp := kp' } u0 mm) L') := fun w' kp' hd =>
    keepU_any w' p _ L hd u0 mm ⟨ht.le, ht.lt, ht.ge⟩ hum hua hks (Nat.le_trans hcle (by omega)) hp htl
  have HKE : Hid (D.keep bs u0 mm = { Ds.keepU { D with kp := keepW bs 0 D.wr D.kp } u0 mm with wr := [], ap := [], tr := [] }) := rfl
  have hcase : (u < 0 ∧ u0 = 0) ∨ (0 ≤ u ∧ u ≤ ((D.units : Nat) : Int) ∧ u = ((u0 : Nat) : Int)) ∨ (0 ≤ u ∧ ((D.units : Nat) : Int) < u ∧ u0 = D.units) := by
    rw [hu0]
    unfold Ds.count
    split
    · exact .inl ⟨by assumption, rfl⟩
    · split
      · exact .inr (.inl ⟨by omega, by assumption, by omega⟩)
      · exact .inr (.inr ⟨by omega, by omega, rfl⟩)
  clear hu0 ht hum hua hks htl hp hcle
  generalize D.units = un at HUN hcase hunits
  have HH := hide h
  have c6 := h.c6
  have hw' : ∀ x ∈ D.wr, x.b.length = 128 := fun x hx => (hw x hx).len
  have hlw := h.lenW hw'
  rw [← hlw] at c6
  have HW := hide hw
  have HW' := hide hw'
  have HKP := hide hkp
  have HPAT := hide hpat
  have HOFF := hide hoff
  have HT0 := hide (Turned.same h (Below.refl _ w))
  clear h hw hw' hlw hkp hpat hoff
  unfold at0 at *
  go_enter Tryz.func71, Tryz.ntmps71
  go_wp2_with fail
  go_loopw [13] (fun i wr => ∃ j : Nat, j ≤ D.wr.length ∧ i = .int .i64 j ∧ Hid (Turned w p L wr { D with kp := keepW bs 0 (D.wr.take j) D.kp } L)) (fun i _ => D.wr.length - (intOf i).toNat)
  case atStart => exact ⟨0, by omega, rfl, HT0⟩
  case round =>
    obtain ⟨j, hj, rfl, hT⟩ := hrel
    rcases Nat.lt_or_ge j D.wr.length with hlt | hge
    · obtain ⟨g, off, ha, hr⟩ := hT.out.dev.swAt HW'.out j hlt
      obtain ⟨x, hx⟩ : ∃ x, x = D.wr.getD j swD := ⟨_, rfl⟩
      have hmem : x ∈ D.wr := by rw [hx]; simp [List.getD, hlt]
      simp only at hr
      rw [← hx] at hr
      have HLD := hide (sw_load x (HW'.out x hmem) wr g (off + j * 129) hr)
      have HAL := hide (sw_alloc wr)
      have HST := hide (sw_store x (HW'.out x hmem) wr)
      obtain ⟨C, hC⟩ : ∃ C, C = (.cells x.cells.toArray 150 : Obj) := ⟨_, rfl⟩
      rw [← hC] at HST
      have HTK : Hid (D.wr.take (j + 1) = D.wr.take j ++ [x]) := by
        rw [hx]
        show _ = _
        rw [List.take_succ_eq_append_getElem hlt]
        simp [List.getD, hlt]
      have HTA := hide (hT.out.trans (Turned.same hT.out.dev (below_alloc wr C)))
      have HQ : Hid (SwBlk (wr.alloc C) wr.heap.size x) := by
        show SwBlk _ _ _
        rw [hC]
        exact heap_alloc_new wr _
      have hpat2 := (HPAT.out.frm hT.out.frm HOFF.out).frm (Frm.ofBelow (F := L.F p) (below_alloc wr C)) HOFF.out
      have HSZ : Hid ((wr.alloc C).heap.size = wr.heap.size + 1) := by show _ = _; simp
      have HMEM := hide hmem
      have hlx := HW'.out x hmem
      rw [ha]
      have HPL : Hid (bs.length = pl) := HPAT.out.len_
      by_cases h0 : pl = 0
      · subst h0
        have HHIT : Hid (hit bs j = false) := by show hit bs j = false; simp [hit, HPL.out]
        clear hx hmem hC hr ha hpat2 hlx
        go_wp2_with (first | refine wpList_load _ rfl 150 (.tmp 16) rfl _ _ rfl HLD.out ?_ | refine wpList_alloc _ rfl 150 rfl _ _ HAL.out ?_ | refine wpList_store _ rfl rfl 150 (.tmp 7) (.tmp 17) rfl _ _ rfl rfl _ HST.out ?_)
        go_roundw
        case rel =>
          refine ⟨j + 1, by omega, by go_num, ?_⟩
          have e := HTA.out
          have e2 : keepW bs 0 (D.wr.take (j + 1)) D.kp = keepW bs 0 (D.wr.take j) D.kp := by
            rw [HTK.out, keepW_snoc, Nat.zero_add, List.length_take, Nat.min_eq_left hj, HHIT.out]
            rfl
          show Turned _ _ _ _ _ _
          rw [e2]
          exact e
        case measure => simp only [intOf]; omega
      · have hjm : j % pl < pl := Nat.mod_lt _ (by omega)
        obtain ⟨pb, po, hpa, hpc⟩ := hpat2.at_ (j % pl) hjm
        have i0 : (0 : Int) < ((pl : Nat) : Int) := by omega
        have HH2 : Hid (hit bs j = bs.getD (j % pl) false) := by
          show _ = _
          unfold hit
          rw [HPL.out, decide_eq_true (by omega : 0 < pl), Bool.true_and]
        have i1 : ((j % pl : Nat) : Int) < ((pl : Nat) : Int) := by omega
        have hm0 : ¬ pl = 0 := h0
        subst hpa
        cases hbv : bs.getD (j % pl) false
        · rw [hbv] at hpc HH2
          clear hx hmem hC hr ha hpat2 hlx hbv
          go_wp2_with (first | refine wpList_load _ rfl 150 (.tmp 16) rfl _ _ rfl HLD.out ?_ | refine wpList_alloc _ rfl 150 rfl _ _ HAL.out ?_ | refine wpList_store _ rfl rfl 150 (.tmp 7) (.tmp 17) rfl _ _ rfl rfl _ HST.out ?_)
          go_roundw
          case rel =>
            refine ⟨j + 1, by omega, by go_num, ?_⟩
            have e := HTA.out
            have e2 : keepW bs 0 (D.wr.take (j + 1)) D.kp = keepW bs 0 (D.wr.take j) D.kp := by
              rw [HTK.out, keepW_snoc, Nat.zero_add, List.length_take, Nat.min_eq_left hj, HH2.out]
              rfl
            show Turned _ _ _ _ _ _
            rw [e2]
            exact e
          case measure => simp only [intOf]; omega
        · rw [hbv] at hpc HH2
          clear hx hmem hC hr ha hpat2 hlx hbv
          go_wp2_with (first | refine wpList_load _ rfl 150 (.tmp 16) rfl _ _ rfl HLD.out ?_ | refine wpList_alloc _ rfl 150 rfl _ _ HAL.out ?_ | refine wpList_store _ rfl rfl 150 (.tmp 7) (.tmp 17) rfl _ _ rfl rfl _ HST.out ?_)
          refine Pl.region_is (ops := Pl.find 4 ((Tryz.f71.body).getD .skip)) (by kernel_rfl) ?_
          refine keep4 _ p _ L HTA.out.dev wr.heap.size x HQ.out (by
            have e1 := HW.out x HMEM.out
            have e2 : (keepW bs 0 (D.wr.take j) D.kp).length = m := keepW_length bs m _ 0 _ (fun y hy => HW.out y (List.mem_of_mem_take hy)) HKP.out
            show x.Ok (keepW bs 0 (D.wr.take j) D.kp).length
            rw [e2]; exact e1) (by rfl) rfl (by rfl) (by rfl) ?_
          intro uu w2 hT2
          have HT2 := hide (HTA.out.trans hT2)
          clear hT2
          simp only [Act.put, List.setIfInBounds_toArray, List.set_cons_zero, List.set_cons_succ]
          go_wp2_with fail
          go_roundw
          case rel =>
            refine ⟨j + 1, by omega, by go_num, ?_⟩
            have e := HT2.out
            have e2 : keepW bs 0 (D.wr.take (j + 1)) D.kp = splice (keepW bs 0 (D.wr.take j) D.kp) x.at_ x.b := by
              rw [HTK.out, keepW_snoc, Nat.zero_add, List.length_take, Nat.min_eq_left hj, HH2.out]
              rfl
            show Turned _ _ _ _ _ _
            rw [e2]
            exact e
          case measure => simp only [intOf]; omega
    · obtain rfl : j = D.wr.length := by omega
      rcases hcase with ⟨q1, rfl⟩ | ⟨q1, q2, rfl⟩ | ⟨q1, q2, rfl⟩
      · have r1 : ¬ 0 ≤ u := by omega
        have r2 : ¬ (0 : Int) < u := by omega
        have r3 : u ≤ 0 := by omega
        have r4 : max u 0 = 0 := by omega
        have r5 : min (0 : Int) ((un : Nat) : Int) = 0 := by omega
        have r6 : ¬ ((un : Nat) : Int) < 0 := by omega
        go_wp2_with fail
        refine (HUN.out wr _ hT.out.dev).mono ?_
        rintro e w1 ⟨rfl, hb1⟩
        have HT1 := hide (hT.out.trans (Turned.same hT.out.dev hb1))
        clear hb1
        go_wp2_with fail
        refine (HKU.out w1 _ HT1.out.dev).mono ?_
        rintro e w2 ⟨rfl, L2, hT2⟩
        have hT3 := hT2.dev.clr6
        have hT4 := hT3.dev.clr7
        have hT5 := hT4.dev.clr8
        have HT5 := hide (((HT1.out.trans hT2).trans hT3).trans (hT4.trans hT5))
        have e6 := hT2.dev.c6
        have f6 := hT2.dev.fz
        have e7 := hT3.dev.c7
        have f7 := hT3.dev.fz
        have e8 := hT4.dev.c8
        have f8 := hT4.dev.fz
        simp only at e7 e8
        clear hT2 hT3 hT4 hT5
        go_wp2_with fail
        go_end0
        have e := HT5.out
        rw [List.take_length] at e
        rw [HKE.out]
        exact ⟨rfl, _, e⟩
      · have r4 : max ((u0 : Nat) : Int) 0 = ((u0 : Nat) : Int) := by omega
        have r5 : min ((u0 : Nat) : Int) ((un : Nat) : Int) = ((u0 : Nat) : Int) := by omega
        have r6 : u0 ≤ un := by omega
        go_wp2_with fail
        refine (HUN.out wr _ hT.out.dev).mono ?_
        rintro e w1 ⟨rfl, hb1⟩
        have HT1 := hide (hT.out.trans (Turned.same hT.out.dev hb1))
        clear hb1
        go_wp2_with fail
        refine (HKU.out w1 _ HT1.out.dev).mono ?_
        rintro e w2 ⟨rfl, L2, hT2⟩
        have hT3 := hT2.dev.clr6
        have hT4 := hT3.dev.clr7
        have hT5 := hT4.dev.clr8
        have HT5 := hide (((HT1.out.trans hT2).trans hT3).trans (hT4.trans hT5))
        have e6 := hT2.dev.c6
        have f6 := hT2.dev.fz
        have e7 := hT3.dev.c7
        have f7 := hT3.dev.fz
        have e8 := hT4.dev.c8
        have f8 := hT4.dev.fz
        simp only at e7 e8
        clear hT2 hT3 hT4 hT5
        go_wp2_with fail
        go_end0
        have e := HT5.out
        rw [List.take_length] at e
        rw [HKE.out]
        exact ⟨rfl, _, e⟩
      · have r4 : max u 0 = u := by omega
        have r5 : min u ((u0 : Nat) : Int) = ((u0 : Nat) : Int) := by omega
        have r6 : ¬ u ≤ ((u0 : Nat) : Int) := by omega
        go_wp2_with fail
        refine (HUN.out wr _ hT.out.dev).mono ?_
        rintro e w1 ⟨rfl, hb1⟩
        have HT1 := hide (hT.out.trans (Turned.same hT.out.dev hb1))
        clear hb1
        go_wp2_with fail
        refine (HKU.out w1 _ HT1.out.dev).mono ?_
        rintro e w2 ⟨rfl, L2, hT2⟩
        have hT3 := hT2.dev.clr6
        have hT4 := hT3.dev.clr7
        have hT5 := hT4.dev.clr8
        have HT5 := hide (((HT1.out.trans hT2).trans hT3).trans (hT4.trans hT5))
        have e6 := hT2.dev.c6
        have f6 := hT2.dev.fz
        have e7 := hT3.dev.c7
        have f7 := hT3.dev.fz
        have e8 := hT4.dev.c8
        have f8 := hT4.dev.fz
        simp only at e7 e8
        clear hT2 hT3 hT4 hT5
        go_wp2_with fail
        go_end0
        have e := HT5.out
        rw [List.take_length] at e
        rw [HKE.out]
        exact ⟨rfl, _, e⟩

end Go.Proofs.YtpggkfdnpdhkfaaGreat

namespace Go.Proofs.YtpggkfdnpdhkfaaGreat
open Go.RowKit
set_option maxRecDepth 100000

/-- A device whose numbers are in bounds. -/
structure Ds.Sane (D : Ds) (n : Nat) : Prop where
  sp : D.sp.length = 512 * n
  kp : D.kp.length = 512 * n
  n1 : 1 ≤ n
  n2 : n ≤ 64
  wr : ∀ x ∈ D.wr, x.Ok (512 * n)
  wl : D.wr.length ≤ 100000
  ks : D.ks.length + D.ap.length ≤ 1000000
  tl : D.tr.length ≤ 100000
/-- So many units, so many trimmings among them, can be kept. -/
structure Ds.Fit (D : Ds) (u0 mm : Nat) : Prop where
  tr : D.Trims u0 mm
  um : mm ≤ u0
  ua : u0 - mm ≤ D.ap.length
  pl : 0 < mm → D.kb ≤ (D.tr.getD (mm - 1) tmD).place ∧ (D.tr.getD (mm - 1) tmD).place ≤ D.kb + (D.ks.length + (u0 - mm)) ∧ (D.tr.getD (mm - 1) tmD).place ≤ 1000000000000

/-- A field's bytes turn, and the field: to a slice in a block that is not the device's. -/
theorem DevM.swap0 {w w1 : World} {p : Nat} {D : Ds} {L : Dl} (h : DevM w p D L) (f0 : Fld) (s' : Sl) (xs : List Nat) (hf : Frm (fun k => (L.s f0).blk = some k) w w1) (ho : Own 5 1 w1 s' (vals xs)) (hx : Bytes xs)
    (hb : ∀ k, s'.blk = some k → (L.s f0).blk = some k ∨ ¬ L.F p k) (i : Nat) (D' : Ds) (L' : Dl) (he : (dvCells D L).setIfInBounds i s'.val = dvCells D' L') (h0 : L'.s f0 = s' ∧ D'.b f0 = xs)
    (hL : ∀ f, f ≠ f0 → L'.s f = L.s f ∧ D'.b f = D.b f) (hw : L'.wr = L.wr ∧ D'.wr = D.wr) (ht : L'.tr = L.tr ∧ D'.tr = D.tr) : DevM (w1.setCell ⟨p, i, none⟩ s'.val) p D' L' ∧ Frm (L.F p) w (w1.setCell ⟨p, i, none⟩ s'.val) ∧ ∀ k, L'.F p k → L.F p k ∨ s'.blk = some k := by
  have hp1 : w1.heap[p]? = some (.cells (dvCells D L) 91 (0, 0)) := (hf.block p (h.lt (.inl rfl)) (h.ne f0)).trans h.blk
  have hsame := heap_setCell_same w1 p i _ 91 s'.val hp1
  have hoff : ∀ k, k ≠ p → (w1.setCell ⟨p, i, none⟩ s'.val).heap[k]? = w1.heap[k]? := fun k hk => Below.heap_setCell w1 ⟨p, i, none⟩ _ k hk
  have hkp : ∀ k, L.F p k → k ≠ p → (L.s f0).blk ≠ some k → (w1.setCell ⟨p, i, none⟩ s'.val).heap[k]? = w.heap[k]? := fun k hk h1 h2 => (hoff k h1).trans (hf.block k (h.lt hk) h2)
  have hsp : ∀ k, s'.blk = some k → k ≠ p := by
    intro k hk e
    rcases hb k hk with h1 | h1
    · exact h.ne f0 (by rw [← e]; exact h1)
    · exact h1 (.inl e)
  refine ⟨⟨by rw [hsame, he], fun f => ?_, fun f => ?_, fun f g k hf1 hg1 => ?_, ?_, ?_⟩, (hf.mono (fun k _ e => .inr (.inl ⟨f0, e⟩))).setCell (p := ⟨p, i, none⟩) (.inl rfl) _, ?_⟩
  · by_cases e : f = f0
    · subst e
      rw [h0.1, h0.2]
      exact ho.frame fun k hk => hoff k (hsp k hk)
    · rw [(hL f e).1, (hL f e).2]
      refine (h.own f).frame fun k hk => hkp k (.inr (.inl ⟨f, hk⟩)) (fun e' => h.ne f (by rw [← e']; exact hk)) (fun e' => e (h.apart f f0 k hk e'))
  · by_cases e : f = f0
    · subst e; rw [h0.2]; exact hx
    · rw [(hL f e).2]; exact h.byt f
  · by_cases e : f = f0
    · by_cases e2 : g = f0
      · rw [e, e2]
      · rw [e, h0.1] at hf1
        rw [(hL g e2).1] at hg1
        rcases hb k hf1 with h1 | h1
        · rw [e]; exact h.apart f0 g k h1 hg1
        · exact absurd (.inr (.inl ⟨g, hg1⟩)) h1
    · by_cases e2 : g = f0
      · rw [e2, h0.1] at hg1
        rw [(hL f e).1] at hf1
        rcases hb k hg1 with h1 | h1
        · rw [e2]; exact h.apart f f0 k hf1 h1
        · exact absurd (.inr (.inl ⟨f, hf1⟩)) h1
      · rw [(hL f e).1] at hf1
        rw [(hL g e2).1] at hg1
        exact h.apart f g k hf1 hg1
  · rw [hw.1, hw.2]
    exact h.wr.frame fun k hk => hkp k (.inr (.inr (.inl hk))) (fun e => h.neW (by rw [← e]; exact hk)) (h.neWf f0 hk)
  · rw [ht.1, ht.2]
    exact h.tr.frame fun k hk => hkp k (.inr (.inr (.inr hk))) (fun e => h.neT (by rw [← e]; exact hk)) (h.neTf f0 hk)
  · intro k hk
    rcases hk with h1 | ⟨f, h1⟩ | h1 | h1
    · exact .inl (.inl h1)
    · by_cases e : f = f0
      · rw [e, h0.1] at h1
        exact .inr h1
      · rw [(hL f e).1] at h1
        exact .inl (.inr (.inl ⟨f, h1⟩))
    · rw [hw.1] at h1; exact .inl (.inr (.inr (.inl h1)))
    · rw [ht.1] at h1; exact .inl (.inr (.inr (.inr h1)))

theorem Sl.from0 {e : TypeId} {z : Nat} {w : World} {s : Sl} {vs : List Value} (h : Own e z w s vs) : s.from_ 0 = s := by
  obtain ⟨a, len, cap⟩ := s
  unfold Sl.from_ fromA
  simp only [Nat.sub_zero, Sl.mk.injEq, and_true]
  split
  · rfl
  · cases a with
    | none => rfl
    | some x =>
      simp only [Option.map_some, Nat.zero_mul]
      congr 1
theorem splice_all (xs ys : List Nat) (h : xs.length = ys.length) : splice xs 0 ys = ys := by
  unfold splice
  rw [List.take_zero, List.nil_append, Nat.zero_add, ← h, List.drop_length, List.append_nil]

set_option maxHeartbeats 2000000 in
set_option maxRecDepth 100000 in
theorem crash2 (w : World) (p : Nat) (D : Ds) (L : Dl) (h : DevM w p D L) (hlk : D.sp.length = D.kp.length)
    {Q : Exit → Act → World → Prop} {A : Act} (hsz : A.tmps.size = 52) (hdf : A.defers = []) (s0 : A.tmps.getD 0 undef = .pointer (some ⟨p, 0, none⟩))
    (hend : ∀ (u : Nat → Value) w', Turned w p L w' { D with sp := D.kp } L → Q .normal ((((((((((((A).put (some 13) (u 13)).put (some 14) (u 14)).put (some 15) (u 15)).put (some 16) (u 16)).put (some 17) (u 17)).put (some 18) (u 18)).put (some 19) (u 19)).put (some 20) (u 20)).put (some 21) (u 21)).put (some 22) (u 22)).put (some 23) (u 23)) w') :
    (Code.region 2 (Pl.find 2 ((Tryz.f26.body).getD .skip)) true).wp Tryz.prog Q A w := by
  have hl1 : D.sp.length = L.sp.len := h.len .sp
  have hl2 : D.kp.length = L.kp.len := h.len .kp
  have hS0 : (fun (w' : World) => w'.cell? ⟨p, 0, none⟩ = some (.slice L.sp.a L.sp.len L.sp.cap) ∧ w'.cell? ⟨p, 3, none⟩ = some (.slice L.kp.a L.kp.len L.kp.cap)) w.drew := ⟨h.drew.c0, h.drew.c3⟩
  obtain ⟨n1, w1, hr1, ho1, hf1⟩ : ∃ n1 w1, (∀ ty, (Builtin.copy_ #[32, 32] ty #[.slice L.sp.a L.sp.len L.sp.cap, .slice L.kp.a L.kp.len L.kp.cap]).run Tryz.prog w.drew = .ok n1 w1) ∧ Own 5 1 w1 L.sp (vals D.kp) ∧ Frm (fun k => L.sp.blk = some k) w.drew w1 := by
    obtain ⟨n1, w1, e1, e2, e3, e4⟩ := own_copy w.drew L.sp D.sp (h.drew.own .sp) 0 L.kp.a L.kp.len L.kp.cap D.kp D.kp (h.drew.came .kp) (by rw [List.take_of_length_le]; omega) (Nat.zero_le _) 3
    rw [show L.sp.from_ 0 = L.sp from Sl.from0 (h.drew.own .sp)] at e1
    rw [splice_all _ _ hlk] at e2
    exact ⟨n1, w1, fun ty => e1, e2, e3⟩
  have hT := (Turned.same h (below_drew w)).trans (h.drew.over .sp _ hf1 ho1 (h.byt .kp) { D with sp := D.kp } (by rfl) rfl (fun f hf => by cases f <;> first | rfl | exact absurd rfl hf) rfl rfl)
  have hS1 : (fun (w' : World) => w'.cell? ⟨p, 0, none⟩ = some (.slice L.sp.a L.sp.len L.sp.cap) ∧ w'.cell? ⟨p, 3, none⟩ = some (.slice L.kp.a L.kp.len L.kp.cap)) w1 := ⟨hT.dev.c0, hT.dev.c3⟩
  have hA := Pl.At.same (v := .pointer (some ⟨p, 0, none⟩)) (d := 0) (Pl.At.here hsz hdf) s0
  refine Pl.H.start (S := fun w' => w'.cell? ⟨p, 0, none⟩ = some (.slice L.sp.a L.sp.len L.sp.cap) ∧ w'.cell? ⟨p, 3, none⟩ = some (.slice L.kp.a L.kp.len L.kp.cap)) (by kernel_rfl) hA hS0 ?_
  rw [show (Pl.find 2 ((Tryz.f26.body).getD .skip)).size = 11 by kernel_rfl]
  refine Pl.H.take 0 13 (.pointer (some ⟨p, 0, none⟩)) (by kernel_rfl) (by kernel_rfl) (by kernel_rfl) (Pl.free 0 (by kernel_rfl)) (Pl.move 0 (.tmp 0) (by kernel_rfl) (by decide)) hS0 ?_
  refine Pl.H.take 1 14 (.pointer (some ⟨p, 0, none⟩)) (by kernel_rfl) (by kernel_rfl) (by kernel_rfl) (Pl.free 1 (by kernel_rfl)) (Pl.nilc 1 (.tmp 13) _ (by kernel_rfl) (by decide) rfl) hS0 ?_
  refine Pl.H.take 2 15 (.pointer (some ⟨p, 0, none⟩)) (by kernel_rfl) (by kernel_rfl) (by kernel_rfl) (Pl.free 2 (by kernel_rfl)) (Pl.field 2 91 (.tmp 14) 0 _ (by kernel_rfl) (by decide) (fdDev0_0 p)) hS0 ?_
  refine Pl.H.take 3 16 (.pointer (some ⟨p, 0, none⟩)) (by kernel_rfl) (by kernel_rfl) (by kernel_rfl) (Pl.free 3 (by kernel_rfl)) (Pl.field 3 87 (.tmp 15) 0 _ (by kernel_rfl) (by decide) (fdDk0_0 p)) hS0 ?_
  refine Pl.H.take 4 17 (.slice L.sp.a L.sp.len L.sp.cap) (by kernel_rfl) (by kernel_rfl) (by kernel_rfl) (Pl.free 4 (by kernel_rfl)) (Pl.load 4 32 (.tmp 16) _ (by kernel_rfl) (by decide) (fun w' hS => ldBs p 0 _ _ _ w' hS.1)) hS0 ?_
  refine Pl.H.take 5 18 (.pointer (some ⟨p, 0, none⟩)) (by kernel_rfl) (by kernel_rfl) (by kernel_rfl) (Pl.free 5 (by kernel_rfl)) (Pl.move 5 (.tmp 0) (by kernel_rfl) (by decide)) hS0 ?_
  refine Pl.H.take 6 19 (.pointer (some ⟨p, 0, none⟩)) (by kernel_rfl) (by kernel_rfl) (by kernel_rfl) (Pl.free 6 (by kernel_rfl)) (Pl.nilc 6 (.tmp 18) _ (by kernel_rfl) (by decide) rfl) hS0 ?_
  refine Pl.H.take 7 20 (.pointer (some ⟨p, 3, none⟩)) (by kernel_rfl) (by kernel_rfl) (by kernel_rfl) (Pl.free 7 (by kernel_rfl)) (Pl.field 7 91 (.tmp 19) 1 _ (by kernel_rfl) (by decide) (fdDev1_0 p)) hS0 ?_
  refine Pl.H.take 8 21 (.pointer (some ⟨p, 3, none⟩)) (by kernel_rfl) (by kernel_rfl) (by kernel_rfl) (Pl.free 8 (by kernel_rfl)) (Pl.field 8 87 (.tmp 20) 0 _ (by kernel_rfl) (by decide) (fdDk0_3 p)) hS0 ?_
  refine Pl.H.take 9 22 (.slice L.kp.a L.kp.len L.kp.cap) (by kernel_rfl) (by kernel_rfl) (by kernel_rfl) (Pl.free 9 (by kernel_rfl)) (Pl.load 9 32 (.tmp 21) _ (by kernel_rfl) (by decide) (fun w' hS => ldBs p 3 _ _ _ w' hS.2)) hS0 ?_
  refine Pl.H.make 10 23 (n1) w1 (by kernel_rfl) (by kernel_rfl) (by kernel_rfl) (Pl.free 10 (by kernel_rfl)) (Pl.copyV 10 32 (.tmp 17) (.tmp 22) _ _ (by kernel_rfl) (by decide) (by decide) hr1) hS1 ?_
  refine Pl.H.done (by kernel_rfl) (fun A' hA' => ?_)
  rw [Pl.At.ext hA' (((((((((((hA.put 13 _).put 14 _).put 15 _).put 16 _).put 17 _).put 18 _).put 19 _).put 20 _).put 21 _).put 22 _).put 23 _)]
  exact hend (fun d => if d = 13 then .pointer (some ⟨p, 0, none⟩) else if d = 14 then .pointer (some ⟨p, 0, none⟩) else if d = 15 then .pointer (some ⟨p, 0, none⟩) else if d = 16 then .pointer (some ⟨p, 0, none⟩) else if d = 17 then .slice L.sp.a L.sp.len L.sp.cap else if d = 18 then .pointer (some ⟨p, 0, none⟩) else if d = 19 then .pointer (some ⟨p, 0, none⟩) else if d = 20 then .pointer (some ⟨p, 3, none⟩) else if d = 21 then .pointer (some ⟨p, 3, none⟩) else if d = 22 then .slice L.kp.a L.kp.len L.kp.cap else if d = 23 then n1 else undef) _ hT

set_option maxHeartbeats 2000000 in
set_option maxRecDepth 100000 in
theorem crash3 (w : World) (p : Nat) (D : Ds) (L : Dl) (h : DevM w p D L) (hm : L.ks.len ≤ 1000000)
    {Q : Exit → Act → World → Prop} {A : Act} (hsz : A.tmps.size = 52) (hdf : A.defers = []) (s0 : A.tmps.getD 0 undef = .pointer (some ⟨p, 0, none⟩))
    (hend : ∀ (u : Nat → Value) w', (∃ L', Turned w p L w' { D with sb := D.kb, ss := D.ks } L') → Q .normal ((((((((((((((((((((A).put (some 24) (u 24)).put (some 25) (u 25)).put (some 26) (u 26)).put (some 27) (u 27)).put (some 28) (u 28)).put (some 29) (u 29)).put (some 30) (u 30)).put (some 31) (u 31)).put (some 32) (u 32)).put (some 33) (u 33)).put (some 34) (u 34)).put (some 35) (u 35)).put (some 36) (u 36)).put (some 37) (u 37)).put (some 38) (u 38)).put (some 39) (u 39)).put (some 40) (u 40)).put (some 41) (u 41)).put (some 42) (u 42)) w') :
    (Code.region 3 (Pl.find 3 ((Tryz.f26.body).getD .skip)) true).wp Tryz.prog Q A w := by
  have hA := Pl.At.same (v := .pointer (some ⟨p, 0, none⟩)) (d := 0) (Pl.At.here hsz hdf) s0
  refine Pl.H.start (S := fun w' => w'.cell? ⟨p, 4, none⟩ = some (.int .i64 ((D.kb : Nat) : Int)) ∧ w'.cell? ⟨p, 5, none⟩ = some (.slice L.ks.a L.ks.len L.ks.cap)) (by kernel_rfl) hA (show (fun (w' : World) => w'.cell? ⟨p, 4, none⟩ = some (.int .i64 ((D.kb : Nat) : Int)) ∧ w'.cell? ⟨p, 5, none⟩ = some (.slice L.ks.a L.ks.len L.ks.cap)) w.drew from ⟨h.drew.c4, h.drew.c5⟩) ?_
  rw [show (Pl.find 3 ((Tryz.f26.body).getD .skip)).size = 21 by kernel_rfl]
  refine Pl.H.take 0 24 (.pointer (some ⟨p, 0, none⟩)) (by kernel_rfl) (by kernel_rfl) (by kernel_rfl) (Pl.free 0 (by kernel_rfl)) (Pl.move 0 (.tmp 0) (by kernel_rfl) (by decide)) (show (fun (w' : World) => w'.cell? ⟨p, 4, none⟩ = some (.int .i64 ((D.kb : Nat) : Int)) ∧ w'.cell? ⟨p, 5, none⟩ = some (.slice L.ks.a L.ks.len L.ks.cap)) w.drew from ⟨h.drew.c4, h.drew.c5⟩) ?_
  refine Pl.H.take 1 25 (.pointer (some ⟨p, 0, none⟩)) (by kernel_rfl) (by kernel_rfl) (by kernel_rfl) (Pl.free 1 (by kernel_rfl)) (Pl.move 1 (.tmp 0) (by kernel_rfl) (by decide)) (show (fun (w' : World) => w'.cell? ⟨p, 4, none⟩ = some (.int .i64 ((D.kb : Nat) : Int)) ∧ w'.cell? ⟨p, 5, none⟩ = some (.slice L.ks.a L.ks.len L.ks.cap)) w.drew from ⟨h.drew.c4, h.drew.c5⟩) ?_
  refine Pl.H.take 2 26 (.pointer (some ⟨p, 0, none⟩)) (by kernel_rfl) (by kernel_rfl) (by kernel_rfl) (Pl.free 2 (by kernel_rfl)) (Pl.move 2 (.tmp 0) (by kernel_rfl) (by decide)) (show (fun (w' : World) => w'.cell? ⟨p, 4, none⟩ = some (.int .i64 ((D.kb : Nat) : Int)) ∧ w'.cell? ⟨p, 5, none⟩ = some (.slice L.ks.a L.ks.len L.ks.cap)) w.drew from ⟨h.drew.c4, h.drew.c5⟩) ?_
  refine Pl.H.take 3 27 (.pointer (some ⟨p, 0, none⟩)) (by kernel_rfl) (by kernel_rfl) (by kernel_rfl) (Pl.free 3 (by kernel_rfl)) (Pl.nilc 3 (.tmp 26) _ (by kernel_rfl) (by decide) rfl) (show (fun (w' : World) => w'.cell? ⟨p, 4, none⟩ = some (.int .i64 ((D.kb : Nat) : Int)) ∧ w'.cell? ⟨p, 5, none⟩ = some (.slice L.ks.a L.ks.len L.ks.cap)) w.drew from ⟨h.drew.c4, h.drew.c5⟩) ?_
  refine Pl.H.take 4 28 (.pointer (some ⟨p, 3, none⟩)) (by kernel_rfl) (by kernel_rfl) (by kernel_rfl) (Pl.free 4 (by kernel_rfl)) (Pl.field 4 91 (.tmp 27) 1 _ (by kernel_rfl) (by decide) (fdDev1_0 p)) (show (fun (w' : World) => w'.cell? ⟨p, 4, none⟩ = some (.int .i64 ((D.kb : Nat) : Int)) ∧ w'.cell? ⟨p, 5, none⟩ = some (.slice L.ks.a L.ks.len L.ks.cap)) w.drew from ⟨h.drew.c4, h.drew.c5⟩) ?_
  refine Pl.H.take 5 29 (.pointer (some ⟨p, 4, none⟩)) (by kernel_rfl) (by kernel_rfl) (by kernel_rfl) (Pl.free 5 (by kernel_rfl)) (Pl.field 5 87 (.tmp 28) 1 _ (by kernel_rfl) (by decide) (fdDk1_3 p)) (show (fun (w' : World) => w'.cell? ⟨p, 4, none⟩ = some (.int .i64 ((D.kb : Nat) : Int)) ∧ w'.cell? ⟨p, 5, none⟩ = some (.slice L.ks.a L.ks.len L.ks.cap)) w.drew from ⟨h.drew.c4, h.drew.c5⟩) ?_
  refine Pl.H.take 6 30 (.int .i64 ((D.kb : Nat) : Int)) (by kernel_rfl) (by kernel_rfl) (by kernel_rfl) (Pl.free 6 (by kernel_rfl)) (Pl.load 6 3 (.tmp 29) _ (by kernel_rfl) (by decide) (fun w' hS => ldInt p 4 _ w' hS.1)) (show (fun (w' : World) => w'.cell? ⟨p, 4, none⟩ = some (.int .i64 ((D.kb : Nat) : Int)) ∧ w'.cell? ⟨p, 5, none⟩ = some (.slice L.ks.a L.ks.len L.ks.cap)) w.drew from ⟨h.drew.c4, h.drew.c5⟩) ?_
  refine Pl.H.take 7 31 (.pointer (some ⟨p, 0, none⟩)) (by kernel_rfl) (by kernel_rfl) (by kernel_rfl) (Pl.free 7 (by kernel_rfl)) (Pl.move 7 (.tmp 0) (by kernel_rfl) (by decide)) (show (fun (w' : World) => w'.cell? ⟨p, 4, none⟩ = some (.int .i64 ((D.kb : Nat) : Int)) ∧ w'.cell? ⟨p, 5, none⟩ = some (.slice L.ks.a L.ks.len L.ks.cap)) w.drew from ⟨h.drew.c4, h.drew.c5⟩) ?_
  refine Pl.H.take 8 32 (.pointer (some ⟨p, 0, none⟩)) (by kernel_rfl) (by kernel_rfl) (by kernel_rfl) (Pl.free 8 (by kernel_rfl)) (Pl.nilc 8 (.tmp 31) _ (by kernel_rfl) (by decide) rfl) (show (fun (w' : World) => w'.cell? ⟨p, 4, none⟩ = some (.int .i64 ((D.kb : Nat) : Int)) ∧ w'.cell? ⟨p, 5, none⟩ = some (.slice L.ks.a L.ks.len L.ks.cap)) w.drew from ⟨h.drew.c4, h.drew.c5⟩) ?_
  refine Pl.H.take 9 33 (.pointer (some ⟨p, 3, none⟩)) (by kernel_rfl) (by kernel_rfl) (by kernel_rfl) (Pl.free 9 (by kernel_rfl)) (Pl.field 9 91 (.tmp 32) 1 _ (by kernel_rfl) (by decide) (fdDev1_0 p)) (show (fun (w' : World) => w'.cell? ⟨p, 4, none⟩ = some (.int .i64 ((D.kb : Nat) : Int)) ∧ w'.cell? ⟨p, 5, none⟩ = some (.slice L.ks.a L.ks.len L.ks.cap)) w.drew from ⟨h.drew.c4, h.drew.c5⟩) ?_
  refine Pl.H.take 10 34 (.pointer (some ⟨p, 5, none⟩)) (by kernel_rfl) (by kernel_rfl) (by kernel_rfl) (Pl.free 10 (by kernel_rfl)) (Pl.field 10 87 (.tmp 33) 2 _ (by kernel_rfl) (by decide) (fdDk2_3 p)) (show (fun (w' : World) => w'.cell? ⟨p, 4, none⟩ = some (.int .i64 ((D.kb : Nat) : Int)) ∧ w'.cell? ⟨p, 5, none⟩ = some (.slice L.ks.a L.ks.len L.ks.cap)) w.drew from ⟨h.drew.c4, h.drew.c5⟩) ?_
  refine Pl.H.take 11 35 (.slice L.ks.a L.ks.len L.ks.cap) (by kernel_rfl) (by kernel_rfl) (by kernel_rfl) (Pl.free 11 (by kernel_rfl)) (Pl.load 11 32 (.tmp 34) _ (by kernel_rfl) (by decide) (fun w' hS => ldBs p 5 _ _ _ w' hS.2)) (show (fun (w' : World) => w'.cell? ⟨p, 4, none⟩ = some (.int .i64 ((D.kb : Nat) : Int)) ∧ w'.cell? ⟨p, 5, none⟩ = some (.slice L.ks.a L.ks.len L.ks.cap)) w.drew from ⟨h.drew.c4, h.drew.c5⟩) ?_
  refine Pl.H.call 12 36 72 [(.tmp 35)] #[32] (by kernel_rfl) (by kernel_rfl) (by kernel_rfl) (Pl.free 12 (by kernel_rfl)) (by kernel_rfl) (by decide) entClone (Calls.mono (clone_any w.drew _ _ _ _ (h.drew.came .ks) hm) ?_)
  rintro e w2 ⟨hb2, s2, rfl, ho2, hl2, hk2⟩
  have hd2 := h.drew.keep hb2
  have hT3 := (Turned.same h ((below_drew w).trans hb2)).trans (Turned.cell (hd2.turn { D with sb := D.kb } L 1 (.int .i64 ((D.kb : Nat) : Int)) (by rfl) (fun f => by cases f <;> exact ⟨rfl, rfl⟩) ⟨rfl, rfl⟩ ⟨rfl, rfl⟩) ((Frm.refl (fun k => k = p) _).setCell (p := ⟨p, 1, none⟩) rfl _))
  have hsp : ∀ k, s2.blk = some k → k ≠ p := fun k hk e => by have h1 := hk2 k hk; have h2 := h.lt (L := L) (k := p) (.inl rfl); have h3 : w.drew.heap.size = w.heap.size := rfl; omega
  obtain ⟨g1, g2, g3⟩ := hT3.dev.swap0 .ss s2 D.ks (Frm.refl _ _) (ho2.frame fun k hk => Below.heap_setCell w2 ⟨p, 1, none⟩ _ k (hsp k hk)) (h.byt .ks) (fun k hk => .inr (fun hF => by have h1 := h.lt hF; have h2 := hk2 k hk; have h3 : w.drew.heap.size = w.heap.size := rfl; omega)) 2 { D with sb := D.kb, ss := D.ks } { L with ss := s2 } (by rfl) ⟨rfl, rfl⟩ (fun f hf => by cases f <;> first | exact ⟨rfl, rfl⟩ | exact absurd rfl hf) ⟨rfl, rfl⟩ ⟨rfl, rfl⟩
  have hT4 : Turned w p L _ _ _ := ⟨g1, hT3.frm.trans g2 (fun _ _ e => e), fun k hk => (g3 k hk).imp id (fun e => hk2 k e)⟩
  have hS2 : (fun (w' : World) => w'.cell? ⟨p, 4, none⟩ = some (.int .i64 ((D.kb : Nat) : Int)) ∧ w'.cell? ⟨p, 5, none⟩ = some (.slice L.ks.a L.ks.len L.ks.cap)) w2 := ⟨hd2.c4, hd2.c5⟩
  have hS3 : (fun (w' : World) => w'.cell? ⟨p, 4, none⟩ = some (.int .i64 ((D.kb : Nat) : Int)) ∧ w'.cell? ⟨p, 5, none⟩ = some (.slice L.ks.a L.ks.len L.ks.cap)) (w2.setCell ⟨p, 1, none⟩ (.int .i64 ((D.kb : Nat) : Int))) := ⟨hT3.dev.c4, hT3.dev.c5⟩
  have hS4 : (fun (w' : World) => w'.cell? ⟨p, 4, none⟩ = some (.int .i64 ((D.kb : Nat) : Int)) ∧ w'.cell? ⟨p, 5, none⟩ = some (.slice L.ks.a L.ks.len L.ks.cap)) ((w2.setCell ⟨p, 1, none⟩ (.int .i64 ((D.kb : Nat) : Int))).setCell ⟨p, 2, none⟩ s2.val) := ⟨hT4.dev.c4, hT4.dev.c5⟩
  refine ⟨s2.val, rfl, hS2, ?_⟩
  refine Pl.H.take 13 37 (.pointer (some ⟨p, 0, none⟩)) (by kernel_rfl) (by kernel_rfl) (by kernel_rfl) (Pl.free 13 (by kernel_rfl)) (Pl.nilc 13 (.tmp 24) _ (by kernel_rfl) (by decide) rfl) hS2 ?_
  refine Pl.H.take 14 38 (.pointer (some ⟨p, 0, none⟩)) (by kernel_rfl) (by kernel_rfl) (by kernel_rfl) (Pl.free 14 (by kernel_rfl)) (Pl.field 14 91 (.tmp 37) 0 _ (by kernel_rfl) (by decide) (fdDev0_0 p)) hS2 ?_
  refine Pl.H.take 15 39 (.pointer (some ⟨p, 1, none⟩)) (by kernel_rfl) (by kernel_rfl) (by kernel_rfl) (Pl.free 15 (by kernel_rfl)) (Pl.field 15 87 (.tmp 38) 1 _ (by kernel_rfl) (by decide) (fdDk1_0 p)) hS2 ?_
  refine Pl.H.store 16 (w2.setCell ⟨p, 1, none⟩ (.int .i64 ((D.kb : Nat) : Int))) (by kernel_rfl) (by kernel_rfl) (by kernel_rfl) (Pl.free 16 (by kernel_rfl)) (Pl.storeV 16 3 (.tmp 39) (.tmp 30) _ (by kernel_rfl) (by decide) (by decide) (stInt p 1 _ _ ⟨_, rfl⟩ w2 hd2.c1 (hd2.fz 1))) hS3 ?_
  refine Pl.H.take 17 40 (.pointer (some ⟨p, 0, none⟩)) (by kernel_rfl) (by kernel_rfl) (by kernel_rfl) (Pl.free 17 (by kernel_rfl)) (Pl.nilc 17 (.tmp 25) _ (by kernel_rfl) (by decide) rfl) hS3 ?_
  refine Pl.H.take 18 41 (.pointer (some ⟨p, 0, none⟩)) (by kernel_rfl) (by kernel_rfl) (by kernel_rfl) (Pl.free 18 (by kernel_rfl)) (Pl.field 18 91 (.tmp 40) 0 _ (by kernel_rfl) (by decide) (fdDev0_0 p)) hS3 ?_
  refine Pl.H.take 19 42 (.pointer (some ⟨p, 2, none⟩)) (by kernel_rfl) (by kernel_rfl) (by kernel_rfl) (Pl.free 19 (by kernel_rfl)) (Pl.field 19 87 (.tmp 41) 2 _ (by kernel_rfl) (by decide) (fdDk2_0 p)) hS3 ?_
  refine Pl.H.store 20 ((w2.setCell ⟨p, 1, none⟩ (.int .i64 ((D.kb : Nat) : Int))).setCell ⟨p, 2, none⟩ s2.val) (by kernel_rfl) (by kernel_rfl) (by kernel_rfl) (Pl.free 20 (by kernel_rfl)) (Pl.storeV 20 32 (.tmp 42) (.tmp 36) _ (by kernel_rfl) (by decide) (by decide) (stBs p 2 _ _ _ hT3.dev.c2 (hT3.dev.fz 2))) hS4 ?_
  refine Pl.H.done (by kernel_rfl) (fun A' hA' => ?_)
  rw [Pl.At.ext hA' (((((((((((((((((((hA.put 24 _).put 25 _).put 26 _).put 27 _).put 28 _).put 29 _).put 30 _).put 31 _).put 32 _).put 33 _).put 34 _).put 35 _).put 36 _).put 37 _).put 38 _).put 39 _).put 40 _).put 41 _).put 42 _)]
  exact hend (fun d => if d = 24 then .pointer (some ⟨p, 0, none⟩) else if d = 25 then .pointer (some ⟨p, 0, none⟩) else if d = 26 then .pointer (some ⟨p, 0, none⟩) else if d = 27 then .pointer (some ⟨p, 0, none⟩) else if d = 28 then .pointer (some ⟨p, 3, none⟩) else if d = 29 then .pointer (some ⟨p, 4, none⟩) else if d = 30 then .int .i64 ((D.kb : Nat) : Int) else if d = 31 then .pointer (some ⟨p, 0, none⟩) else if d = 32 then .pointer (some ⟨p, 0, none⟩) else if d = 33 then .pointer (some ⟨p, 3, none⟩) else if d = 34 then .pointer (some ⟨p, 5, none⟩) else if d = 35 then .slice L.ks.a L.ks.len L.ks.cap else if d = 36 then s2.val else if d = 37 then .pointer (some ⟨p, 0, none⟩) else if d = 38 then .pointer (some ⟨p, 0, none⟩) else if d = 39 then .pointer (some ⟨p, 1, none⟩) else if d = 40 then .pointer (some ⟨p, 0, none⟩) else if d = 41 then .pointer (some ⟨p, 0, none⟩) else if d = 42 then .pointer (some ⟨p, 2, none⟩) else undef) _ ⟨_, hT4⟩

theorem Ds.keep_eqs (D : Ds) (bs : List Bool) (u0 mm : Nat) : (D.keep bs u0 mm).sp = D.sp ∧ (D.keep bs u0 mm).kp = keepW bs 0 D.wr D.kp ∧ (D.keep bs u0 mm).ks.length ≤ D.ks.length + D.ap.length := by
  unfold Ds.keep Ds.keepU
  split
  · refine ⟨rfl, rfl, ?_⟩
    simp only [List.length_append, List.length_take]
    omega
  · refine ⟨rfl, rfl, ?_⟩
    simp only [List.length_drop, List.length_append, List.length_take]
    omega
theorem Ds.count_units (D : Ds) : D.count ((D.units : Nat) : Int) = D.units := by
  unfold Ds.count
  rw [if_neg (by omega), if_pos (Int.le_refl _)]
  omega
/-- A device behind Sync. -/
def Ds.sync (D : Ds) : Ds := if D.gone = true then D else D.keep [true] D.units D.tr.length
/-- A device behind a crash. -/
def Ds.crash (D : Ds) (bs : List Bool) (u0 mm : Nat) : Ds := { D.keep bs u0 mm with sp := (D.keep bs u0 mm).kp, sb := (D.keep bs u0 mm).kb, ss := (D.keep bs u0 mm).ks, armed := false, left := 0, gone := false }

theorem keep_sane (w : World) (p : Nat) (D : Ds) (L : Dl) (h : DevM w p D L) (n : Nat) (hs : D.Sane n) (pa : Option Addr) (pl pc : Nat) (bs : List Bool) (hpat : Pat w pa pl bs) (hoff : Off (L.F p) pa pl) (hpl : pl ≤ 9223372036854775807) (u : Int) (u0 mm : Nat) (hu0 : u0 = D.count u) (hf : D.Fit u0 mm) :
    Calls Tryz.prog 71 #[at0 p, .slice pa pl pc, .int .i64 u] w fun e w' => e = .returned (.tuple #[]) ∧ ∃ L', Turned w p L w' (D.keep bs u0 mm) L' :=
  keep_any w p D L h (512 * n) hs.kp hs.wr (Nat.le_trans hs.wl (by omega)) pa pl pc bs hpat hoff hpl u u0 mm hu0 hf.tr hf.um hf.ua hs.ks hs.tl hf.pl

set_option maxHeartbeats 4000000 in
theorem sync_any (w : World) (p : Nat) (D : Ds) (L : Dl) (h : DevM w p D L) (n : Nat) (hs : D.Sane n) (hf : D.gone = false → D.Fit D.units D.tr.length) :
    Calls Tryz.prog 55 #[at0 p] w fun e w' => e = .returned (.tuple #[]) ∧ ∃ L', Turned w p L w' D.sync L' := by
  have HG := hide (given_any w p D L h n hs.sp hs.n2 hs.n1)
  have c11 := h.c11
  cases hg : D.gone
  · have hF := hf hg
    have hun : D.units ≤ 1000000000 := by have := hs.ks; have := hs.tl; unfold Ds.units; omega
    have e1 : D.sync = D.keep [true] D.units D.tr.length := by unfold Ds.sync; rw [if_neg (by rw [hg]; decide)]
    rw [e1]
    have hA := below_alloc w (.cells #[.bool true] 4)
    have hT1 := Turned.same h hA
    have hpat : Pat (w.alloc (.cells #[.bool true] 4)) (some ⟨w.heap.size, 0, none⟩) 1 [true] := by
      refine ⟨rfl, fun i hi => ⟨w.heap.size, 0, rfl, ?_⟩⟩
      rw [Addr.cell0 (heap_alloc_new w _)]
      obtain rfl : i = 0 := by omega
      rfl
    have hoff : Off (L.F p) (some ⟨w.heap.size, 0, none⟩) 1 := by
      intro ad e _ hk
      cases e
      have := h.lt hk
      simp only at this
      omega
    have HT1 := hide hT1
    have HUN := hide (units_any (w.alloc (.cells #[.bool true] 4)) p D L hT1.dev hun)
    have HK : Hid (∀ w', Below (w.alloc (.cells #[.bool true] 4)).heap.size (w.alloc (.cells #[.bool true] 4)) w' → Calls Tryz.prog 71 #[at0 p, .slice (some ⟨w.heap.size, 0, none⟩) 1 1, .int .i64 ((D.units : Nat) : Int)] w' fun e w2 => e = .returned (.tuple #[]) ∧ ∃ L', Turned w' p L w2 (D.keep [true] D.units D.tr.length) L') := fun w' hb =>
      keep_sane w' p D L (hT1.dev.keep hb) n hs _ _ 1 [true] (hpat.frm (Frm.ofBelow (F := L.F p) hb) hoff) hoff (by omega) _ _ _ D.count_units.symm hF
    rw [hg] at c11
    clear h hs hf hF hun e1 hA hT1 hpat hoff hg
    generalize D.units = un at *
    generalize D.keep [true] un D.tr.length = DK at *
    unfold at0 at *
    go_enter Tryz.func55, Tryz.ntmps55
    go_wp2_with fail
    refine HG.out.mono ?_
    rintro e w' ⟨rfl, hw⟩
    obtain rfl := hw.symm
    go_wp2_with fail
    refine HUN.out.mono ?_
    rintro e w1 ⟨rfl, hb1⟩
    have HB1 := hide hb1
    clear hb1
    go_wp2_with fail
    refine (HK.out w1 HB1.out).mono ?_
    rintro e w2 ⟨rfl, L2, hT2⟩
    have HT2 := hide ((HT1.out.trans (Turned.same HT1.out.dev HB1.out)).trans hT2)
    clear hT2
    go_wp2_with fail
    go_end0
    exact ⟨rfl, L2, HT2.out⟩
  · have e1 : D.sync = D := by unfold Ds.sync; rw [if_pos hg]
    rw [e1]
    have HT := hide (Turned.same h (Below.refl _ w))
    rw [hg] at c11
    clear h hs hf e1 hg
    unfold at0 at *
    go_enter Tryz.func55, Tryz.ntmps55
    go_wp2_with fail
    refine HG.out.mono ?_
    rintro e w' ⟨rfl, hw⟩
    obtain rfl := hw.symm
    go_wp2_with fail
    refine bodyPost_ret (results_none rfl _ _ _) rfl ?_
    exact ⟨rfl, L, HT.out⟩

set_option maxHeartbeats 4000000 in
theorem crash_any (w : World) (p : Nat) (D : Ds) (L : Dl) (h : DevM w p D L) (n : Nat) (hs : D.Sane n) (pa : Option Addr) (pl pc : Nat) (bs : List Bool) (hpat : Pat w pa pl bs) (hoff : Off (L.F p) pa pl) (hpl : pl ≤ 9223372036854775807) (u : Int) (u0 mm : Nat) (hu0 : u0 = D.count u) (hf : D.Fit u0 mm) :
    Calls Tryz.prog 26 #[at0 p, .slice pa pl pc, .int .i64 u] w fun e w' => e = .returned (.tuple #[]) ∧ ∃ L', Turned w p L w' (D.crash bs u0 mm) L' := by
  have HG := hide (given_any w p D L h n hs.sp hs.n2 hs.n1)
  have HK := hide (keep_sane w p D L h n hs pa pl pc bs hpat hoff hpl u u0 mm hu0 hf)
  obtain ⟨q1, q2, q3⟩ := D.keep_eqs bs u0 mm
  have hlk : (D.keep bs u0 mm).sp.length = (D.keep bs u0 mm).kp.length := by
    rw [q1, q2, hs.sp, keepW_length bs (512 * n) _ _ _ hs.wr hs.kp]
  have hks : (D.keep bs u0 mm).ks.length ≤ 1000000 := Nat.le_trans q3 hs.ks
  have HE : Hid (D.crash bs u0 mm = { D.keep bs u0 mm with sp := (D.keep bs u0 mm).kp, sb := (D.keep bs u0 mm).kb, ss := (D.keep bs u0 mm).ks, armed := false, left := 0, gone := false }) := rfl
  generalize D.keep bs u0 mm = E at *
  have HLK := hide hlk
  have HKS := hide hks
  clear h hs hpat hoff hu0 hf q1 q2 q3 hlk hks
  unfold at0 at *
  go_enter Tryz.func26, Tryz.ntmps26
  go_wp2_with fail
  refine HG.out.mono ?_
  rintro e w' ⟨rfl, hw⟩
  obtain rfl := hw.symm
  go_wp2_with fail
  refine HK.out.mono ?_
  rintro e w1 ⟨rfl, L1, hT1⟩
  have HT1 := hide hT1
  clear hT1
  go_wp2_with fail
  refine Pl.region_is (ops := Pl.find 2 ((Tryz.f26.body).getD .skip)) (by kernel_rfl) ?_
  refine crash2 w1 p _ L1 HT1.out.dev HLK.out (by rfl) rfl (by rfl) ?_
  intro u2 w2 hT2
  have HT2 := hide (HT1.out.trans hT2)
  clear hT2
  simp only [Act.put, List.setIfInBounds_toArray, List.set_cons_zero, List.set_cons_succ]
  go_wp2_with fail
  refine Pl.region_is (ops := Pl.find 3 ((Tryz.f26.body).getD .skip)) (by kernel_rfl) ?_
  refine crash3 w2 p _ L1 HT2.out.dev (by have e1 := HT2.out.dev.len .ks; have e2 := HKS.out; have e3 : E.ks.length = L1.ks.len := e1; omega) (by rfl) rfl (by rfl) ?_
  rintro u3 w3 ⟨L3, hT3⟩
  have hd4 := hT3.dev.setArmed false
  have hd5 := hd4.setLeft 0
  have hd6 := hd5.setGone false
  have HT6 := hide ((HT2.out.trans hT3).trans (Turned.cell hd6 ((((Frm.refl (fun k => k = p) _).setCell (p := ⟨p, 9, none⟩) rfl _).setCell (p := ⟨p, 10, none⟩) rfl _).setCell (p := ⟨p, 11, none⟩) rfl _)))
  have c9 := hT3.dev.c9
  have f9 := hT3.dev.fz
  have c10 := hd4.c10
  have f10 := hd4.fz
  have c11 := hd5.c11
  have f11 := hd5.fz
  simp only at c9 c10 c11
  clear hT3 hd4 hd5 hd6
  simp only [Act.put, List.setIfInBounds_toArray, List.set_cons_zero, List.set_cons_succ]
  go_wp2_with fail
  go_end0
  rw [HE.out]
  exact ⟨rfl, L3, HT6.out⟩

end Go.Proofs.YtpggkfdnpdhkfaaGreat

namespace Go.Proofs.YtpggkfdnpdhkfaaGreat
open Go.RowKit
set_option maxRecDepth 100000

theorem made_bytes (n : Nat) : madeCells (Value.int .u8 0).cells (n * 1) = (vals (List.replicate n 0)).toArray := by
  apply Array.ext
  · simp [size_madeCells, vals]
  · intro i h1 h2
    simp [madeCells, vals, Value.cells, Nat.mod_one]
theorem make_bytes (n : Nat) (hn : n ≤ 10000000) (w : World) : (Instr.makeSlice 32 (.int .i64 (n : Nat)) (.int .i64 (n : Nat))).run Tryz.prog w = .ok (.slice (some ⟨w.heap.size, 0, none⟩) n n) (w.alloc (.cells (vals (List.replicate n 0)).toArray 5)) := by
  obtain ⟨i0, hi, hz0, hz1, hz2⟩ := info_parts info5
  have h := run_makeSlice (P := Tryz.prog) w 32 5 i0 (.int .u8 0) Tryz.underlying32 hi hz0 .i64 .i64 (n : Nat) (n : Nat) (by omega) (by omega) (by rw [hz1]; simp; omega) (by rw [hz2]; simp; omega) (by omega)
  rw [hz1, show ((n : Nat) : Int).toNat = n by omega, made_bytes] at h
  exact h
theorem own_made (w : World) (n : Nat) (hn : n ≤ 10000000) (xs : List Nat) (hx : xs.length = n) : Own 5 1 (w.alloc (.cells (vals xs).toArray 5)) ⟨some ⟨w.heap.size, 0, none⟩, n, n⟩ (vals xs) := by
  refine ⟨by rw [vals_length]; show _ = n * 1; omega, .inr ⟨w.heap.size, 0, _, rfl, heap_alloc_new w _, by show 0 + n * 1 ≤ _; simp [vals_length]; omega, Nat.le_refl _, by show n ≤ _; unfold maxLen; omega, ?_⟩⟩
  show (List.drop 0 (vals xs).toArray.toList).take (n * 1) = _
  rw [List.drop_zero, List.take_of_length_le (by simp [vals_length]; omega)]
theorem bytes_zero (n : Nat) : Bytes (List.replicate n 0) := fun x hx => by rw [(List.mem_replicate.1 hx).2]; omega

theorem Pl.mkD {P : Program} {ops : Array Oper} {n : Nat} {f : Nat → Value} {w : World} (i : Nat) (t : TypeId) (x y : Operand) (v : Value) (w' : World) (h : (Pl.op ops i).op = .makeSlice t x y) (hx : Pl.inB n x = true) (hy : Pl.inB n y = true)
    (hv : (Instr.makeSlice t (Pl.ev f x) (Pl.ev f y)).run P w = .ok v w') : ∀ A, Pl.At n A f → (execOp A.eval (Pl.op ops i)).run P w = .ok (.value v) w' := by
  intro A hA
  have e : execOp A.eval (Pl.op ops i) = (do pure (.value (← Instr.makeSlice t (A.eval x) (A.eval y)))) := by
    unfold execOp
    rw [h]
  rw [e, hA.ev x hx, hA.ev y hy]
  simp [hv]
theorem Pl.boxV {P : Program} {ops : Array Oper} {n : Nat} {f : Nat → Value} {w : World} (i : Nat) (t : TypeId) (x : Operand) (v : Value) (w' : World) (h : (Pl.op ops i).op = .box t x) (hx : Pl.inB n x = true)
    (hv : (Instr.box t (Pl.ev f x)).run P w = .ok v w') : ∀ A, Pl.At n A f → (execOp A.eval (Pl.op ops i)).run P w = .ok (.value v) w' := by
  intro A hA
  have e : execOp A.eval (Pl.op ops i) = (do pure (.value (← Instr.box t (A.eval x)))) := by
    unfold execOp
    rw [h]
  rw [e, hA.ev x hx]
  simp [hv]

theorem build_disk (a : Option Addr) (l c : Nat) (w : World) : (Instr.build 87 #[(0, .slice a l c)]).run Tryz.prog w = .ok (.agg #[.slice a l c, .int .i64 0, .slice none 0 0]) w := by simp [go_sem, Instr.build]
theorem build_dev (x y x' y' : Value) (z z' : Int) (w : World) : (Instr.build 91 #[(0, .agg #[x, .int .i64 z, y]), (1, .agg #[x', .int .i64 z', y'])]).run Tryz.prog w = .ok (.agg #[x, .int .i64 z, y, x', .int .i64 z', y', .slice none 0 0, .slice none 0 0, .slice none 0 0, .bool false, .int .i64 0, .bool false]) w := by simp [go_sem, Instr.build]
theorem box_dev (C : Array Value) (w : World) : (Instr.box 91 (.agg C)).run Tryz.prog w = .ok (.pointer (some ⟨w.heap.size, 0, none⟩)) (w.alloc (.cells C 91)) := by simp [Instr.box, newVar, newRow, Value.cells]

theorem heap3b (w : World) (a b c : Obj) : (((w.alloc a).alloc b).alloc c).heap[(w.alloc a).heap.size]? = some b := ((below_alloc ((w.alloc a).alloc b) c).block _ (by simp)).trans (heap_alloc_new (w.alloc a) b)
theorem heap3a (w : World) (a b c : Obj) : (((w.alloc a).alloc b).alloc c).heap[w.heap.size]? = some a := ((below_alloc ((w.alloc a).alloc b) c).block _ (by simp <;> omega)).trans (((below_alloc (w.alloc a) b).block _ (by simp)).trans (heap_alloc_new w a))

/-- A new device. -/
def Ds.new (n : Nat) : Ds := ⟨List.replicate (512 * n) 0, 0, [], List.replicate (512 * n) 0, 0, [], [], [], [], false, 0, false⟩

/-- It stands. -/
theorem dev_new (w : World) (n : Nat) (hn : n ≤ 64) (g1 g2 p : Nat) (hg : g1 ≠ g2)
    (h1 : w.heap[g1]? = some (.cells (vals (List.replicate (512 * n) 0)).toArray 5 (0, 0))) (h2 : w.heap[g2]? = some (.cells (vals (List.replicate (512 * n) 0)).toArray 5 (0, 0)))
    (hp : w.heap[p]? = some (.cells #[.slice (some ⟨g1, 0, none⟩) (512 * n) (512 * n), .int .i64 0, .slice none 0 0, .slice (some ⟨g2, 0, none⟩) (512 * n) (512 * n), .int .i64 0, .slice none 0 0, .slice none 0 0, .slice none 0 0, .slice none 0 0, .bool false, .int .i64 0, .bool false] 91 (0, 0))) :
    DevM w p (Ds.new n) ⟨⟨some ⟨g1, 0, none⟩, 512 * n, 512 * n⟩, Sl.nil, ⟨some ⟨g2, 0, none⟩, 512 * n, 512 * n⟩, Sl.nil, Sl.nil, Sl.nil, Sl.nil⟩ := by
  have ho : ∀ g, w.heap[g]? = some (.cells (vals (List.replicate (512 * n) 0)).toArray 5 (0, 0)) → Own 5 1 w ⟨some ⟨g, 0, none⟩, 512 * n, 512 * n⟩ (vals (List.replicate (512 * n) 0)) := by
    intro g h
    refine ⟨by simp [vals_length], .inr ⟨g, 0, _, rfl, h, by simp [vals_length], Nat.le_refl _, by show 512 * n ≤ _; unfold maxLen; omega, ?_⟩⟩
    show (List.drop 0 (vals (List.replicate (512 * n) 0)).toArray.toList).take (512 * n * 1) = _
    rw [List.drop_zero, List.take_of_length_le (by simp [vals_length])]
  refine ⟨hp, fun f => ?_, fun f => ?_, fun f g k hf hk => ?_, Own.nil _ _ _, Own.nil _ _ _⟩
  · cases f
    · exact ho g1 h1
    · exact Own.nil _ _ _
    · exact ho g2 h2
    · exact Own.nil _ _ _
    · exact Own.nil _ _ _
  · cases f
    · exact bytes_zero _
    · exact fun x hx => by cases hx
    · exact bytes_zero _
    · exact fun x hx => by cases hx
    · exact fun x hx => by cases hx
  · cases f <;> cases g <;> first | rfl | (exfalso; cases hf; done) | (exfalso; cases hk; done) | (exfalso; cases hf; cases hk; exact hg rfl)

set_option maxHeartbeats 2000000 in
set_option maxRecDepth 100000 in
theorem new4 (w : World) (n : Nat) (hn : n ≤ 64)
    {Q : Exit → Act → World → Prop} {A : Act} (hsz : A.tmps.size = 21) (hdf : A.defers = []) (s4 : A.tmps.getD 4 undef = .int .i64 ((512 * n : Nat) : Int))
    (hend : ∀ (u : Nat → Value) w' p, w.heap.size ≤ p → Below w.heap.size w w' → (∃ L, DevM w' p (Ds.new n) L ∧ ∀ k, L.F p k → w.heap.size ≤ k) → Q .normal (((((((((((A).put (some 13) (u 13)).put (some 16) (u 16)).put (some 14) (u 14)).put (some 15) (u 15)).put (some 17) (u 17)).put (some 18) (u 18)).put (some 19) (u 19)).put (some 20) (u 20)).put (some 2) (at0 p)).put (some 3) (.int .i64 0)) w') :
    (Code.region 4 (Pl.find 4 ((Tryz.f7.body).getD .skip)) true).wp Tryz.prog Q A w := by
  have hA := Pl.At.same (v := .int .i64 ((512 * n : Nat) : Int)) (d := 4) (Pl.At.here hsz hdf) s4
  refine Pl.H.start (S := fun _ => True) (by kernel_rfl) hA True.intro ?_
  rw [show (Pl.find 4 ((Tryz.f7.body).getD .skip)).size = 10 by kernel_rfl]
  refine Pl.H.take 0 13 (.int .i64 ((512 * n : Nat) : Int)) (by kernel_rfl) (by kernel_rfl) (by kernel_rfl) (Pl.free 0 (by kernel_rfl)) (Pl.move 0 (.tmp 4) (by kernel_rfl) (by decide)) True.intro ?_
  refine Pl.H.take 3 16 (.int .i64 ((512 * n : Nat) : Int)) (by kernel_rfl) (by kernel_rfl) (by kernel_rfl) (Pl.free 3 (by kernel_rfl)) (Pl.move 3 (.tmp 4) (by kernel_rfl) (by decide)) True.intro ?_
  refine Pl.H.two 1 4 (by kernel_rfl) ?_ ?_
  · refine Pl.HOp.value 1 14 (.slice (some ⟨w.drew.heap.size, 0, none⟩) (512 * n) (512 * n)) (w.drew.alloc (.cells (vals (List.replicate (512 * n) 0)).toArray 5)) (by kernel_rfl) (by kernel_rfl) (by kernel_rfl) (Pl.mkD 1 32 (.tmp 13) (.tmp 13) _ _ (by kernel_rfl) (by decide) (by decide) (make_bytes (512 * n) (by omega) w.drew)) True.intro ?_
    refine Pl.H.take 2 15 (.agg #[.slice (some ⟨w.drew.heap.size, 0, none⟩) (512 * n) (512 * n), .int .i64 0, .slice none 0 0]) (by kernel_rfl) (by kernel_rfl) (by kernel_rfl) (Pl.free 2 (by kernel_rfl)) (Pl.buildD 2 87 [(0, .tmp 14)] _ (by kernel_rfl) (by decide) (build_disk _ _ _)) True.intro ?_
    refine Pl.H.make 4 17 (.slice (some ⟨(w.drew.alloc (.cells (vals (List.replicate (512 * n) 0)).toArray 5)).heap.size, 0, none⟩) (512 * n) (512 * n)) ((w.drew.alloc (.cells (vals (List.replicate (512 * n) 0)).toArray 5)).alloc (.cells (vals (List.replicate (512 * n) 0)).toArray 5)) (by kernel_rfl) (by kernel_rfl) (by kernel_rfl) (Pl.free 4 (by kernel_rfl)) (Pl.mkD 4 32 (.tmp 16) (.tmp 16) _ _ (by kernel_rfl) (by decide) (by decide) (make_bytes (512 * n) (by omega) (w.drew.alloc (.cells (vals (List.replicate (512 * n) 0)).toArray 5)))) True.intro ?_
    refine Pl.H.take 5 18 (.agg #[.slice (some ⟨(w.drew.alloc (.cells (vals (List.replicate (512 * n) 0)).toArray 5)).heap.size, 0, none⟩) (512 * n) (512 * n), .int .i64 0, .slice none 0 0]) (by kernel_rfl) (by kernel_rfl) (by kernel_rfl) (Pl.free 5 (by kernel_rfl)) (Pl.buildD 5 87 [(0, .tmp 17)] _ (by kernel_rfl) (by decide) (build_disk _ _ _)) True.intro ?_
    refine Pl.H.take 6 19 (.agg #[.slice (some ⟨w.drew.heap.size, 0, none⟩) (512 * n) (512 * n), .int .i64 0, .slice none 0 0, .slice (some ⟨(w.drew.alloc (.cells (vals (List.replicate (512 * n) 0)).toArray 5)).heap.size, 0, none⟩) (512 * n) (512 * n), .int .i64 0, .slice none 0 0, .slice none 0 0, .slice none 0 0, .slice none 0 0, .bool false, .int .i64 0, .bool false]) (by kernel_rfl) (by kernel_rfl) (by kernel_rfl) (Pl.free 6 (by kernel_rfl)) (Pl.buildD 6 91 [(0, .tmp 15), (1, .tmp 18)] _ (by kernel_rfl) (by decide) (build_dev _ _ _ _ _ _)) True.intro ?_
    have hd := dev_new (((w.drew.alloc (.cells (vals (List.replicate (512 * n) 0)).toArray 5)).alloc (.cells (vals (List.replicate (512 * n) 0)).toArray 5)).alloc (.cells #[.slice (some ⟨w.drew.heap.size, 0, none⟩) (512 * n) (512 * n), .int .i64 0, .slice none 0 0, .slice (some ⟨(w.drew.alloc (.cells (vals (List.replicate (512 * n) 0)).toArray 5)).heap.size, 0, none⟩) (512 * n) (512 * n), .int .i64 0, .slice none 0 0, .slice none 0 0, .slice none 0 0, .slice none 0 0, .bool false, .int .i64 0, .bool false] 91)) n hn w.drew.heap.size (w.drew.alloc (.cells (vals (List.replicate (512 * n) 0)).toArray 5)).heap.size ((w.drew.alloc (.cells (vals (List.replicate (512 * n) 0)).toArray 5)).alloc (.cells (vals (List.replicate (512 * n) 0)).toArray 5)).heap.size (by simp) (heap3a _ _ _ _) (heap3b _ _ _ _) (heap_alloc_new _ _)
    have hbb : Below w.heap.size w (((w.drew.alloc (.cells (vals (List.replicate (512 * n) 0)).toArray 5)).alloc (.cells (vals (List.replicate (512 * n) 0)).toArray 5)).alloc (.cells #[.slice (some ⟨w.drew.heap.size, 0, none⟩) (512 * n) (512 * n), .int .i64 0, .slice none 0 0, .slice (some ⟨(w.drew.alloc (.cells (vals (List.replicate (512 * n) 0)).toArray 5)).heap.size, 0, none⟩) (512 * n) (512 * n), .int .i64 0, .slice none 0 0, .slice none 0 0, .slice none 0 0, .slice none 0 0, .bool false, .int .i64 0, .bool false] 91)) := ((((Below.refl _ w).drew).alloc (Nat.le_refl _) _).alloc (by simp) _).alloc (by simp <;> omega) _
    refine Pl.H.make 7 20 (.pointer (some ⟨((w.drew.alloc (.cells (vals (List.replicate (512 * n) 0)).toArray 5)).alloc (.cells (vals (List.replicate (512 * n) 0)).toArray 5)).heap.size, 0, none⟩)) (((w.drew.alloc (.cells (vals (List.replicate (512 * n) 0)).toArray 5)).alloc (.cells (vals (List.replicate (512 * n) 0)).toArray 5)).alloc (.cells #[.slice (some ⟨w.drew.heap.size, 0, none⟩) (512 * n) (512 * n), .int .i64 0, .slice none 0 0, .slice (some ⟨(w.drew.alloc (.cells (vals (List.replicate (512 * n) 0)).toArray 5)).heap.size, 0, none⟩) (512 * n) (512 * n), .int .i64 0, .slice none 0 0, .slice none 0 0, .slice none 0 0, .slice none 0 0, .bool false, .int .i64 0, .bool false] 91)) (by kernel_rfl) (by kernel_rfl) (by kernel_rfl) (Pl.free 7 (by kernel_rfl)) (Pl.boxV 7 91 (.tmp 19) _ _ (by kernel_rfl) (by decide) (box_dev _ ((w.drew.alloc (.cells (vals (List.replicate (512 * n) 0)).toArray 5)).alloc (.cells (vals (List.replicate (512 * n) 0)).toArray 5)))) True.intro ?_
    refine Pl.H.take 8 2 (.pointer (some ⟨((w.drew.alloc (.cells (vals (List.replicate (512 * n) 0)).toArray 5)).alloc (.cells (vals (List.replicate (512 * n) 0)).toArray 5)).heap.size, 0, none⟩)) (by kernel_rfl) (by kernel_rfl) (by kernel_rfl) (Pl.free 8 (by kernel_rfl)) (Pl.assign 8 (.tmp 20) (by kernel_rfl) (by decide)) True.intro ?_
    refine Pl.H.take 9 3 (.int .i64 0) (by kernel_rfl) (by kernel_rfl) (by kernel_rfl) (Pl.free 9 (by kernel_rfl)) (Pl.assign 9 (.const (.int .i64 0)) (by kernel_rfl) (by decide)) True.intro ?_
    refine Pl.H.done (by kernel_rfl) (fun A' hA' => ?_)
    rw [Pl.At.ext hA' ((((((((((hA.put 13 _).put 16 _).put 14 _).put 15 _).put 17 _).put 18 _).put 19 _).put 20 _).put 2 _).put 3 _)]
    exact hend (fun d => if d = 13 then .int .i64 ((512 * n : Nat) : Int) else if d = 16 then .int .i64 ((512 * n : Nat) : Int) else if d = 14 then .slice (some ⟨w.drew.heap.size, 0, none⟩) (512 * n) (512 * n) else if d = 15 then .agg #[.slice (some ⟨w.drew.heap.size, 0, none⟩) (512 * n) (512 * n), .int .i64 0, .slice none 0 0] else if d = 17 then .slice (some ⟨(w.drew.alloc (.cells (vals (List.replicate (512 * n) 0)).toArray 5)).heap.size, 0, none⟩) (512 * n) (512 * n) else if d = 18 then .agg #[.slice (some ⟨(w.drew.alloc (.cells (vals (List.replicate (512 * n) 0)).toArray 5)).heap.size, 0, none⟩) (512 * n) (512 * n), .int .i64 0, .slice none 0 0] else if d = 19 then .agg #[.slice (some ⟨w.drew.heap.size, 0, none⟩) (512 * n) (512 * n), .int .i64 0, .slice none 0 0, .slice (some ⟨(w.drew.alloc (.cells (vals (List.replicate (512 * n) 0)).toArray 5)).heap.size, 0, none⟩) (512 * n) (512 * n), .int .i64 0, .slice none 0 0, .slice none 0 0, .slice none 0 0, .slice none 0 0, .bool false, .int .i64 0, .bool false] else if d = 20 then .pointer (some ⟨((w.drew.alloc (.cells (vals (List.replicate (512 * n) 0)).toArray 5)).alloc (.cells (vals (List.replicate (512 * n) 0)).toArray 5)).heap.size, 0, none⟩) else undef) _ _ (by simp <;> omega) hbb ⟨_, hd, fun k hk => by rcases hk with h1 | ⟨f, h1⟩ | h1 | h1; (· rw [h1]; simp <;> omega); (· cases f <;> cases h1 <;> simp <;> omega); (· cases h1); (· cases h1)⟩
  · refine Pl.HOp.value 4 17 (.slice (some ⟨w.drew.heap.size, 0, none⟩) (512 * n) (512 * n)) (w.drew.alloc (.cells (vals (List.replicate (512 * n) 0)).toArray 5)) (by kernel_rfl) (by kernel_rfl) (by kernel_rfl) (Pl.mkD 4 32 (.tmp 16) (.tmp 16) _ _ (by kernel_rfl) (by decide) (by decide) (make_bytes (512 * n) (by omega) w.drew)) True.intro ?_
    refine Pl.H.take 5 18 (.agg #[.slice (some ⟨w.drew.heap.size, 0, none⟩) (512 * n) (512 * n), .int .i64 0, .slice none 0 0]) (by kernel_rfl) (by kernel_rfl) (by kernel_rfl) (Pl.free 5 (by kernel_rfl)) (Pl.buildD 5 87 [(0, .tmp 17)] _ (by kernel_rfl) (by decide) (build_disk _ _ _)) True.intro ?_
    refine Pl.H.make 1 14 (.slice (some ⟨(w.drew.alloc (.cells (vals (List.replicate (512 * n) 0)).toArray 5)).heap.size, 0, none⟩) (512 * n) (512 * n)) ((w.drew.alloc (.cells (vals (List.replicate (512 * n) 0)).toArray 5)).alloc (.cells (vals (List.replicate (512 * n) 0)).toArray 5)) (by kernel_rfl) (by kernel_rfl) (by kernel_rfl) (Pl.free 1 (by kernel_rfl)) (Pl.mkD 1 32 (.tmp 13) (.tmp 13) _ _ (by kernel_rfl) (by decide) (by decide) (make_bytes (512 * n) (by omega) (w.drew.alloc (.cells (vals (List.replicate (512 * n) 0)).toArray 5)))) True.intro ?_
    rw [Pl.upd_comm _ 18 14 _ _ (by decide)]
    rw [Pl.upd_comm _ 17 14 _ _ (by decide)]
    refine Pl.H.take 2 15 (.agg #[.slice (some ⟨(w.drew.alloc (.cells (vals (List.replicate (512 * n) 0)).toArray 5)).heap.size, 0, none⟩) (512 * n) (512 * n), .int .i64 0, .slice none 0 0]) (by kernel_rfl) (by kernel_rfl) (by kernel_rfl) (Pl.free 2 (by kernel_rfl)) (Pl.buildD 2 87 [(0, .tmp 14)] _ (by kernel_rfl) (by decide) (build_disk _ _ _)) True.intro ?_
    rw [Pl.upd_comm _ 18 15 _ _ (by decide)]
    rw [Pl.upd_comm _ 17 15 _ _ (by decide)]
    refine Pl.H.take 6 19 (.agg #[.slice (some ⟨(w.drew.alloc (.cells (vals (List.replicate (512 * n) 0)).toArray 5)).heap.size, 0, none⟩) (512 * n) (512 * n), .int .i64 0, .slice none 0 0, .slice (some ⟨w.drew.heap.size, 0, none⟩) (512 * n) (512 * n), .int .i64 0, .slice none 0 0, .slice none 0 0, .slice none 0 0, .slice none 0 0, .bool false, .int .i64 0, .bool false]) (by kernel_rfl) (by kernel_rfl) (by kernel_rfl) (Pl.free 6 (by kernel_rfl)) (Pl.buildD 6 91 [(0, .tmp 15), (1, .tmp 18)] _ (by kernel_rfl) (by decide) (build_dev _ _ _ _ _ _)) True.intro ?_
    have hd := dev_new (((w.drew.alloc (.cells (vals (List.replicate (512 * n) 0)).toArray 5)).alloc (.cells (vals (List.replicate (512 * n) 0)).toArray 5)).alloc (.cells #[.slice (some ⟨(w.drew.alloc (.cells (vals (List.replicate (512 * n) 0)).toArray 5)).heap.size, 0, none⟩) (512 * n) (512 * n), .int .i64 0, .slice none 0 0, .slice (some ⟨w.drew.heap.size, 0, none⟩) (512 * n) (512 * n), .int .i64 0, .slice none 0 0, .slice none 0 0, .slice none 0 0, .slice none 0 0, .bool false, .int .i64 0, .bool false] 91)) n hn (w.drew.alloc (.cells (vals (List.replicate (512 * n) 0)).toArray 5)).heap.size w.drew.heap.size ((w.drew.alloc (.cells (vals (List.replicate (512 * n) 0)).toArray 5)).alloc (.cells (vals (List.replicate (512 * n) 0)).toArray 5)).heap.size (by simp) (heap3b _ _ _ _) (heap3a _ _ _ _) (heap_alloc_new _ _)
    have hbb : Below w.heap.size w (((w.drew.alloc (.cells (vals (List.replicate (512 * n) 0)).toArray 5)).alloc (.cells (vals (List.replicate (512 * n) 0)).toArray 5)).alloc (.cells #[.slice (some ⟨(w.drew.alloc (.cells (vals (List.replicate (512 * n) 0)).toArray 5)).heap.size, 0, none⟩) (512 * n) (512 * n), .int .i64 0, .slice none 0 0, .slice (some ⟨w.drew.heap.size, 0, none⟩) (512 * n) (512 * n), .int .i64 0, .slice none 0 0, .slice none 0 0, .slice none 0 0, .slice none 0 0, .bool false, .int .i64 0, .bool false] 91)) := ((((Below.refl _ w).drew).alloc (Nat.le_refl _) _).alloc (by simp) _).alloc (by simp <;> omega) _
    refine Pl.H.make 7 20 (.pointer (some ⟨((w.drew.alloc (.cells (vals (List.replicate (512 * n) 0)).toArray 5)).alloc (.cells (vals (List.replicate (512 * n) 0)).toArray 5)).heap.size, 0, none⟩)) (((w.drew.alloc (.cells (vals (List.replicate (512 * n) 0)).toArray 5)).alloc (.cells (vals (List.replicate (512 * n) 0)).toArray 5)).alloc (.cells #[.slice (some ⟨(w.drew.alloc (.cells (vals (List.replicate (512 * n) 0)).toArray 5)).heap.size, 0, none⟩) (512 * n) (512 * n), .int .i64 0, .slice none 0 0, .slice (some ⟨w.drew.heap.size, 0, none⟩) (512 * n) (512 * n), .int .i64 0, .slice none 0 0, .slice none 0 0, .slice none 0 0, .slice none 0 0, .bool false, .int .i64 0, .bool false] 91)) (by kernel_rfl) (by kernel_rfl) (by kernel_rfl) (Pl.free 7 (by kernel_rfl)) (Pl.boxV 7 91 (.tmp 19) _ _ (by kernel_rfl) (by decide) (box_dev _ ((w.drew.alloc (.cells (vals (List.replicate (512 * n) 0)).toArray 5)).alloc (.cells (vals (List.replicate (512 * n) 0)).toArray 5)))) True.intro ?_
    refine Pl.H.take 8 2 (.pointer (some ⟨((w.drew.alloc (.cells (vals (List.replicate (512 * n) 0)).toArray 5)).alloc (.cells (vals (List.replicate (512 * n) 0)).toArray 5)).heap.size, 0, none⟩)) (by kernel_rfl) (by kernel_rfl) (by kernel_rfl) (Pl.free 8 (by kernel_rfl)) (Pl.assign 8 (.tmp 20) (by kernel_rfl) (by decide)) True.intro ?_
    refine Pl.H.take 9 3 (.int .i64 0) (by kernel_rfl) (by kernel_rfl) (by kernel_rfl) (Pl.free 9 (by kernel_rfl)) (Pl.assign 9 (.const (.int .i64 0)) (by kernel_rfl) (by decide)) True.intro ?_
    refine Pl.H.done (by kernel_rfl) (fun A' hA' => ?_)
    rw [Pl.At.ext hA' ((((((((((hA.put 13 _).put 16 _).put 14 _).put 15 _).put 17 _).put 18 _).put 19 _).put 20 _).put 2 _).put 3 _)]
    exact hend (fun d => if d = 13 then .int .i64 ((512 * n : Nat) : Int) else if d = 16 then .int .i64 ((512 * n : Nat) : Int) else if d = 14 then .slice (some ⟨(w.drew.alloc (.cells (vals (List.replicate (512 * n) 0)).toArray 5)).heap.size, 0, none⟩) (512 * n) (512 * n) else if d = 15 then .agg #[.slice (some ⟨(w.drew.alloc (.cells (vals (List.replicate (512 * n) 0)).toArray 5)).heap.size, 0, none⟩) (512 * n) (512 * n), .int .i64 0, .slice none 0 0] else if d = 17 then .slice (some ⟨w.drew.heap.size, 0, none⟩) (512 * n) (512 * n) else if d = 18 then .agg #[.slice (some ⟨w.drew.heap.size, 0, none⟩) (512 * n) (512 * n), .int .i64 0, .slice none 0 0] else if d = 19 then .agg #[.slice (some ⟨(w.drew.alloc (.cells (vals (List.replicate (512 * n) 0)).toArray 5)).heap.size, 0, none⟩) (512 * n) (512 * n), .int .i64 0, .slice none 0 0, .slice (some ⟨w.drew.heap.size, 0, none⟩) (512 * n) (512 * n), .int .i64 0, .slice none 0 0, .slice none 0 0, .slice none 0 0, .slice none 0 0, .bool false, .int .i64 0, .bool false] else if d = 20 then .pointer (some ⟨((w.drew.alloc (.cells (vals (List.replicate (512 * n) 0)).toArray 5)).alloc (.cells (vals (List.replicate (512 * n) 0)).toArray 5)).heap.size, 0, none⟩) else undef) _ _ (by simp <;> omega) hbb ⟨_, hd, fun k hk => by rcases hk with h1 | ⟨f, h1⟩ | h1 | h1; (· rw [h1]; simp <;> omega); (· cases f <;> cases h1 <;> simp <;> omega); (· cases h1); (· cases h1)⟩

set_option maxHeartbeats 2000000 in
theorem new_any (w : World) (n : Nat) (h1 : 1 ≤ n) (h2 : n ≤ 64) : Calls Tryz.prog 7 #[.int .i64 ((n : Nat) : Int)] w fun e w' => Below w.heap.size w w' ∧ ∃ p L, e = .returned (.tuple #[at0 p, .int .i64 0]) ∧ DevM w' p (Ds.new n) L ∧ (∀ k, L.F p k → w.heap.size ≤ k) := by
  have HR : Hid (∀ {Q : Exit → Act → World → Prop} {A : Act}, _) := fun {Q A} => new4 w n h2 (Q := Q) (A := A)
  have i1 : ¬ ((n : Nat) : Int) < 1 := by omega
  have i2 : ¬ 64 < ((n : Nat) : Int) := by omega
  have i1' : ¬ n < 1 := by omega
  have i2' : ¬ 64 < n := by omega
  have hw : IntKind.i64.wrap (((n : Nat) : Int) * 512) = 512 * ((n : Nat) : Int) := by rw [IntKind.wrap_i64]; omega
  go_enter Tryz.func7, Tryz.ntmps7
  go_wp2_with fail
  refine Pl.region_is (ops := Pl.find 4 ((Tryz.f7.body).getD .skip)) (by kernel_rfl) ?_
  refine HR.out (by rfl) rfl (by rfl) ?_
  intro u w' p hp hb hd
  have HB := hide hb
  have HD := hide hd
  clear hp hb hd
  simp only [Act.put, List.setIfInBounds_toArray, List.set_cons_zero, List.set_cons_succ]
  go_wp2_with fail
  go_ret2
  obtain ⟨L, hd, hf⟩ := HD.out
  exact ⟨HB.out, p, L, rfl, hd, hf⟩

end Go.Proofs.YtpggkfdnpdhkfaaGreat

namespace Go.Proofs.YtpggkfdnpdhkfaaGreat
open Go.RowKit
set_option maxRecDepth 100000

theorem sw_build (x : Int) (w : World) : (Instr.build 150 #[(0, .int .i64 x)]).run Tryz.prog w = .ok (.agg ((.int .i64 x : Value) :: List.replicate 128 (.int .u8 0)).toArray) w := by kernel_rfl
theorem sw_zero (a : Nat) : ((.int .i64 ((a : Nat) : Int) : Value) :: List.replicate 128 (.int .u8 0)).toArray = (Sw.cells ⟨a, List.replicate 128 0⟩).toArray := by simp [Sw.cells, vals]
theorem infoW : (Tryz.prog.info? 150).map (fun i => (i.zero, i.size, i.bytes)) = some (some (.agg swZ), 129, 136) := by kernel_rfl
theorem build_sw1 (x : Sw) (h : x.b.length = 128) (w : World) : (Instr.buildSlice 88 1 #[(0, .agg x.cells.toArray)]).run Tryz.prog w = .ok (.slice (some ⟨w.heap.size, 0, none⟩) 1 1) (w.alloc (.cells x.cells.toArray 150)) := by
  obtain ⟨i0, hi, hz0, hz1, hz2⟩ := info_parts infoW
  refine run_buildSlice w 88 150 1 _ _ i0 (.agg swZ) Tryz.underlying88 hi hz0 (by rw [hz1]; decide) (by rw [hz1]; decide) ?_
  rw [hz1]
  have := Great.fill_whole (s := 129) (by omega) [.agg x.cells.toArray] ((Array.range (1 * 129)).map fun i => (Value.agg swZ).cells[i % (Value.agg swZ).cells.size]!) (by simp [Value.cells, x.cells_length h]) (by simp)
  simpa [Value.cells] using this
theorem wpList_build78 {ops : Array Oper} {rest : List Oper} {o : Oper} {a : Act} {Q : Exit → Act → World → Prop} (w : World) (hgd : o.guard = none) (t : TypeId) (x : Operand) (ho : o.op = .build t #[(0, x)]) (u v : Value) (hu : a.eval x = u) (hrun : ∀ w, (Instr.build t #[(0, u)]).run Tryz.prog w = .ok v w) (hK : wpList Tryz.prog ops Q rest (a.put o.dst v) w) : wpList Tryz.prog ops Q (o :: rest) a w := by
  refine wpList_val w hgd v w ?_ hK
  have e : execOp a.eval o = (do pure (.value (← Instr.build t (Array.map (fun (p : Nat × Operand) => (p.1, a.eval p.2)) #[(0, x)])))) := by
    unfold execOp
    rw [ho]
  rw [e]
  simp [hu, hrun]
theorem swCells_append (l m : List Sw) : swCells (l ++ m) = swCells l ++ swCells m := by simp [swCells]
theorem swCells_one (l : List Sw) : ∀ u ∈ swCells l, u.oneCell' = true := by
  intro u hu
  obtain ⟨i, _, hi⟩ := List.mem_flatMap.1 hu
  exact i.cells_one u hi

/-- A sector's write more. -/
theorem DevM.appW {w : World} {p : Nat} {D : Ds} {L : Dl} (h : DevM w p D L) (g : Nat) (x : Sw) (hx : x.b.length = 128) (hw : ∀ x ∈ D.wr, x.b.length = 128) (hg : SwBlk w g x) (hm : D.wr.length ≤ 100000) :
    ∃ s' w1, (∀ ty, (Builtin.append_ #[88, 88] ty #[L.wr.val, .slice (some ⟨g, 0, none⟩) 1 1]).run Tryz.prog w = .ok s'.val w1) ∧ Own 150 129 w1 s' (swCells (D.wr ++ [x])) ∧ Frm (fun k => L.wr.blk = some k) w w1 ∧ (∀ k, s'.blk = some k → L.wr.blk = some k ∨ w.heap.size ≤ k) := by
  have hl := h.lenW hw
  have e1 : swCells [x] = x.cells := by simp [swCells]
  have hsrc : Src Tryz.prog 129 88 (.slice (some ⟨g, 0, none⟩) 1 1) 1 (swCells [x]) w := by
    refine Src.ofSlice w Tryz.underlying88 ⟨g, 0, none⟩ 1 1 (swCells [x]) (by rw [e1, x.cells_length hx]) (fun j u hj => ?_) (swCells_one _)
    rw [Addr.add_lit, Nat.zero_add, Addr.cell0 hg]
    rw [e1] at hj
    simpa using hj
  obtain ⟨s', w1, hr, ho, _, hf, hb⟩ := own_append (S := 88) Tryz.underlying88 infoW (by simp [swZ, Value.cells]) (by omega) w L.wr _ h.wr (swCells_one _) _ 1 _ hsrc (by omega) 88
  refine ⟨s', w1, fun ty => hr, by rw [swCells_append]; exact ho, hf, fun k hk => ?_⟩
  rcases hb with e | ⟨e, _⟩
  · exact .inl (by rw [← e]; exact hk)
  · rw [e] at hk
    cases hk
    exact .inr (Nat.le_refl _)
theorem SwBlk.range {w : World} {q : Nat} {x : Sw} (h : SwBlk w q x) : w.rangeAt q 0 x.cells := by
  intro j v hj
  rw [Nat.zero_add, Addr.cell0 h]
  simpa using hj
theorem SwBlk.lt {w : World} {q : Nat} {x : Sw} (h : SwBlk w q x) : q < w.heap.size := (Array.getElem?_eq_some_iff.1 h).1

set_option maxHeartbeats 2000000 in
set_option maxRecDepth 100000 in
theorem write11 (w : World) (q x i : Nat) (a : Option Addr) (len cap : Nat) (ys : List Nat) (hy : Came w a len cap ys) (hlen : len = 512) (hi : i < 4) (hb : SwBlk w q ⟨x, List.replicate 128 0⟩)
    {Q : Exit → Act → World → Prop} {A : Act} (hsz : A.tmps.size = 56) (hdf : A.defers = []) (s9 : A.tmps.getD 9 undef = .pointer (some ⟨q, 0, none⟩)) (s2 : A.tmps.getD 2 undef = .slice a len cap) (s8 : A.tmps.getD 8 undef = .int .i64 ((i : Nat) : Int))
    (hend : ∀ (u : Nat → Value) w', SwBlk w' q ⟨x, (ys.drop (128 * i)).take 128⟩ → Frm (fun k => k = q) w w' → Q .normal ((((((((A).put (some 38) (u 38)).put (some 39) (u 39)).put (some 40) (u 40)).put (some 41) (u 41)).put (some 42) (u 42)).put (some 43) (u 43)).put (some 44) (u 44)) w') :
    (Code.region 11 (Pl.find 11 ((Tryz.f113.body).getD .skip)) true).wp Tryz.prog Q A w := by
  have hmul : IntKind.i64.wrap (((i : Nat) : Int) * 128) = 128 * ((i : Nat) : Int) := by rw [IntKind.wrap_i64]; omega
  have hyl := hy.bs.1
  have hb0 : w.drew.heap[q]? = some (.cells (Sw.cells ⟨x, List.replicate 128 0⟩).toArray 150 (0, 0)) := hb
  obtain ⟨zs, hz⟩ : ∃ zs, zs = (ys.drop (128 * i)).take 128 := ⟨_, rfl⟩
  have hzl : zs.length = 128 := by rw [hz]; simp only [List.length_take, List.length_drop]; omega
  have hfr := (hy.bs.from (cap := cap) (k := 128 * i) (by omega) hy.le)
  obtain ⟨bb, oo, hao, _⟩ := hfr.2.2 0 (by omega)
  have hsrc : ∀ j v, (vals zs)[j]? = some v → w.drew.cell? ((⟨bb, oo, none⟩ : Addr).add j) = some v := by
    intro j v hj
    have hjl : j < zs.length := by
      have := (List.getElem?_eq_some_iff.1 hj).1
      simpa [vals] using this
    have hfr2 := hfr
    rw [hao] at hfr2
    rw [Addr.add_lit]
    have := hfr2.at j (by omega)
    rw [vals_get hjl] at hj
    rw [← hj, hz]
    show w.cell? _ = _
    rw [this]
    have hj2 : j < 128 := by omega
    simp [List.getD, hj2]
  have hr1' : ∀ ty, _ := fun ty => run_copy_row (P := Tryz.prog) w.drew 32 32 ty 5 q 1 128 128 ⟨bb, oo, none⟩ (len - 128 * i) (cap - 128 * i) _ 150 (vals zs) Tryz.underlying32 (by kernel_rfl) hb0 (by rw [vals_length, hzl]; show 128 = min _ 128; omega) hsrc (by rw [vals_length, hzl]; simp [Sw.cells, vals]) (vals_one zs)
  have hcells : ((Sw.cells ⟨x, List.replicate 128 0⟩).toArray.toList.take 1 ++ vals zs ++ (Sw.cells ⟨x, List.replicate 128 0⟩).toArray.toList.drop (1 + (vals zs).length)).toArray = (Sw.cells ⟨x, zs⟩).toArray := by
    rw [vals_length, hzl]
    simp [Sw.cells, vals]
  rw [hcells, vals_length, hzl] at hr1'
  obtain ⟨hf1, hf2⟩ := setRow_frm hb0 (Sw.cells ⟨x, zs⟩).toArray
  obtain ⟨w1, hw1⟩ : ∃ w1, w1 = w.drew.setRow q (Sw.cells ⟨x, zs⟩).toArray := ⟨_, rfl⟩
  have hr1 : ∀ ty, (Builtin.copy_ #[32, 32] ty #[.slice (some ⟨q, 1, none⟩) 128 128, .slice (fromA a cap (128 * i)) (len - 128 * i) (cap - 128 * i)]).run Tryz.prog w.drew = .ok (goInt 128) w1 := by
    intro ty
    rw [hw1, hao]
    exact hr1' ty
  rw [← hw1] at hf1 hf2
  have hend2 : SwBlk w1 q ⟨x, (ys.drop (128 * i)).take 128⟩ := by rw [← hz]; exact hf2
  have hfrm : Frm (fun k => k = q) w w1 := (Frm.refl _ w).drew.trans hf1 (fun _ _ e => e)
  have hA := Pl.At.same (v := .int .i64 ((i : Nat) : Int)) (d := 8) (Pl.At.same (v := .slice a len cap) (d := 2) (Pl.At.same (v := .pointer (some ⟨q, 0, none⟩)) (d := 9) (Pl.At.here hsz hdf) s9) s2) s8
  refine Pl.H.start (S := fun _ => True) (by kernel_rfl) hA True.intro ?_
  rw [show (Pl.find 11 ((Tryz.f113.body).getD .skip)).size = 7 by kernel_rfl]
  refine Pl.H.take 0 38 (.pointer (some ⟨q, 1, none⟩)) (by kernel_rfl) (by kernel_rfl) (by kernel_rfl) (Pl.free 0 (by kernel_rfl)) (Pl.field 0 150 (.tmp 9) 1 _ (by kernel_rfl) (by decide) (fdSw1_0 q)) True.intro ?_
  refine Pl.H.take 1 39 (.slice (some ⟨q, 1, none⟩) 128 128) (by kernel_rfl) (by kernel_rfl) (by kernel_rfl) (Pl.free 1 (by kernel_rfl)) (Pl.slice 1 148 (.tmp 38) none none _ (by kernel_rfl) (by decide) (by decide) (by decide) (slice76 q)) True.intro ?_
  refine Pl.H.take 2 40 (.slice a len cap) (by kernel_rfl) (by kernel_rfl) (by kernel_rfl) (Pl.free 2 (by kernel_rfl)) (Pl.move 2 (.tmp 2) (by kernel_rfl) (by decide)) True.intro ?_
  refine Pl.H.take 3 41 (.int .i64 ((i : Nat) : Int)) (by kernel_rfl) (by kernel_rfl) (by kernel_rfl) (Pl.free 3 (by kernel_rfl)) (Pl.move 3 (.tmp 8) (by kernel_rfl) (by decide)) True.intro ?_
  refine Pl.H.take 4 42 (.int .i64 ((128 * i : Nat) : Int)) (by kernel_rfl) (by kernel_rfl) (by kernel_rfl) (Pl.free 4 (by kernel_rfl)) (Pl.binV 4 .mul 3 3 (.tmp 41) (.const (.int .i64 128)) (.int .i64 ((i : Nat) : Int)) (.int .i64 128) _ (by kernel_rfl) (by decide) (by decide) rfl rfl (fun w => by simp [go_sem, eqGuard, hmul])) True.intro ?_
  refine Pl.H.take 5 43 (.slice (fromA a cap (128 * i)) (len - 128 * i) (cap - 128 * i)) (by kernel_rfl) (by kernel_rfl) (by kernel_rfl) (Pl.free 5 (by kernel_rfl)) (Pl.slice 5 32 (.tmp 40) (some (.tmp 42)) none _ (by kernel_rfl) (by decide) (by decide) (by decide) (fun w => slice_from a len cap (128 * i) (by omega) w)) True.intro ?_
  refine Pl.H.make 6 44 (goInt 128) w1 (by kernel_rfl) (by kernel_rfl) (by kernel_rfl) (Pl.free 6 (by kernel_rfl)) (Pl.copyV 6 32 (.tmp 39) (.tmp 43) _ _ (by kernel_rfl) (by decide) (by decide) hr1) True.intro ?_
  refine Pl.H.done (by kernel_rfl) (fun A' hA' => ?_)
  rw [Pl.At.ext hA' (((((((hA.put 38 _).put 39 _).put 40 _).put 41 _).put 42 _).put 43 _).put 44 _)]
  exact hend (fun d => if d = 38 then .pointer (some ⟨q, 1, none⟩) else if d = 39 then .slice (some ⟨q, 1, none⟩) 128 128 else if d = 40 then .slice a len cap else if d = 41 then .int .i64 ((i : Nat) : Int) else if d = 42 then .int .i64 ((128 * i : Nat) : Int) else if d = 43 then .slice (fromA a cap (128 * i)) (len - 128 * i) (cap - 128 * i) else if d = 44 then goInt 128 else undef) _ hend2 hfrm

set_option maxHeartbeats 2000000 in
set_option maxRecDepth 100000 in
theorem write12 (w : World) (p : Nat) (D : Ds) (L : Dl) (h : DevM w p D L) (q : Nat) (x : Sw) (hb : SwBlk w q x) (hx : x.b.length = 128) (hw : ∀ x ∈ D.wr, x.b.length = 128) (hq : ¬ L.F p q) (hm : D.wr.length ≤ 100000)
    {Q : Exit → Act → World → Prop} {A : Act} (hsz : A.tmps.size = 56) (hdf : A.defers = []) (s0 : A.tmps.getD 0 undef = .pointer (some ⟨p, 0, none⟩)) (s9 : A.tmps.getD 9 undef = .pointer (some ⟨q, 0, none⟩))
    (hend : ∀ (u : Nat → Value) w', (∃ L', Turned w p L w' { D with wr := D.wr ++ [x] } L') → Q .normal (((((((((((A).put (some 45) (u 45)).put (some 46) (u 46)).put (some 47) (u 47)).put (some 48) (u 48)).put (some 50) (u 50)).put (some 49) (u 49)).put (some 51) (u 51)).put (some 52) (u 52)).put (some 53) (u 53)).put (some 54) (u 54)) w') :
    (Code.region 12 (Pl.find 12 ((Tryz.f113.body).getD .skip)) true).wp Tryz.prog Q A w := by
  have hS0 : (fun w' : World => SwBlk w' q x) w.drew := hb
  have hd2 := h.drew.keep (below_alloc w.drew (.cells x.cells.toArray 150))
  have hS2 : (fun w' : World => SwBlk w' q x) (w.drew.alloc (.cells x.cells.toArray 150)) := ((below_alloc w.drew _).block q hb.lt).trans hb
  obtain ⟨s3, w3, hr3, ho3, hf3, hb3⟩ := hd2.appW w.drew.heap.size x hx hw (heap_alloc_new w.drew _) hm
  have hqw : L.wr.blk ≠ some q := fun e => hq (.inr (.inr (.inl e)))
  have hS3 : (fun w' : World => SwBlk w' q x) w3 := (hf3.block q (Nat.lt_of_lt_of_le hb.lt (below_alloc w.drew _).size) hqw).trans hS2
  have hp3 := hf3.pblk hd2 hd2.neW
  have hT := (Turned.same h ((below_drew w).trans (below_alloc w.drew (.cells x.cells.toArray 150)))).trans (hd2.swapW s3 _ hf3 ho3 hb3)
  have hS4 : (fun w' : World => SwBlk w' q x) (w3.setCell ⟨p, 6, none⟩ s3.val) := (Below.heap_setCell w3 ⟨p, 6, none⟩ _ q (fun e => hq (.inl e))).trans hS3
  have hA := Pl.At.same (v := .pointer (some ⟨q, 0, none⟩)) (d := 9) (Pl.At.same (v := .pointer (some ⟨p, 0, none⟩)) (d := 0) (Pl.At.here hsz hdf) s0) s9
  refine Pl.H.start (S := fun w' => SwBlk w' q x) (by kernel_rfl) hA hS0 ?_
  rw [show (Pl.find 12 ((Tryz.f113.body).getD .skip)).size = 11 by kernel_rfl]
  refine Pl.H.take 0 45 (.pointer (some ⟨p, 0, none⟩)) (by kernel_rfl) (by kernel_rfl) (by kernel_rfl) (Pl.free 0 (by kernel_rfl)) (Pl.move 0 (.tmp 0) (by kernel_rfl) (by decide)) hS0 ?_
  refine Pl.H.take 1 46 (.pointer (some ⟨p, 0, none⟩)) (by kernel_rfl) (by kernel_rfl) (by kernel_rfl) (Pl.free 1 (by kernel_rfl)) (Pl.move 1 (.tmp 0) (by kernel_rfl) (by decide)) hS0 ?_
  refine Pl.H.take 2 47 (.pointer (some ⟨p, 0, none⟩)) (by kernel_rfl) (by kernel_rfl) (by kernel_rfl) (Pl.free 2 (by kernel_rfl)) (Pl.nilc 2 (.tmp 46) _ (by kernel_rfl) (by decide) rfl) hS0 ?_
  refine Pl.H.take 3 48 (.pointer (some ⟨p, 6, none⟩)) (by kernel_rfl) (by kernel_rfl) (by kernel_rfl) (Pl.free 3 (by kernel_rfl)) (Pl.field 3 91 (.tmp 47) 2 _ (by kernel_rfl) (by decide) (fdDev2_0 p)) hS0 ?_
  refine Pl.H.take 5 50 (.agg x.cells.toArray) (by kernel_rfl) (by kernel_rfl) (by kernel_rfl) (Pl.free 5 (by kernel_rfl)) (Pl.load 5 150 (.tmp 9) _ (by kernel_rfl) (by decide) (fun w' hS => sw_load x hx w' q 0 hS.range)) hS0 ?_
  refine Pl.H.two 4 6 (by kernel_rfl) ?_ ?_
  · refine Pl.HOp.value 4 49 (.slice L.wr.a L.wr.len L.wr.cap) w.drew (by kernel_rfl) (by kernel_rfl) (by kernel_rfl) (Pl.load1 4 88 (.tmp 48) _ (by kernel_rfl) (by decide) (ldWs p 6 _ _ _ _ h.drew.c6)) hS0 ?_
    refine Pl.H.make 6 51 (.slice (some ⟨w.drew.heap.size, 0, none⟩) 1 1) (w.drew.alloc (.cells x.cells.toArray 150)) (by kernel_rfl) (by kernel_rfl) (by kernel_rfl) (Pl.free 6 (by kernel_rfl)) (Pl.one 6 88 (.tmp 50) _ _ (by kernel_rfl) (by decide) (build_sw1 x hx w.drew)) hS2 ?_
    refine Pl.H.make 7 52 (s3.val) w3 (by kernel_rfl) (by kernel_rfl) (by kernel_rfl) (Pl.free 7 (by kernel_rfl)) (Pl.appT 7 88 88 (.tmp 49) (.tmp 51) _ _ (by kernel_rfl) (by kernel_rfl) (by decide) (by decide) (hr3 _)) hS3 ?_
    refine Pl.H.take 8 53 (.pointer (some ⟨p, 0, none⟩)) (by kernel_rfl) (by kernel_rfl) (by kernel_rfl) (Pl.free 8 (by kernel_rfl)) (Pl.nilc 8 (.tmp 45) _ (by kernel_rfl) (by decide) rfl) hS3 ?_
    refine Pl.H.take 9 54 (.pointer (some ⟨p, 6, none⟩)) (by kernel_rfl) (by kernel_rfl) (by kernel_rfl) (Pl.free 9 (by kernel_rfl)) (Pl.field 9 91 (.tmp 53) 2 _ (by kernel_rfl) (by decide) (fdDev2_0 p)) hS3 ?_
    refine Pl.H.store 10 (w3.setCell ⟨p, 6, none⟩ s3.val) (by kernel_rfl) (by kernel_rfl) (by kernel_rfl) (Pl.free 10 (by kernel_rfl)) (Pl.storeV 10 88 (.tmp 54) (.tmp 52) _ (by kernel_rfl) (by decide) (by decide) (stWs p 6 _ _ w3 (Addr.cell0 hp3) (frozen_of_row w3 p _ _ 91 hp3))) hS4 ?_
    refine Pl.H.done (by kernel_rfl) (fun A' hA' => ?_)
    rw [Pl.At.ext hA' ((((((((((hA.put 45 _).put 46 _).put 47 _).put 48 _).put 50 _).put 49 _).put 51 _).put 52 _).put 53 _).put 54 _)]
    exact hend (fun d => if d = 45 then .pointer (some ⟨p, 0, none⟩) else if d = 46 then .pointer (some ⟨p, 0, none⟩) else if d = 47 then .pointer (some ⟨p, 0, none⟩) else if d = 48 then .pointer (some ⟨p, 6, none⟩) else if d = 50 then .agg x.cells.toArray else if d = 49 then .slice L.wr.a L.wr.len L.wr.cap else if d = 51 then .slice (some ⟨w.drew.heap.size, 0, none⟩) 1 1 else if d = 52 then s3.val else if d = 53 then .pointer (some ⟨p, 0, none⟩) else if d = 54 then .pointer (some ⟨p, 6, none⟩) else undef) _ ⟨_, hT⟩
  · refine Pl.HOp.value 6 51 (.slice (some ⟨w.drew.heap.size, 0, none⟩) 1 1) (w.drew.alloc (.cells x.cells.toArray 150)) (by kernel_rfl) (by kernel_rfl) (by kernel_rfl) (Pl.one 6 88 (.tmp 50) _ _ (by kernel_rfl) (by decide) (build_sw1 x hx w.drew)) hS2 ?_
    refine Pl.H.solo 4 49 (.slice L.wr.a L.wr.len L.wr.cap) (by kernel_rfl) (by kernel_rfl) (by kernel_rfl) (Pl.free 4 (by kernel_rfl)) (Pl.load1 4 88 (.tmp 48) _ (by kernel_rfl) (by decide) (ldWs p 6 _ _ _ _ hd2.c6)) hS2 ?_
    rw [Pl.upd_comm _ 51 49 _ _ (by decide)]
    refine Pl.H.make 7 52 (s3.val) w3 (by kernel_rfl) (by kernel_rfl) (by kernel_rfl) (Pl.free 7 (by kernel_rfl)) (Pl.appT 7 88 88 (.tmp 49) (.tmp 51) _ _ (by kernel_rfl) (by kernel_rfl) (by decide) (by decide) (hr3 _)) hS3 ?_
    refine Pl.H.take 8 53 (.pointer (some ⟨p, 0, none⟩)) (by kernel_rfl) (by kernel_rfl) (by kernel_rfl) (Pl.free 8 (by kernel_rfl)) (Pl.nilc 8 (.tmp 45) _ (by kernel_rfl) (by decide) rfl) hS3 ?_
    refine Pl.H.take 9 54 (.pointer (some ⟨p, 6, none⟩)) (by kernel_rfl) (by kernel_rfl) (by kernel_rfl) (Pl.free 9 (by kernel_rfl)) (Pl.field 9 91 (.tmp 53) 2 _ (by kernel_rfl) (by decide) (fdDev2_0 p)) hS3 ?_
    refine Pl.H.store 10 (w3.setCell ⟨p, 6, none⟩ s3.val) (by kernel_rfl) (by kernel_rfl) (by kernel_rfl) (Pl.free 10 (by kernel_rfl)) (Pl.storeV 10 88 (.tmp 54) (.tmp 52) _ (by kernel_rfl) (by decide) (by decide) (stWs p 6 _ _ w3 (Addr.cell0 hp3) (frozen_of_row w3 p _ _ 91 hp3))) hS4 ?_
    refine Pl.H.done (by kernel_rfl) (fun A' hA' => ?_)
    rw [Pl.At.ext hA' ((((((((((hA.put 45 _).put 46 _).put 47 _).put 48 _).put 50 _).put 49 _).put 51 _).put 52 _).put 53 _).put 54 _)]
    exact hend (fun d => if d = 45 then .pointer (some ⟨p, 0, none⟩) else if d = 46 then .pointer (some ⟨p, 0, none⟩) else if d = 47 then .pointer (some ⟨p, 0, none⟩) else if d = 48 then .pointer (some ⟨p, 6, none⟩) else if d = 50 then .agg x.cells.toArray else if d = 49 then .slice L.wr.a L.wr.len L.wr.cap else if d = 51 then .slice (some ⟨w.drew.heap.size, 0, none⟩) 1 1 else if d = 52 then s3.val else if d = 53 then .pointer (some ⟨p, 0, none⟩) else if d = 54 then .pointer (some ⟨p, 6, none⟩) else undef) _ ⟨_, hT⟩

end Go.Proofs.YtpggkfdnpdhkfaaGreat

namespace Go.Proofs.YtpggkfdnpdhkfaaGreat
open Go.RowKit
set_option maxRecDepth 100000

/-- The first sectors of a page. -/
def secs (at_ : Nat) (b : List Nat) (k : Nat) : List Sw := (List.range k).map fun i => ⟨at_ + 128 * i, (b.drop (128 * i)).take 128⟩
theorem secs_succ (at_ : Nat) (b : List Nat) (k : Nat) : secs at_ b (k + 1) = secs at_ b k ++ [⟨at_ + 128 * k, (b.drop (128 * k)).take 128⟩] := by simp [secs, List.range_succ]
theorem secs_ok (at_ : Nat) (b : List Nat) (k m : Nat) (hb : b.length = 512) (hx : Bytes b) (hk : k ≤ 4) (hm : at_ + 512 ≤ m) : ∀ x ∈ secs at_ b k, x.Ok m := by
  intro x hx'
  obtain ⟨i, hi, rfl⟩ := List.mem_map.1 hx'
  have hi' := List.mem_range.1 hi
  refine ⟨?_, (hx.drop _).take _, ?_⟩
  · simp only [List.length_take, List.length_drop]; omega
  · show at_ + 128 * i + 128 ≤ m; omega
/-- A device behind a page that is written. -/
def Ds.write0 (D : Ds) (k : Nat) (b : List Nat) : Ds := { D with sp := splice D.sp (512 * k) b }
def Ds.write (D : Ds) (k : Nat) (b : List Nat) : Ds := { (D.write0 k b).spend 4 with wr := D.wr ++ secs (512 * k) b ((D.write0 k b).spent 4) }

set_option maxHeartbeats 8000000 in
set_option maxRecDepth 100000 in
theorem write_ok (w : World) (p : Nat) (D : Ds) (L : Dl) (h : DevM w p D L) (n : Nat) (hn : D.sp.length = 512 * n) (hn2 : n ≤ 64) (hw : ∀ x ∈ D.wr, x.b.length = 128) (hm : D.wr.length ≤ 10000) (hl : D.armed = true → 0 ≤ D.left ∧ D.left ≤ 9223372036854775807)
    (k : Nat) (hk : k < n) (a : Option Addr) (cap : Nat) (ys : List Nat) (hy : Came w a 512 cap ys) (hoff : Off (L.F p) a 512) :
    Calls Tryz.prog 113 #[at0 p, .int .i64 ((k : Nat) : Int), .slice a 512 cap] w fun e w' => e = .returned (.int .i64 0) ∧ ∃ L', Turned w p L w' (D.write k ys) L' := by
  have HG := hide (has_any w p D L h n hn hn2 ((k : Nat) : Int))
  rw [decide_eq_true (show 0 ≤ ((k : Nat) : Int) ∧ ((k : Nat) : Int) < ((n : Nat) : Int) by omega)] at HG
  have hyl := hy.bs.1
  have hsl : D.sp.length = L.sp.len := h.len .sp
  have c0 := h.c0
  have hfrom := slice_from L.sp.a L.sp.len L.sp.cap (512 * k) (by omega)
  obtain ⟨n1, w1, hr1, ho1, hf1, _⟩ := own_copy w L.sp D.sp (h.own .sp) (512 * k) a 512 cap ys ys hy (by rw [List.take_of_length_le]; omega) (by omega) 3
  have hT1 := h.over .sp _ hf1 ho1 ((h.byt .sp).splice hy.bs.2.1 _) (D.write0 k ys) (by rfl) rfl (fun f hf => by cases f <;> first | rfl | exact absurd rfl hf) rfl rfl
  have HRC : Hid (∀ ty, (Builtin.copy_ #[32, 32] ty #[.slice (fromA L.sp.a L.sp.cap (512 * k)) (L.sp.len - 512 * k) (L.sp.cap - 512 * k), .slice a 512 cap]).run Tryz.prog w = .ok n1 w1) := fun ty => hr1
  have HSP := hide (spend_any w1 p _ L hT1.dev 4 hl (by omega))
  have hle4 := (D.write0 k ys).spent_le 4
  have HT1 := hide hT1
  have HY := hide hy
  have HOFF := hide hoff
  have HYL := hide hyl
  have HW := hide hw
  have hw1 : IntKind.i64.wrap (((k : Nat) : Int) * 512) = 512 * ((k : Nat) : Int) := by rw [IntKind.wrap_i64]; omega
  have HE : Hid (D.write k ys = { (D.write0 k ys).spend 4 with wr := D.wr ++ secs (512 * k) ys ((D.write0 k ys).spent 4) }) := rfl
  have HWR : Hid (((D.write0 k ys).spend 4).wr = D.wr) := (D.write0 k ys).spend_wr 4
  rw [show (((512 * k : Nat)) : Int) = 512 * ((k : Nat) : Int) by omega] at hfrom
  clear h hn hy hoff hyl hw hT1 ho1 hf1 hr1 hsl hl
  unfold at0 at *
  generalize hE : (D.write0 k ys).spend 4 = E at *
  generalize (D.write0 k ys).spent 4 = m at *
  clear hE
  go_enter Tryz.func113, Tryz.ntmps113
  go_wp2_with fail
  refine HG.out.mono ?_
  rintro e w' ⟨rfl, hw⟩
  obtain rfl := hw.symm
  go_wp2_with (refine wpList_copy _ rfl 32 (.tmp 25) (.tmp 26) rfl _ _ HRC.out ?_)
  refine HSP.out.mono ?_
  rintro e w2 ⟨rfl, hd2, hf2, _⟩
  have HT2 := hide (HT1.out.trans (Turned.cell hd2 hf2))
  clear hd2 hf2
  go_wp2_with fail
  go_loopw [30] (fun i wr => ∃ (j : Nat) (L' : Dl), j ≤ m ∧ i = .int .i64 j ∧ Hid (Turned w p L wr { E with wr := D.wr ++ secs (512 * k) ys j } L')) (fun i _ => m - (intOf i).toNat)
  case atStart =>
    refine ⟨0, L, by omega, rfl, ?_⟩
    have e : ({ E with wr := D.wr ++ secs (512 * k) ys 0 } : Ds) = E := by
      have : D.wr ++ secs (512 * k) ys 0 = E.wr := by rw [HWR.out]; simp [secs]
      rw [this]
    show Turned _ _ _ _ _ _
    rw [e]
    exact HT2.out
  case round =>
    obtain ⟨j, L', hj, rfl, hT⟩ := hrel
    rcases Nat.lt_or_ge j m with hlt | hge
    · have i1 : ((j : Nat) : Int) < ((m : Nat) : Int) := by omega
      have hmul : IntKind.i64.wrap (((j : Nat) : Int) * 128) = 128 * ((j : Nat) : Int) := by rw [IntKind.wrap_i64]; omega
      have hadd : IntKind.i64.wrap (512 * ((k : Nat) : Int) + 128 * ((j : Nat) : Int)) = 512 * ((k : Nat) : Int) + 128 * ((j : Nat) : Int) := by rw [IntKind.wrap_i64]; omega
      have hbld := sw_build (512 * ((k : Nat) : Int) + 128 * ((j : Nat) : Int))
      obtain ⟨x0, hx0⟩ : ∃ x0, x0 = 512 * k + 128 * j := ⟨_, rfl⟩
      have e0 : 512 * ((k : Nat) : Int) + 128 * ((j : Nat) : Int) = ((x0 : Nat) : Int) := by omega
      have hz := sw_zero x0
      rw [← e0] at hz
      rw [hz] at hbld
      obtain ⟨xz, hxz⟩ : ∃ xz : Sw, xz = ⟨x0, List.replicate 128 0⟩ := ⟨_, rfl⟩
      rw [← hxz] at hbld
      have HBL := hide hbld
      have HAL := hide (sw_alloc wr)
      have HST := hide (sw_store xz (by rw [hxz]; simp) wr)
      have hqn : ¬ L'.F p wr.heap.size := fun hk => by have := hT.out.dev.lt hk; omega
      obtain ⟨C, hC⟩ : ∃ C, C = (.cells xz.cells.toArray 150 : Obj) := ⟨_, rfl⟩
      rw [← hC] at HST
      have HTA := hide (hT.out.trans (Turned.same hT.out.dev (below_alloc wr C)))
      have HQ : Hid (SwBlk (wr.alloc C) wr.heap.size ⟨x0, List.replicate 128 0⟩) := by
        show SwBlk _ _ _
        rw [hC, hxz]
        exact heap_alloc_new wr _
      have HY2 := hide (HY.out.turned HOFF.out HTA.out)
      have HQN := hide hqn
      have HX0 := hide hx0
      clear hC hx0 e0 hz hbld hqn hxz
      go_wp2_with (first | refine wpList_build78 _ rfl 150 (.tmp 36) rfl (.int .i64 (512 * ((k : Nat) : Int) + 128 * ((j : Nat) : Int))) (.agg xz.cells.toArray) rfl HBL.out ?_ | refine wpList_alloc _ rfl 150 rfl (.pointer (some ⟨wr.heap.size, 0, none⟩)) _ HAL.out ?_ | refine wpList_store _ rfl rfl 150 (.tmp 9) (.tmp 37) rfl (.pointer (some ⟨wr.heap.size, 0, none⟩)) (.agg xz.cells.toArray) rfl rfl (wr.alloc C) HST.out ?_)
      simp only [Act.put, List.setIfInBounds_toArray, List.set_cons_zero, List.set_cons_succ]
      refine Pl.region_is (ops := Pl.find 11 ((Tryz.f113.body).getD .skip)) (by kernel_rfl) ?_
      refine write11 (wr.alloc C) wr.heap.size x0 j a 512 cap ys HY2.out rfl (by omega) HQ.out (by rfl) rfl (by rfl) (by rfl) (by rfl) ?_
      intro u11 w3 hq3 hf3
      have hfb : Frm (fun _ => False) wr w3 := ⟨hf3.os, hf3.tape, hf3.output, Nat.le_trans (below_alloc wr C).size hf3.size, fun k hk _ => (hf3.block k (Nat.lt_of_lt_of_le hk (below_alloc wr C).size) (fun e => by omega)).trans ((below_alloc wr C).block k hk)⟩
      have hd3 := hT.out.dev.frm hfb (fun _ _ e => e)
      have HT3 := hide (hT.out.trans ⟨hd3, hfb.mono (fun _ _ e => e.elim), fun k hk => .inl hk⟩)
      have HQ3 := hide hq3
      have HF3 := hide hf3
      clear hq3 hf3 hfb hd3
      simp only [Act.put, List.setIfInBounds_toArray, List.set_cons_zero, List.set_cons_succ]
      go_wp2_with fail
      refine Pl.region_is (ops := Pl.find 12 ((Tryz.f113.body).getD .skip)) (by kernel_rfl) ?_
      have hlen : ∀ x ∈ D.wr ++ secs (512 * k) ys j, x.b.length = 128 := by
        intro x hx
        rcases List.mem_append.1 hx with h1 | h1
        · exact HW.out x h1
        · exact (secs_ok (512 * k) ys j (512 * k + 512) HYL.out HY.out.bs.2.1 (by omega) (Nat.le_refl _) x h1).len
      refine write12 w3 p _ L' HT3.out.dev wr.heap.size _ HQ3.out (by
        have := HYL.out
        simp only [List.length_take, List.length_drop]; omega) hlen HQN.out (by
        show (D.wr ++ secs (512 * k) ys j).length ≤ _
        simp only [secs, List.length_append, List.length_map, List.length_range]; omega) (by rfl) rfl (by rfl) (by rfl) ?_
      rintro u12 w4 ⟨L4, hT4⟩
      have HT4 := hide (HT3.out.trans hT4)
      clear hT4 hlen
      simp only [Act.put, List.setIfInBounds_toArray, List.set_cons_zero, List.set_cons_succ]
      go_wp2_with fail
      go_roundw
      case rel =>
        refine ⟨j + 1, L4, by omega, by go_num, ?_⟩
        have e := HT4.out
        rw [HX0.out] at e
        show Turned _ _ _ _ _ _
        rw [secs_succ, ← List.append_assoc]
        exact e
      case measure => simp only [intOf]; omega
    · obtain rfl : j = m := by omega
      have i1 : ¬ ((j : Nat) : Int) < ((j : Nat) : Int) := by omega
      go_wp2_with fail
      go_ret
      rw [HE.out]
      exact ⟨rfl, L', hT.out⟩

end Go.Proofs.YtpggkfdnpdhkfaaGreat
