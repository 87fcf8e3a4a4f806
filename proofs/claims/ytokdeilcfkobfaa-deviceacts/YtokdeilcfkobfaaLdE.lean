/-
  The landed device: Append.
-/
import Derived.Test.YtokdeilcfkobfaaLdD
namespace Go.Proofs.Ytokdeilcfkobfaa
open Go.RowKit

theorem Frm.pblk {F : Nat → Prop} {w w1 : World} {p : Nat} {D : Ds} {L : Dl} (hf : Frm F w w1) (h : DevM w p D L) (hF : ¬ F p) : w1.heap[p]? = some (.cells (dvCells D L) 69 (0, 0)) := (hf.block p (h.lt (.inl rfl)) hF).trans h.blk

/-- Bytes that came are apart from a device's blocks. -/
def Off (F : Nat → Prop) (a : Option Addr) (len : Nat) : Prop := ∀ ad, a = some ad → 0 < len → ¬ F ad.block
theorem Came.frm {F : Nat → Prop} {w w1 : World} {a : Option Addr} {len cap : Nat} {xs : List Nat} (h : Came w a len cap xs) (hf : Frm F w w1) (ho : Off F a len) : Came w1 a len cap xs := by
  refine ⟨⟨h.bs.1, h.bs.2.1, fun i hi => ?_⟩, h.nil, h.le, h.big⟩
  obtain ⟨b, off, ha, hc⟩ := h.bs.2.2 i hi
  refine ⟨b, off, ha, ?_⟩
  have := hf.block b (World.block_lt_of_cell? w _ hc) (ho _ ha (by omega))
  simp only [World.cell?] at hc ⊢
  rw [this]
  exact hc
theorem Off.turned {w w' : World} {p : Nat} {D' : Ds} {L L' : Dl} {a : Option Addr} {len cap : Nat} {xs : List Nat} (h : Off (L.F p) a len) (hc : Came w a len cap xs) (ht : Turned w p L w' D' L') : Off (L'.F p) a len := by
  intro ad ha hl hk
  rcases ht.foot _ hk with h1 | h1
  · exact h ad ha hl h1
  · obtain ⟨b, off, e, hcell⟩ := hc.bs.2.2 0 hl
    rw [ha] at e
    obtain rfl := Option.some.inj e
    have := World.block_lt_of_cell? w _ hcell
    simp only at *
    omega
theorem Came.turned {w w' : World} {p : Nat} {D' : Ds} {L L' : Dl} {a : Option Addr} {len cap : Nat} {xs : List Nat} (hc : Came w a len cap xs) (h : Off (L.F p) a len) (ht : Turned w p L w' D' L') : Came w' a len cap xs := hc.frm ht.frm h

theorem Ds.spend_b (D : Ds) (n : Nat) (f : Fld) : (D.spend n).b f = D.b f := by
  unfold Ds.spend
  split
  · rfl
  · split
    · rfl
    · split <;> cases f <;> rfl
theorem Ds.spend_wr (D : Ds) (n : Nat) : (D.spend n).wr = D.wr := by
  unfold Ds.spend
  split
  · rfl
  · split
    · rfl
    · split <;> rfl
theorem Ds.spend_tr (D : Ds) (n : Nat) : (D.spend n).tr = D.tr := by
  unfold Ds.spend
  split
  · rfl
  · split
    · rfl
    · split <;> rfl
theorem Ds.spent_le (D : Ds) (n : Nat) : D.spent n ≤ n := by
  unfold Ds.spent
  split
  · omega
  · split
    · omega
    · split <;> omega
theorem Came.upto {w : World} {a : Option Addr} {len cap : Nat} {xs : List Nat} (h : Came w a len cap xs) (k : Nat) (hk : k ≤ len) : Came w (fromA a cap 0) k cap (xs.take k) := by
  refine ⟨h.bs.upto hk, fun e => ?_, Nat.le_trans hk h.le, Nat.le_trans hk h.big⟩
  unfold fromA at e
  split at e
  · omega
  · cases ha : a with
    | none => exact h.nil ha
    | some x => rw [ha] at e; cases e
theorem vals_append_one (xs ys : List Nat) : ∀ u ∈ vals xs ++ vals ys, u.oneCell' = true := by rw [← vals_append]; exact vals_one _
theorem Bytes.append {xs ys : List Nat} (h : Bytes xs) (k : Bytes ys) : Bytes (xs ++ ys) := fun x hx => (List.mem_append.1 hx).elim (h x) (k x)
theorem Bytes.take {xs : List Nat} (h : Bytes xs) (k : Nat) : Bytes (xs.take k) := fun x hx => h x (List.mem_of_mem_take hx)
theorem Bytes.drop {xs : List Nat} (h : Bytes xs) (k : Nat) : Bytes (xs.drop k) := fun x hx => h x (List.mem_of_mem_drop hx)

/-- Bytes appended to a field of the device. -/
theorem DevM.app {w : World} {p : Nat} {D : Ds} {L : Dl} (h : DevM w p D L) (f : Fld) (a : Option Addr) (len cap : Nat) (ys : List Nat) (hy : Came w a len cap ys) (hm : (D.b f).length + len ≤ 1000000) :
    ∃ s' w1, (∀ ty, (Builtin.append_ #[30, 30] ty #[(L.s f).val, .slice a len cap]).run Try.prog w = .ok s'.val w1) ∧ Own 5 1 w1 s' (vals (D.b f ++ ys)) ∧ Frm (fun k => (L.s f).blk = some k) w w1 ∧ (∀ k, s'.blk = some k → (L.s f).blk = some k ∨ w.heap.size ≤ k) := by
  have hl := h.len f
  obtain ⟨s', w1, hr, ho, _, hf, hb⟩ := own_append (S := 30) Try.underlying30 info5 rfl (by omega) w (L.s f) _ (h.own f) (vals_one _) (.slice a len cap) len (vals ys) hy.src (by omega) 30
  refine ⟨s', w1, fun ty => hr, by rw [vals_append]; exact ho, hf, fun k hk => ?_⟩
  rcases hb with e | ⟨e, _⟩
  · exact .inl (by rw [← e]; exact hk)
  · rw [e] at hk
    cases hk
    exact .inr (Nat.le_refl _)

theorem wpList_appRun (w : World) {ops : Array Oper} {rest : List Oper} {o : Oper} {a : Act} {Q : Exit → Act → World → Prop} (hgd : o.guard = none) (t : TypeId) (s x : Operand)
    (ho : o.op = .call { callee := .builtin .append, args := #[s, x], argTypes := #[t, t] }) (v' : Value) (w' : World) (hrun : ∀ ty, (Builtin.append_ #[t, t] ty #[a.eval s, a.eval x]).run Try.prog w = .ok v' w')
    (hK : wpList Try.prog ops Q rest (a.put o.dst v') w') : wpList Try.prog ops Q (o :: rest) a w := by
  refine wpList_plain hgd fun K hK' => ?_
  unfold Oper.wp
  simp [execOp, ho, resolve, invoke, builtin, hrun, Result.andThen]
  exact hK' _ _ hK

set_option maxHeartbeats 2000000 in
set_option maxRecDepth 100000 in
theorem append6 (w : World) (p : Nat) (D : Ds) (L : Dl) (h : DevM w p D L) (a : Option Addr) (len cap : Nat) (ys : List Nat) (hy : Came w a len cap ys) (hoff : Off (L.F p) a len) (hl : D.armed = true → 0 ≤ D.left ∧ D.left ≤ 9223372036854775807) (hm : D.ap.length + len ≤ 1000000)
    {Q : Exit → Act → World → Prop} {A : Act} (hsz : A.tmps.size = 43) (hdf : A.defers = []) (s0 : A.tmps.getD 0 undef = .pointer (some ⟨p, 0, none⟩)) (s1 : A.tmps.getD 1 undef = .slice a len cap)
    (hend : ∀ (u : Nat → Value) w', (∃ L', Turned w p L w' { D.spend len with ap := D.ap ++ ys.take (D.spent len) } L') → Q .normal (((((((((((((((A).put (some 29) (u 29)).put (some 30) (u 30)).put (some 31) (u 31)).put (some 32) (u 32)).put (some 34) (u 34)).put (some 35) (u 35)).put (some 36) (u 36)).put (some 37) (u 37)).put (some 33) (u 33)).put (some 38) (u 38)).put (some 39) (u 39)).put (some 40) (u 40)).put (some 41) (u 41)).put (some 42) (u 42)) w') :
    (Code.region 6 (Pl.find 6 ((Try.f16.body).getD .skip)) true).wp Try.prog Q A w := by
  have hA := Pl.At.same (v := .slice a len cap) (d := 1) (Pl.At.same (v := .pointer (some ⟨p, 0, none⟩)) (d := 0) (Pl.At.here hsz hdf) s0) s1
  refine Pl.H.start (S := fun _ => True) (by kernel_rfl) hA True.intro ?_
  rw [show (Pl.find 6 ((Try.f16.body).getD .skip)).size = 15 by kernel_rfl]
  refine Pl.H.take 0 29 (.pointer (some ⟨p, 0, none⟩)) (by kernel_rfl) (by kernel_rfl) (by kernel_rfl) (Pl.free 0 (by kernel_rfl)) (Pl.move 0 (.tmp 0) (by kernel_rfl) (by decide)) True.intro ?_
  refine Pl.H.take 1 30 (.pointer (some ⟨p, 0, none⟩)) (by kernel_rfl) (by kernel_rfl) (by kernel_rfl) (Pl.free 1 (by kernel_rfl)) (Pl.move 1 (.tmp 0) (by kernel_rfl) (by decide)) True.intro ?_
  refine Pl.H.take 2 31 (.pointer (some ⟨p, 0, none⟩)) (by kernel_rfl) (by kernel_rfl) (by kernel_rfl) (Pl.free 2 (by kernel_rfl)) (Pl.nilc 2 (.tmp 30) _ (by kernel_rfl) (by decide) rfl) True.intro ?_
  refine Pl.H.take 3 32 (.pointer (some ⟨p, 7, none⟩)) (by kernel_rfl) (by kernel_rfl) (by kernel_rfl) (Pl.free 3 (by kernel_rfl)) (Pl.field 3 69 (.tmp 31) 3 _ (by kernel_rfl) (by decide) (fdDev3_0 p)) True.intro ?_
  refine Pl.H.take 5 34 (.slice a len cap) (by kernel_rfl) (by kernel_rfl) (by kernel_rfl) (Pl.free 5 (by kernel_rfl)) (Pl.move 5 (.tmp 1) (by kernel_rfl) (by decide)) True.intro ?_
  refine Pl.H.take 6 35 (.pointer (some ⟨p, 0, none⟩)) (by kernel_rfl) (by kernel_rfl) (by kernel_rfl) (Pl.free 6 (by kernel_rfl)) (Pl.move 6 (.tmp 0) (by kernel_rfl) (by decide)) True.intro ?_
  refine Pl.H.take 7 36 (.slice a len cap) (by kernel_rfl) (by kernel_rfl) (by kernel_rfl) (Pl.free 7 (by kernel_rfl)) (Pl.move 7 (.tmp 1) (by kernel_rfl) (by decide)) True.intro ?_
  refine Pl.H.take 8 37 (.int .i64 ((len : Nat) : Int)) (by kernel_rfl) (by kernel_rfl) (by kernel_rfl) (Pl.free 8 (by kernel_rfl)) (Pl.lenOf 8 30 (.tmp 36) _ (by kernel_rfl) (by decide) (fun _ _ => rfl)) True.intro ?_
  refine Pl.H.two 4 9 (by kernel_rfl) ?_ ?_
  · refine Pl.HOp.value 4 33 (.slice L.ap.a L.ap.len L.ap.cap) w.drew (by kernel_rfl) (by kernel_rfl) (by kernel_rfl) (Pl.load1 4 30 (.tmp 32) _ (by kernel_rfl) (by decide) (ldBs p 7 _ _ _ _ h.drew.c7)) True.intro ?_
    refine Pl.H.call 9 38 33 [(.tmp 35), (.tmp 37)] #[23, 3] (by kernel_rfl) (by kernel_rfl) (by kernel_rfl) (Pl.free 9 (by kernel_rfl)) (by kernel_rfl) (by decide) entSpend (Calls.mono (spend_any w.drew p D L h.drew len hl (by omega)) ?_)
    rintro e w2 ⟨rfl, hd2, hf2, hz2⟩
    refine ⟨.int .i64 ((D.spent len : Nat) : Int), rfl, True.intro, ?_⟩
    refine Pl.H.take 10 39 (.slice (fromA a cap 0) (D.spent len) cap) (by kernel_rfl) (by kernel_rfl) (by kernel_rfl) (Pl.free 10 (by kernel_rfl)) (Pl.slice 10 30 (.tmp 34) none (some (.tmp 38)) _ (by kernel_rfl) (by decide) (by decide) (by decide) (fun w => slice_upto a len cap (D.spent len) (Nat.le_trans (D.spent_le len) hy.le) w)) True.intro ?_
    have hy2 := (hy.frm ((Frm.refl (fun k => k = p) w).drew) (fun ad e1 e2 e3 => hoff ad e1 e2 (.inl e3))).frm hf2 (fun ad e1 e2 e3 => hoff ad e1 e2 (.inl e3))
    have hsl := D.spent_le len
    obtain ⟨s3, w3, hr3, ho3, hf3, hb3⟩ := hd2.app .ap _ _ _ _ (hy2.upto (D.spent len) hsl) (by rw [Ds.spend_b]; show D.ap.length + _ ≤ _; omega)
    have hT := (Turned.cell hd2 ((Frm.refl (fun k => k = p) w).drew.trans hf2 (fun _ _ e => e))).trans (hd2.swap .ap s3 _ hf3 ho3 ((hd2.byt .ap).append (hy.bs.2.1.take _)) hb3 7 { D.spend len with ap := D.ap ++ ys.take (D.spent len) } { L with ap := s3 } (by rfl) ⟨rfl, by rw [Ds.spend_b]; rfl⟩ (fun f hf => by cases f <;> first | exact ⟨rfl, rfl⟩ | exact absurd rfl hf) ⟨rfl, rfl⟩ ⟨rfl, rfl⟩)
    have hp3 := hf3.pblk hd2 (hd2.ne .ap)
    refine Pl.H.make 11 40 (s3.val) w3 (by kernel_rfl) (by kernel_rfl) (by kernel_rfl) (Pl.free 11 (by kernel_rfl)) (Pl.appT 11 30 30 (.tmp 33) (.tmp 39) _ _ (by kernel_rfl) (by kernel_rfl) (by decide) (by decide) (hr3 _)) True.intro ?_
    refine Pl.H.take 12 41 (.pointer (some ⟨p, 0, none⟩)) (by kernel_rfl) (by kernel_rfl) (by kernel_rfl) (Pl.free 12 (by kernel_rfl)) (Pl.nilc 12 (.tmp 29) _ (by kernel_rfl) (by decide) rfl) True.intro ?_
    refine Pl.H.take 13 42 (.pointer (some ⟨p, 7, none⟩)) (by kernel_rfl) (by kernel_rfl) (by kernel_rfl) (Pl.free 13 (by kernel_rfl)) (Pl.field 13 69 (.tmp 41) 3 _ (by kernel_rfl) (by decide) (fdDev3_0 p)) True.intro ?_
    refine Pl.H.store 14 (w3.setCell ⟨p, 7, none⟩ s3.val) (by kernel_rfl) (by kernel_rfl) (by kernel_rfl) (Pl.free 14 (by kernel_rfl)) (Pl.storeV 14 30 (.tmp 42) (.tmp 40) _ (by kernel_rfl) (by decide) (by decide) (stBs p 7 _ _ w3 (Addr.cell0 hp3) (frozen_of_row w3 p _ _ 69 hp3))) True.intro ?_
    refine Pl.H.done (by kernel_rfl) (fun A' hA' => ?_)
    rw [Pl.At.ext hA' ((((((((((((((hA.put 29 _).put 30 _).put 31 _).put 32 _).put 34 _).put 35 _).put 36 _).put 37 _).put 33 _).put 38 _).put 39 _).put 40 _).put 41 _).put 42 _)]
    exact hend (fun d => if d = 29 then .pointer (some ⟨p, 0, none⟩) else if d = 30 then .pointer (some ⟨p, 0, none⟩) else if d = 31 then .pointer (some ⟨p, 0, none⟩) else if d = 32 then .pointer (some ⟨p, 7, none⟩) else if d = 34 then .slice a len cap else if d = 35 then .pointer (some ⟨p, 0, none⟩) else if d = 36 then .slice a len cap else if d = 37 then .int .i64 ((len : Nat) : Int) else if d = 33 then .slice L.ap.a L.ap.len L.ap.cap else if d = 38 then .int .i64 ((D.spent len : Nat) : Int) else if d = 39 then .slice (fromA a cap 0) (D.spent len) cap else if d = 40 then s3.val else if d = 41 then .pointer (some ⟨p, 0, none⟩) else if d = 42 then .pointer (some ⟨p, 7, none⟩) else undef) _ ⟨_, hT⟩
  · refine Pl.HOp.call 9 38 33 [(.tmp 35), (.tmp 37)] #[23, 3] (by kernel_rfl) (by kernel_rfl) (by kernel_rfl) (by kernel_rfl) (by decide) entSpend (Calls.mono (spend_any w.drew p D L h.drew len hl (by omega)) ?_)
    rintro e w2 ⟨rfl, hd2, hf2, hz2⟩
    refine ⟨.int .i64 ((D.spent len : Nat) : Int), rfl, True.intro, ?_⟩
    refine Pl.H.take 10 39 (.slice (fromA a cap 0) (D.spent len) cap) (by kernel_rfl) (by kernel_rfl) (by kernel_rfl) (Pl.free 10 (by kernel_rfl)) (Pl.slice 10 30 (.tmp 34) none (some (.tmp 38)) _ (by kernel_rfl) (by decide) (by decide) (by decide) (fun w => slice_upto a len cap (D.spent len) (Nat.le_trans (D.spent_le len) hy.le) w)) True.intro ?_
    refine Pl.H.solo 4 33 (.slice L.ap.a L.ap.len L.ap.cap) (by kernel_rfl) (by kernel_rfl) (by kernel_rfl) (Pl.free 4 (by kernel_rfl)) (Pl.load1 4 30 (.tmp 32) _ (by kernel_rfl) (by decide) (ldBs p 7 _ _ _ _ hd2.c7)) True.intro ?_
    rw [Pl.upd_comm _ 39 33 _ _ (by decide)]
    rw [Pl.upd_comm _ 38 33 _ _ (by decide)]
    have hy2 := (hy.frm ((Frm.refl (fun k => k = p) w).drew) (fun ad e1 e2 e3 => hoff ad e1 e2 (.inl e3))).frm hf2 (fun ad e1 e2 e3 => hoff ad e1 e2 (.inl e3))
    have hsl := D.spent_le len
    obtain ⟨s3, w3, hr3, ho3, hf3, hb3⟩ := hd2.app .ap _ _ _ _ (hy2.upto (D.spent len) hsl) (by rw [Ds.spend_b]; show D.ap.length + _ ≤ _; omega)
    have hT := (Turned.cell hd2 ((Frm.refl (fun k => k = p) w).drew.trans hf2 (fun _ _ e => e))).trans (hd2.swap .ap s3 _ hf3 ho3 ((hd2.byt .ap).append (hy.bs.2.1.take _)) hb3 7 { D.spend len with ap := D.ap ++ ys.take (D.spent len) } { L with ap := s3 } (by rfl) ⟨rfl, by rw [Ds.spend_b]; rfl⟩ (fun f hf => by cases f <;> first | exact ⟨rfl, rfl⟩ | exact absurd rfl hf) ⟨rfl, rfl⟩ ⟨rfl, rfl⟩)
    have hp3 := hf3.pblk hd2 (hd2.ne .ap)
    refine Pl.H.make 11 40 (s3.val) w3 (by kernel_rfl) (by kernel_rfl) (by kernel_rfl) (Pl.free 11 (by kernel_rfl)) (Pl.appT 11 30 30 (.tmp 33) (.tmp 39) _ _ (by kernel_rfl) (by kernel_rfl) (by decide) (by decide) (hr3 _)) True.intro ?_
    refine Pl.H.take 12 41 (.pointer (some ⟨p, 0, none⟩)) (by kernel_rfl) (by kernel_rfl) (by kernel_rfl) (Pl.free 12 (by kernel_rfl)) (Pl.nilc 12 (.tmp 29) _ (by kernel_rfl) (by decide) rfl) True.intro ?_
    refine Pl.H.take 13 42 (.pointer (some ⟨p, 7, none⟩)) (by kernel_rfl) (by kernel_rfl) (by kernel_rfl) (Pl.free 13 (by kernel_rfl)) (Pl.field 13 69 (.tmp 41) 3 _ (by kernel_rfl) (by decide) (fdDev3_0 p)) True.intro ?_
    refine Pl.H.store 14 (w3.setCell ⟨p, 7, none⟩ s3.val) (by kernel_rfl) (by kernel_rfl) (by kernel_rfl) (Pl.free 14 (by kernel_rfl)) (Pl.storeV 14 30 (.tmp 42) (.tmp 40) _ (by kernel_rfl) (by decide) (by decide) (stBs p 7 _ _ w3 (Addr.cell0 hp3) (frozen_of_row w3 p _ _ 69 hp3))) True.intro ?_
    refine Pl.H.done (by kernel_rfl) (fun A' hA' => ?_)
    rw [Pl.At.ext hA' ((((((((((((((hA.put 29 _).put 30 _).put 31 _).put 32 _).put 34 _).put 35 _).put 36 _).put 37 _).put 33 _).put 38 _).put 39 _).put 40 _).put 41 _).put 42 _)]
    exact hend (fun d => if d = 29 then .pointer (some ⟨p, 0, none⟩) else if d = 30 then .pointer (some ⟨p, 0, none⟩) else if d = 31 then .pointer (some ⟨p, 0, none⟩) else if d = 32 then .pointer (some ⟨p, 7, none⟩) else if d = 34 then .slice a len cap else if d = 35 then .pointer (some ⟨p, 0, none⟩) else if d = 36 then .slice a len cap else if d = 37 then .int .i64 ((len : Nat) : Int) else if d = 33 then .slice L.ap.a L.ap.len L.ap.cap else if d = 38 then .int .i64 ((D.spent len : Nat) : Int) else if d = 39 then .slice (fromA a cap 0) (D.spent len) cap else if d = 40 then s3.val else if d = 41 then .pointer (some ⟨p, 0, none⟩) else if d = 42 then .pointer (some ⟨p, 7, none⟩) else undef) _ ⟨_, hT⟩

/-- A device behind bytes that are appended to its stream. -/
def Ds.append (D : Ds) (b : List Nat) : Ds := { D.spend b.length with ss := D.ss ++ b, ap := D.ap ++ b.take (D.spent b.length) }

theorem Ds.append_eq (D : Ds) (ys : List Nat) : { Ds.spend { D with ss := D.ss ++ ys } ys.length with ap := D.ap ++ ys.take (Ds.spent { D with ss := D.ss ++ ys } ys.length) } = D.append ys := by
  unfold Ds.append Ds.spend Ds.spent
  simp only
  split
  · rfl
  · split
    · rfl
    · split <;> rfl

set_option maxHeartbeats 4000000 in
theorem append_ok (w : World) (p : Nat) (D : Ds) (L : Dl) (h : DevM w p D L) (n : Nat) (hn : D.sp.length = 512 * n) (hn2 : n ≤ 64) (hn1 : 1 ≤ n) (a : Option Addr) (len cap : Nat) (ys : List Nat) (hy : Came w a len cap ys) (hoff : Off (L.F p) a len) (hl : D.armed = true → 0 ≤ D.left ∧ D.left ≤ 9223372036854775807) (hm : D.ap.length + len ≤ 1000000) (hs : D.ss.length + len ≤ 65536) :
    Calls Try.prog 16 #[at0 p, .slice a len cap] w fun e w' => e = .returned (.int .i64 0) ∧ ∃ L', Turned w p L w' (D.append ys) L' := by
  have HG := hide (given_any w p D L h n hn hn2 hn1)
  have hsl : D.ss.length = L.ss.len := h.len .ss
  obtain ⟨s1, w1, hr1, ho1, hf1, hb1⟩ := h.app .ss a len cap ys hy (by show D.ss.length + len ≤ _; omega)
  have hT := h.swap .ss s1 _ hf1 ho1 ((h.byt .ss).append hy.bs.2.1) hb1 2 { D with ss := D.ss ++ ys } { L with ss := s1 } (by rfl) ⟨rfl, rfl⟩ (fun f hf => by cases f <;> first | exact ⟨rfl, rfl⟩ | exact absurd rfl hf) ⟨rfl, rfl⟩ ⟨rfl, rfl⟩
  have hp1 := hf1.pblk h (h.ne .ss)
  have d2 : w1.cell? ⟨p, 2, none⟩ = some (.slice L.ss.a L.ss.len L.ss.cap) := (Addr.cell0 hp1).trans rfl
  have df := frozen_of_row w1 p 2 _ 69 hp1
  have hyl := hy.bs.1
  have HR : Hid (∀ {Q : Exit → Act → World → Prop} {A : Act}, _) := fun {Q A} => append6 _ p _ _ hT.dev a len cap ys (hy.turned hoff hT) (hoff.turned hy hT) hl hm (Q := Q) (A := A)
  have HT := hide hT
  have c2 := h.c2
  have HRUN := hide hr1
  have HE := hide (D.append_eq ys)
  rw [hyl] at HE
  have hw1 : IntKind.i64.wrap (65536 - ((L.ss.len : Nat) : Int)) = 65536 - ((L.ss.len : Nat) : Int) := by rw [IntKind.wrap_i64]; omega
  have hc1 : ¬ (65536 - ((L.ss.len : Nat) : Int) < ((len : Nat) : Int)) := by omega
  have hc2 : ((len : Nat) : Int) ≤ 65536 - ((L.ss.len : Nat) : Int) := by omega
  obtain ⟨a1, l1, k1⟩ := s1
  unfold Sl.val at HR HT HRUN
  unfold Dl.s at HRUN
  simp only at HR HT HRUN
  clear hT ho1 hf1 hb1 hr1 hp1 h hy hoff hn hs hyl hsl
  unfold at0 at *
  go_enter Try.func16, Try.ntmps16
  go_wp2_with fail
  refine HG.out.mono ?_
  rintro e w' ⟨rfl, hw⟩
  obtain rfl := hw.symm
  go_wp2_with (at_builtin; refine wpList_appRun _ rfl 30 (.tmp 23) (.tmp 24) rfl _ _ HRUN.out ?_)
  go_wp2_with fail
  refine Pl.region_is (ops := Pl.find 6 ((Try.f16.body).getD .skip)) (by kernel_rfl) ?_
  refine HR.out (by rfl) rfl (by rfl) (by rfl) ?_
  rintro u w' ⟨L', hT2⟩
  have HT2 := hide (HT.out.trans hT2)
  simp only [Act.put, List.setIfInBounds_toArray, List.set_cons_zero, List.set_cons_succ]
  clear hT2
  go_wp2_with fail
  go_ret
  refine ⟨rfl, L', ?_⟩
  rw [← HE.out]
  exact HT2.out

set_option maxHeartbeats 2000000 in
theorem append_full (w : World) (p : Nat) (D : Ds) (L : Dl) (h : DevM w p D L) (n : Nat) (hn : D.sp.length = 512 * n) (hn2 : n ≤ 64) (hn1 : 1 ≤ n) (a : Option Addr) (len cap : Nat) (hss : D.ss.length ≤ 65536) (hs : 65536 < D.ss.length + len) :
    Calls Try.prog 16 #[at0 p, .slice a len cap] w fun e w' => e = .returned (.int .i64 10) ∧ w' = w := by
  have HG := hide (given_any w p D L h n hn hn2 hn1)
  have hsl : D.ss.length = L.ss.len := h.len .ss
  have c2 := h.c2
  have hw1 : IntKind.i64.wrap (65536 - ((L.ss.len : Nat) : Int)) = 65536 - ((L.ss.len : Nat) : Int) := by rw [IntKind.wrap_i64]; omega
  have hc1 : (65536 - ((L.ss.len : Nat) : Int) < ((len : Nat) : Int)) := by omega
  clear h hn hs hsl hss
  unfold at0 at *
  go_enter Try.func16, Try.ntmps16
  go_wp2_with fail
  refine HG.out.mono ?_
  rintro e w' ⟨rfl, hw⟩
  obtain rfl := hw.symm
  go_wp2_with fail
  go_ret
  exact ⟨rfl, rfl⟩

end Go.Proofs.Ytokdeilcfkobfaa
