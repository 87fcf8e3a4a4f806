/-
  What pack's own Put hands back, call by call.
-/
import Derived.Test.YtdbgbldmjgonjaaPackD
namespace Go.Proofs.Ytdbgbldmjgonjaa
open Go.RowKit

theorem bigB_get (u : Nat) : ∀ n j, j < n → (bigB u n).getD j 0 = u / 256 ^ (n - 1 - j) % 256
  | 0, j, h => by omega
  | n + 1, 0, _ => by simp [bigB]
  | n + 1, j + 1, h => by
    have := bigB_get u n j (by omega)
    rw [show n + 1 - 1 - (j + 1) = n - 1 - j by omega, ← this]
    simp [bigB, List.getD]

theorem bigB_take (u n j : Nat) (h : j < n) : (bigB u n).take (j + 1) = (bigB u n).take j ++ [u / 256 ^ (n - 1 - j) % 256] := by
  have hl : j < (bigB u n).length := by rw [bigB_length]; exact h
  rw [List.take_succ_eq_append_getElem hl, ← bigB_get u n j h]
  simp [List.getD, hl]

theorem shr_byte (u k : Nat) : ((u : Int) / 2 ^ (8 * k) % 256) = ((u / 256 ^ k % 256 : Nat) : Int) := by
  have h : (256 : Nat) ^ k = 2 ^ (8 * k) := by rw [Nat.pow_mul]
  rw [h]
  simp

set_option maxHeartbeats 1000000 in
theorem appendBits_any (base : Nat) (v : Value) (xs : List Nat) (u n : Nat) (hu : u < 18446744073709551616) (hn : n ≤ 8) (w : World) (hown : Owns w base v xs) (hbase : base ≤ w.heap.size) (hlen : xs.length ≤ 900000) :
    Calls Try.prog 72 #[v, .int .u64 (u : Nat), .int .i64 (n : Nat)] w fun e w' => ∃ v', e = .returned v' ∧ Owns w' base v' (xs ++ bigB u n) ∧ Below base w w' ∧ Stay w w' := by
  have HU := hide hu
  have HO := hide hown
  have HBS := hide hbase
  have HL := hide hlen
  clear hu hown hbase hlen
  go_enter Try.func72, Try.ntmps72
  go_wp2_with fail
  go_loopw [0, 7] (fun v' i wr => ∃ j : Nat, j ≤ n ∧ i = .int .i64 (8 * ((n : Int) - 1 - j)) ∧ Hid (Owns wr base v' (xs ++ (bigB u n).take j)) ∧ Hid (Below base w wr) ∧ Hid (Stay w wr)) (fun _ i _ => (intOf i + 8).toNat)
  case atStart => exact ⟨0, by omega, by congr 1; omega, hide (by simpa using HO.out), hide (Below.refl _ _), hide (Stay.refl _)⟩
  case round =>
    obtain ⟨j, hj, rfl, hown, hWr, hSt⟩ := hrel
    rcases Nat.lt_or_ge j n with hlt | hge
    · have i1 : (0 : Int) ≤ 8 * ((n : Int) - 1 - j) := by omega
      have HY : Hid (Bs (wr.alloc (.cells #[.int .u8 ((u : Int) / 2 ^ (8 * (n - 1 - j)) % 256)] 5)) (some ⟨wr.heap.size, 0, none⟩) 1 [u / 256 ^ (n - 1 - j) % 256]) := by
        rw [shr_byte u (n - 1 - j)]
        exact bs_marked wr [u / 256 ^ (n - 1 - j) % 256] (0, 0) (fun y hy => by simp at hy; omega)
      have HO1 : Hid (Owns (wr.alloc (.cells #[.int .u8 ((u : Int) / 2 ^ (8 * (n - 1 - j)) % 256)] 5)) base u0 (xs ++ (bigB u n).take j)) := hown.out.keep (below_alloc wr _) (Nat.le_refl _)
      have HB1 : Hid (Below base w (wr.alloc (.cells #[.int .u8 ((u : Int) / 2 ^ (8 * (n - 1 - j)) % 256)] 5))) := hWr.out.alloc (Nat.le_trans HBS.out hWr.out.size) _
      have HLL : Hid ((xs ++ (bigB u n).take j).length + 1 ≤ 1000000) := by
        have := HL.out
        simp [bigB_length]
        show _ ≤ _
        omega
      go_wp2_with (at_builtin; refine wpList_append_bytes' _ rfl (.tmp 15) (.tmp 20) rfl base _ (xs ++ (bigB u n).take j) rfl HO1.out _ _ _ _ rfl HY.out (fun e => by cases e) HLL.out (Nat.le_trans HBS.out HB1.out.size) ?_)
      intro v3 w3 ho3 hb3 hs3
      have HO3 : Hid (Owns w3 base v3 (xs ++ (bigB u n).take (j + 1))) := by
        rw [bigB_take u n j hlt]
        exact ho3
      have HB3 := hide (HB1.out.trans hb3)
      have HS3 := hide (hSt.out.trans ((Stay.below (below_alloc wr _)).trans hs3))
      clear ho3 hb3 hs3
      go_wp2
      go_roundw
      case rel => exact ⟨j + 1, by omega, by congr 1; omega, HO3, HB3, HS3⟩
      case measure => simp only [intOf]; omega
    · have hjn : j = n := by omega
      subst hjn
      have i1 : ¬ (0 : Int) ≤ 8 * ((j : Int) - 1 - j) := by omega
      have HO2 : Hid (Owns wr base u0 (xs ++ bigB u j)) := by
        have := hown.out
        rw [List.take_of_length_le (by rw [bigB_length]; exact Nat.le_refl _)] at this
        exact this
      clear hown
      go_wp2_with fail
      go_ret
      exact ⟨_, rfl, HO2.out, hWr.out, hSt.out⟩

theorem cntN_le (k : Int) : cntN k ≤ 8 := by
  unfold cntN
  split
  · omega
  · split <;> omega

/-- An item's block. -/
def ItBlk (w : World) (p : Nat) (x : It) : Prop := w.heap[p]? = some (Obj.cells #[.int .i64 x.kind, .int .i64 x.n, .float .f64 x.x, .string x.s] 67 (0, 0))

theorem ItBlk.at {w : World} {p : Nat} {x : It} (h : ItBlk w p x) : ItAt w p 0 x := by
  unfold ItBlk at h
  refine ⟨?_, ?_, ?_, ?_⟩ <;> simp [World.cell?, h]

theorem ItBlk.stay {w w' : World} {p : Nat} {x : It} (h : ItBlk w p x) (hs : Stay w w') : ItBlk w' p x := (hs p _ _ _ h (by decide)).trans h

theorem itBlk_new (w : World) (x : It) : ItBlk (w.alloc (.cells #[.int .i64 x.kind, .int .i64 x.n, .float .f64 x.x, .string x.s] 67)) w.heap.size x := heap_alloc_new w _

theorem conv_u64 (m : Nat) (hm : m < 9223372036854775808) (w : World) : (convert 3 93 (.int .i64 (m : Nat))).run Try.prog w = .ok (.int .u64 (m : Nat)) w := by
  have h1 : Try.prog.underlying 3 = some (.int .i64) := by kernel_rfl
  have h2 : Try.prog.underlying 93 = some (.int .u64) := by kernel_rfl
  have e : IntKind.u64.wrap (m : Int) = (m : Int) := by rw [IntKind.wrap_u64]; omega
  simp [go_sem, convert, run_underlying h1, run_underlying h2, e]

theorem conv_u8 (m : Nat) (hm : m < 256) (w : World) : (convert 3 5 (.int .i64 (m : Nat))).run Try.prog w = .ok (.int .u8 (m : Nat)) w := by
  have h1 : Try.prog.underlying 3 = some (.int .i64) := by kernel_rfl
  have h2 : Try.prog.underlying 5 = some (.int .u8) := by kernel_rfl
  have e : IntKind.u8.wrap (m : Int) = (m : Int) := by rw [IntKind.wrap_u8]; omega
  simp [go_sem, convert, run_underlying h1, run_underlying h2, e]

theorem len_str (s : ByteArray) (ty : TypeId) (w : World) : (Builtin.len_ #[9] ty #[.string s]).run Try.prog w = .ok (.int .i64 (s.size : Nat)) w := by
  simp [go_sem]

theorem enters75 : ∀ args w, (callFunc 75 args).run Try.prog w = .ok (.enter 75 args) w := Pl.enters Try.func75 (by kernel_rfl) (by kernel_rfl)
theorem enters72 : ∀ args w, (callFunc 72 args).run Try.prog w = .ok (.enter 72 args) w := Pl.enters Try.func72 (by kernel_rfl) (by kernel_rfl)


set_option maxHeartbeats 2000000 in
set_option maxRecDepth 100000 in
theorem put6 (w : World) (base p : Nat) (v : Value) (xs : List Nat) (k : Int) (m x : Nat) (s : ByteArray) (hp : ItBlk w p ⟨k, (m : Nat), x, s⟩) (hown : Owns w base v xs) (hbase : base ≤ w.heap.size) (hlen : xs.length ≤ 900000) (hm : m < 2147483648)
    {Q : Exit → Act → World → Prop} {A : Act} (hsz : A.tmps.size = 35) (hdf : A.defers = []) (s0 : A.tmps.getD 0 undef = v) (s3 : A.tmps.getD 3 undef = .pointer (some ⟨p, 0, none⟩))
    (hend : ∀ (u : Nat → Value) v' w', Owns w' base v' (xs ++ bigB m (cntN k)) → Below base w w' → Q .normal ((((((((((A).put (some 27) (u 27)).put (some 28) (u 28)).put (some 29) (u 29)).put (some 30) (u 30)).put (some 31) (u 31)).put (some 32) (u 32)).put (some 33) (u 33)).put (some 34) (v')).put (some 4) (v')) w') :
    (Code.region 6 (Pl.find 6 ((Try.f56.body).getD .skip)) true).wp Try.prog Q A w := by
  have hS0 : ItBlk w.drew p (⟨k, (m : Nat), x, s⟩ : It) := hp
  have hA := Pl.At.same (v := .pointer (some ⟨p, 0, none⟩)) (d := 3) (Pl.At.same (v := v) (d := 0) (Pl.At.here hsz hdf) s0) s3
  refine Pl.H.start (S := fun w' => ItBlk w' p (⟨k, (m : Nat), x, s⟩ : It)) (by kernel_rfl) hA hS0 ?_
  rw [show (Pl.find 6 ((Try.f56.body).getD .skip)).size = 9 by kernel_rfl]
  refine Pl.H.take 0 27 (v) (by kernel_rfl) (by kernel_rfl) (by kernel_rfl) (Pl.free 0 (by kernel_rfl)) (Pl.move 0 (.tmp 0) (by kernel_rfl) (by decide)) hS0 ?_
  refine Pl.H.take 1 28 (.pointer (some ⟨p, 1, none⟩)) (by kernel_rfl) (by kernel_rfl) (by kernel_rfl) (Pl.free 1 (by kernel_rfl)) (Pl.field 1 67 (.tmp 3) 1 _ (by kernel_rfl) (by decide) (field_it1 p)) hS0 ?_
  refine Pl.H.take 2 29 (.int .i64 (m : Nat)) (by kernel_rfl) (by kernel_rfl) (by kernel_rfl) (Pl.free 2 (by kernel_rfl)) (Pl.load 2 3 (.tmp 28) _ (by kernel_rfl) (by decide) (fun w' hS => load_int p 1 _ w' (ItBlk.at hS).p1)) hS0 ?_
  refine Pl.H.take 3 30 (.int .u64 (m : Nat)) (by kernel_rfl) (by kernel_rfl) (by kernel_rfl) (Pl.free 3 (by kernel_rfl)) (Pl.convV 3 3 93 (.tmp 29) (.int .i64 (m : Nat)) _ (by kernel_rfl) (by decide) rfl (fun w' _ => conv_u64 m (by omega) w')) hS0 ?_
  refine Pl.H.take 4 31 (.pointer (some ⟨p, 0, none⟩)) (by kernel_rfl) (by kernel_rfl) (by kernel_rfl) (Pl.free 4 (by kernel_rfl)) (Pl.field 4 67 (.tmp 3) 0 _ (by kernel_rfl) (by decide) (field_it0 p)) hS0 ?_
  refine Pl.H.take 5 32 (.int .i64 k) (by kernel_rfl) (by kernel_rfl) (by kernel_rfl) (Pl.free 5 (by kernel_rfl)) (Pl.load 5 3 (.tmp 31) _ (by kernel_rfl) (by decide) (fun w' hS => load_int p 0 _ w' (ItBlk.at hS).p0)) hS0 ?_
  refine Pl.H.call 6 33 75 [(.tmp 32)] #[3] (by kernel_rfl) (by kernel_rfl) (by kernel_rfl) (Pl.free 6 (by kernel_rfl)) (by kernel_rfl) (by decide) enters75 (Calls.mono (countSize_any k w.drew) ?_)
  rintro e w' ⟨rfl, hw⟩
  obtain rfl := hw.symm
  refine ⟨.int .i64 (cntN k : Nat), rfl, hS0, ?_⟩
  refine Pl.H.call 7 34 72 [(.tmp 27), (.tmp 30), (.tmp 33)] #[26, 93, 3] (by kernel_rfl) (by kernel_rfl) (by kernel_rfl) (Pl.free 7 (by kernel_rfl)) (by kernel_rfl) (by decide) enters72 (Calls.mono (appendBits_any base v xs m (cntN k) (by omega) (cntN_le k) w.drew hown hbase hlen) ?_)
  rintro e w2 ⟨v2, rfl, ho2, hb2, hst2⟩
  have hS1 := hS0.stay hst2
  refine ⟨v2, rfl, hS1, ?_⟩
  refine Pl.H.take 8 4 (v2) (by kernel_rfl) (by kernel_rfl) (by kernel_rfl) (Pl.free 8 (by kernel_rfl)) (Pl.assign 8 (.tmp 34) (by kernel_rfl) (by decide)) hS1 ?_
  refine Pl.H.done (by kernel_rfl) (fun A' hA' => ?_)
  rw [Pl.At.ext hA' (((((((((hA.put 27 _).put 28 _).put 29 _).put 30 _).put 31 _).put 32 _).put 33 _).put 34 _).put 4 _)]
  exact hend (fun d => if d = 27 then v else if d = 28 then .pointer (some ⟨p, 1, none⟩) else if d = 29 then .int .i64 (m : Nat) else if d = 30 then .int .u64 (m : Nat) else if d = 31 then .pointer (some ⟨p, 0, none⟩) else if d = 32 then .int .i64 k else if d = 33 then .int .i64 (cntN k : Nat) else undef) v2 w2 ho2 (((Below.refl base w).drew).trans hb2)

set_option maxHeartbeats 2000000 in
set_option maxRecDepth 100000 in
theorem put5 (w : World) (base p : Nat) (v : Value) (xs : List Nat) (k : Int) (n : Int) (x : Nat) (s : ByteArray) (hp : ItBlk w p ⟨k, n, x, s⟩) (hown : Owns w base v xs) (hbase : base ≤ w.heap.size) (hlen : xs.length ≤ 900000) (hs : s.size < 256) (hxs : Bytes (xs ++ [s.size]))
    {Q : Exit → Act → World → Prop} {A : Act} (hsz : A.tmps.size = 35) (hdf : A.defers = []) (s0 : A.tmps.getD 0 undef = v) (s3 : A.tmps.getD 3 undef = .pointer (some ⟨p, 0, none⟩))
    (hend : ∀ (u : Nat → Value) v' w', Owns w' base v' (xs ++ [s.size] ++ strB s) → Below base w w' → Q .normal ((((((((((((A).put (some 17) (u 17)).put (some 18) (u 18)).put (some 19) (u 19)).put (some 20) (u 20)).put (some 21) (u 21)).put (some 24) (u 24)).put (some 25) (u 25)).put (some 22) (u 22)).put (some 23) (u 23)).put (some 26) (v')).put (some 4) (v')) w') :
    (Code.region 5 (Pl.find 5 ((Try.f56.body).getD .skip)) true).wp Try.prog Q A w := by
  have hS0 : ItBlk w.drew p (⟨k, n, x, s⟩ : It) := hp
  have hA := Pl.At.same (v := .pointer (some ⟨p, 0, none⟩)) (d := 3) (Pl.At.same (v := v) (d := 0) (Pl.At.here hsz hdf) s0) s3
  refine Pl.H.start (S := fun w' => ItBlk w' p (⟨k, n, x, s⟩ : It)) (by kernel_rfl) hA hS0 ?_
  rw [show (Pl.find 5 ((Try.f56.body).getD .skip)).size = 11 by kernel_rfl]
  refine Pl.H.take 0 17 (v) (by kernel_rfl) (by kernel_rfl) (by kernel_rfl) (Pl.free 0 (by kernel_rfl)) (Pl.move 0 (.tmp 0) (by kernel_rfl) (by decide)) hS0 ?_
  refine Pl.H.take 1 18 (.pointer (some ⟨p, 3, none⟩)) (by kernel_rfl) (by kernel_rfl) (by kernel_rfl) (Pl.free 1 (by kernel_rfl)) (Pl.field 1 67 (.tmp 3) 3 _ (by kernel_rfl) (by decide) (field_it3 p)) hS0 ?_
  refine Pl.H.take 2 19 (.string s) (by kernel_rfl) (by kernel_rfl) (by kernel_rfl) (Pl.free 2 (by kernel_rfl)) (Pl.load 2 9 (.tmp 18) _ (by kernel_rfl) (by decide) (fun w' hS => load_str p 3 _ w' (ItBlk.at hS).p3)) hS0 ?_
  refine Pl.H.take 3 20 (.int .i64 (s.size : Nat)) (by kernel_rfl) (by kernel_rfl) (by kernel_rfl) (Pl.free 3 (by kernel_rfl)) (Pl.lenOf 3 9 (.tmp 19) _ (by kernel_rfl) (by decide) (fun ty w => len_str s ty w)) hS0 ?_
  refine Pl.H.take 4 21 (.int .u8 (s.size : Nat)) (by kernel_rfl) (by kernel_rfl) (by kernel_rfl) (Pl.free 4 (by kernel_rfl)) (Pl.convV 4 3 5 (.tmp 20) (.int .i64 (s.size : Nat)) _ (by kernel_rfl) (by decide) rfl (fun w' _ => conv_u8 s.size hs w')) hS0 ?_
  refine Pl.H.take 7 24 (.pointer (some ⟨p, 3, none⟩)) (by kernel_rfl) (by kernel_rfl) (by kernel_rfl) (Pl.free 7 (by kernel_rfl)) (Pl.field 7 67 (.tmp 3) 3 _ (by kernel_rfl) (by decide) (field_it3 p)) hS0 ?_
  refine Pl.H.take 8 25 (.string s) (by kernel_rfl) (by kernel_rfl) (by kernel_rfl) (Pl.free 8 (by kernel_rfl)) (Pl.load 8 9 (.tmp 24) _ (by kernel_rfl) (by decide) (fun w' hS => load_str p 3 _ w' (ItBlk.at hS).p3)) hS0 ?_
  refine Pl.H.make 5 22 (.slice (some ⟨w.drew.heap.size, 0, none⟩) 1 1) (w.drew.alloc (.cells (vals [s.size]).toArray 5)) (by kernel_rfl) (by kernel_rfl) (by kernel_rfl) (Pl.free 5 (by kernel_rfl)) (Pl.one 5 26 (.tmp 21) _ _ (by kernel_rfl) (by decide) (build_one s.size _)) (hS0.stay (Stay.below (below_alloc w.drew _))) ?_
  have ho1 : Owns (w.drew.alloc (.cells (vals [s.size]).toArray 5)) base v xs := (show Owns w.drew base v xs from hown).keep (below_alloc w.drew _) (Nat.le_refl _)
  have hn1 : Bs (w.drew.alloc (.cells (vals [s.size]).toArray 5)) (some ⟨w.drew.heap.size, 0, none⟩) 1 [s.size] := bs_marked w.drew [s.size] (0, 0) (fun y hy => by simp at hy; omega)
  have hb1 : Below base w (w.drew.alloc (.cells (vals [s.size]).toArray 5)) := ((Below.refl base w).drew).alloc hbase _
  have hS1 : ItBlk (w.drew.alloc (.cells (vals [s.size]).toArray 5)) p (⟨k, n, x, s⟩ : It) := hS0.stay (Stay.below (below_alloc w.drew _))
  obtain ⟨v2, w2, hr2, ho2, hb2, hst2⟩ := run_append_bytes' _ 0 base v xs ho1 _ 1 1 [s.size] hn1 (fun e => by cases e) (by omega) (Nat.le_trans hbase hb1.size)
  have hS2 := hS1.stay hst2
  refine Pl.H.make 6 23 v2 w2 (by kernel_rfl) (by kernel_rfl) (by kernel_rfl) (Pl.free 6 (by kernel_rfl)) (Pl.app 6 26 (.tmp 17) (.tmp 22) _ _ (by kernel_rfl) (by decide) (by decide) (fun ty => hr2)) hS2 ?_
  obtain ⟨g, cp, rfl, _⟩ := ho2.pos (by simp)
  obtain ⟨v3, w3, hr3, ho3, hb3, hst3⟩ := run_append_str' w2 0 base g _ cp (xs ++ [s.size]) ho2 hxs s (by simp; omega) (Nat.le_trans hbase (hb1.trans hb2).size)
  have hS3 := hS2.stay hst3
  refine Pl.H.make 9 26 v3 w3 (by kernel_rfl) (by kernel_rfl) (by kernel_rfl) (Pl.free 9 (by kernel_rfl)) (Pl.app2 9 26 9 (.tmp 23) (.tmp 25) _ _ (by kernel_rfl) (by decide) (by decide) (fun ty => hr3)) hS3 ?_
  refine Pl.H.take 10 4 (v3) (by kernel_rfl) (by kernel_rfl) (by kernel_rfl) (Pl.free 10 (by kernel_rfl)) (Pl.assign 10 (.tmp 26) (by kernel_rfl) (by decide)) hS3 ?_
  refine Pl.H.done (by kernel_rfl) (fun A' hA' => ?_)
  rw [Pl.At.ext hA' (((((((((((hA.put 17 _).put 18 _).put 19 _).put 20 _).put 21 _).put 24 _).put 25 _).put 22 _).put 23 _).put 26 _).put 4 _)]
  exact hend (fun d => if d = 17 then v else if d = 18 then .pointer (some ⟨p, 3, none⟩) else if d = 19 then .string s else if d = 20 then .int .i64 (s.size : Nat) else if d = 21 then .int .u8 (s.size : Nat) else if d = 24 then .pointer (some ⟨p, 3, none⟩) else if d = 25 then .string s else if d = 22 then .slice (some ⟨w.drew.heap.size, 0, none⟩) 1 1 else if d = 23 then .slice (some ⟨g, 0, none⟩) (xs ++ [s.size]).length cp else undef) v3 w3 ho3 ((hb1.trans hb2).trans hb3)

theorem bytes123 {k : Int} (hk : k = 1 ∨ k = 2 ∨ k = 3) (m x : Nat) (s : ByteArray) : It.bytes ⟨k, (m : Nat), x, s⟩ = bigB m (cntN k) := by
  rcases hk with rfl | rfl | rfl <;> simp [It.bytes, cntN]

set_option maxHeartbeats 2000000 in
theorem appendItem_any (base : Nat) (v : Value) (xs : List Nat) (i : It) (hm : i.may = true) (hx : i.x < 18446744073709551616) (w : World) (hown : Owns w base v xs) (hbase : base ≤ w.heap.size) (hlen : xs.length ≤ 900000) (hxs : Bytes xs) :
    Calls Try.prog 56 #[v, i.val] w fun e w' => ∃ v', e = .returned v' ∧ Owns w' base v' (xs ++ i.bytes) ∧ Below base w w' := by
  obtain ⟨k, n, x, s⟩ := i
  have HI : Hid (ItBlk (w.alloc (.cells #[.int .i64 k, .int .i64 n, .float .f64 x, .string s] 67)) w.heap.size ⟨k, n, x, s⟩) := itBlk_new w ⟨k, n, x, s⟩
  have HW : Hid (∀ o, Below base w (w.alloc o)) := fun o => (Below.refl base w).alloc hbase o
  have HO : Hid (∀ o, Owns (w.alloc o) base v xs) := fun o => hown.keep (below_alloc w o) (Nat.le_refl _)
  have HBS : Hid (∀ o, base ≤ (w.alloc o).heap.size) := fun o => Nat.le_trans hbase (below_alloc w o).size
  have HL := hide hlen
  unfold It.val
  simp only at hx ⊢
  clear hlen hown hbase
  by_cases hk : k = 1 ∨ k = 2 ∨ k = 3
  · have hmm : 0 ≤ n ∧ n < 2147483648 := by
      rcases hk with rfl | rfl | rfl <;> simp [It.may] at hm <;> omega
    obtain ⟨m, rfl⟩ := Int.eq_ofNat_of_zero_le hmm.1
    have HM : Hid (m < 2147483648) := by show m < 2147483648; omega
    have HY := hide (bytes123 hk m x s)
    clear hm hmm hx hxs
    rcases hk with rfl | rfl | rfl <;>
    (go_enter Try.func56, Try.ntmps56
     go_wp2_with fail
     refine Pl.region_is (ops := Pl.find 6 ((Try.f56.body).getD .skip)) (by kernel_rfl) ?_
     refine put6 _ base w.heap.size v xs _ m x s HI.out (HO.out _) (HBS.out _) HL.out HM.out (by rfl) (by rfl) (by rfl) (by rfl) ?_
     intro u v' w' ho hb
     simp only [Act.put, List.setIfInBounds_toArray, List.set_cons_zero, List.set_cons_succ]
     go_wp2_with fail
     go_ret
     exact ⟨v', rfl, by rw [HY.out]; exact ho, (HW.out _).trans hb⟩)
  have h1 : ¬ k = 1 := fun h => hk (.inl h)
  have h2 : ¬ k = 2 := fun h => hk (.inr (.inl h))
  have h3 : ¬ k = 3 := fun h => hk (.inr (.inr h))
  by_cases h4 : k = 4
  · subst h4
    have HV : Hid (∀ o, Calls Try.prog 74 #[.float .f64 x] (w.alloc o) fun e w' => e = .returned (.float .f64 (Fl.val x)) ∧ w' = w.alloc o) := fun o => value_any x hx (w.alloc o)
    have HB : Hid (∀ o, Calls Try.prog 72 #[v, .int .u64 (Fl.val x : Nat), .int .i64 8] (w.alloc o) fun e w' => ∃ v', e = .returned v' ∧ Owns w' base v' (xs ++ bigB (Fl.val x) 8) ∧ Below base (w.alloc o) w' ∧ Stay (w.alloc o) w') :=
      fun o => appendBits_any base v xs (Fl.val x) 8 (Fl.val_lt hx) (by omega) (w.alloc o) (HO.out o) (HBS.out o) HL.out
    have HY : Hid (It.bytes ⟨4, n, x, s⟩ = bigB (Fl.val x) 8) := by simp [It.bytes, hide]
    have hbc := bits_call
    clear hm hx hxs hk h1 h2 h3
    go_enter Try.func56, Try.ntmps56
    go_wp2_with fail
    refine (HV.out _).mono ?_
    rintro e w' ⟨rfl, hw⟩
    obtain rfl := hw.symm
    go_wp2_with fail
    refine (HB.out _).mono ?_
    rintro e w' ⟨v', rfl, ho, hb, _⟩
    go_wp2_with fail
    go_ret
    exact ⟨v', rfl, by rw [HY.out]; exact ho, (HW.out _).trans hb⟩
  have h5 : k = 5 := by
    simp only [It.may, h1, h2, h3, h4, if_false] at hm
    by_cases h5 : k = 5
    · exact h5
    · rw [if_neg h5] at hm
      cases hm
  subst h5
  simp [It.may] at hm
  obtain ⟨⟨rfl, rfl⟩, hs⟩ := hm
  have HM : Hid (s.size < 256) := hs
  have HY : Hid (It.bytes ⟨5, 0, 0, s⟩ = [s.size] ++ strB s) := by simp [It.bytes, hide]
  have HXS : Hid (Bytes (xs ++ [s.size])) := by
    intro y hy
    rcases List.mem_append.1 hy with q | q
    · exact hxs y q
    · simp at q; omega
  clear hx hxs hk h1 h2 h3 h4 hs
  go_enter Try.func56, Try.ntmps56
  go_wp2_with fail
  refine Pl.region_is (ops := Pl.find 5 ((Try.f56.body).getD .skip)) (by kernel_rfl) ?_
  refine put5 _ base w.heap.size v xs 5 0 0 s HI.out (HO.out _) (HBS.out _) HL.out HM.out HXS.out (by rfl) (by rfl) (by rfl) (by rfl) ?_
  intro u v' w' ho hb
  simp only [Act.put, List.setIfInBounds_toArray, List.set_cons_zero, List.set_cons_succ]
  go_wp2_with fail
  go_ret
  exact ⟨v', rfl, by rw [HY.out, ← List.append_assoc]; exact ho, (HW.out _).trans hb⟩

set_option maxHeartbeats 2000000 in
theorem put_any (a : Option Addr) (len cap : Nat) (l : List It) (w : World) (h : Is w a len l) (hm : len ≤ 200) :
    Calls Try.prog 35 #[.slice a len cap] w fun e w' => ∃ v, e = .returned (.tuple #[v, .int .i64 (chk (l.all It.may))]) ∧ Below w.heap.size w w' ∧ (l.all It.may = true → Owns w' w.heap.size v (putB l)) ∧ (l.all It.may = false → v = .slice none 0 0) := by
  have HO : Hid (Owns w w.heap.size (.slice none 0 0) []) := ⟨rfl, .inl ⟨rfl, rfl⟩⟩
  have H := hide h
  have HL := hide h.1
  clear h
  go_enter Try.func35, Try.ntmps35
  go_wp2_with fail
  go_loopw [4, 10] (fun v i wr => ∃ k : Nat, k ≤ len ∧ i = .int .i64 k ∧ Hid (Owns wr w.heap.size v (putB (l.take k))) ∧ Hid (∀ i ∈ l.take k, i.may = true) ∧ Hid (Below w.heap.size w wr)) (fun _ i _ => len - (intOf i).toNat)
  case atStart => exact ⟨0, by omega, rfl, HO, hide (fun i hi => by simp at hi), hide (Below.refl _ _)⟩
  case round =>
    obtain ⟨k, hk, rfl, hown, hmay, hWr⟩ := hrel
    rcases Nat.lt_or_ge k len with hlt | hge
    · obtain ⟨b, off, rfl, c0, c1, c2, c3⟩ := (H.out.keep hWr.out (Nat.le_refl _)).2.2 k hlt
      obtain ⟨i, hi⟩ : ∃ i, i = l.getD k itD := ⟨_, rfl⟩
      rw [← hi] at c0 c1 c2 c3
      have HI := hide hi
      have hmem : i ∈ l := by
        have hk' : k < l.length := by rw [HL.out]; exact hlt
        rw [hi]
        simp [List.getD, hk']
      have HMEM := hide hmem
      have HF : Hid i.fits := H.out.2.1 i hmem
      clear hi hmem
      have hsf : ∀ (w : World) (a : Addr) (m : Mode) (x : Nat), (store a (.float .f64 x) m).run Try.prog w = stored Try.prog w a (.float .f64 x) m := fun w a m x => run_store Try.prog w a _ m rfl
      have HC : Hid (∀ w, Calls Try.prog 55 #[i.val] w fun e w' => e = .returned (.int .i64 (chk i.may)) ∧ Below w.heap.size w w') := check_any i
      obtain ⟨m, hm'⟩ : ∃ m, m = i.may := ⟨_, rfl⟩
      rw [← hm'] at HC
      have HM := hide hm'
      clear hm'
      have HN : Hid (ItAt (wr.alloc (.cells #[.int .i64 i.kind, .int .i64 i.n, .float .f64 i.x, .string i.s] 67)) wr.heap.size 0 i) := itAt_new wr i _
      have HW1 : Hid (Below w.heap.size w (wr.alloc (.cells #[.int .i64 i.kind, .int .i64 i.n, .float .f64 i.x, .string i.s] 67))) := hWr.out.alloc hWr.out.size _
      have HO1 : Hid (Owns (wr.alloc (.cells #[.int .i64 i.kind, .int .i64 i.n, .float .f64 i.x, .string i.s] 67)) w.heap.size u4 (putB (l.take k))) := hown.out.keep (below_alloc wr _) (Nat.le_refl _)
      unfold It.val at HC
      go_wp2_with fail
      refine (HC.out _).mono ?_
      rintro e w2 ⟨rfl, hb2⟩
      have HW2 := hide (HW1.out.trans (hb2.mono HW1.out.size))
      have HO2 := hide (HO1.out.keep hb2 (Nat.le_refl _))
      have d := keep_item HN.out hb2
      have d0 : w2.cell? ⟨wr.heap.size, 0, none⟩ = some (.int .i64 i.kind) := d.p0
      have d1 : w2.cell? ⟨wr.heap.size, 1, none⟩ = some (.int .i64 i.n) := d.p1
      have d2 : w2.cell? ⟨wr.heap.size, 2, none⟩ = some (.float .f64 i.x) := d.p2
      have d3 : w2.cell? ⟨wr.heap.size, 3, none⟩ = some (.string i.s) := d.p3
      clear hb2 d HN HW1 HO1 c0 c1 c2 c3
      cases m
      · have HN : Hid (l.all It.may = false) := by
          rw [List.all_eq_false]
          exact ⟨i, HMEM.out, by rw [← HM.out]; decide⟩
        unfold chk
        go_wp2_with fail
        go_ret2
        refine ⟨_, ?_, HW2.out, (fun h => by rw [HN.out] at h; cases h), fun _ => rfl⟩
        rw [HN.out]
        rfl
      · have hpl := putB_len hmay.out
        have htk : (l.take k).length ≤ k := by simp; omega
        have HA : Hid (Calls Try.prog 56 #[u4, i.val] w2 fun e w' => ∃ v', e = .returned v' ∧ Owns w' w.heap.size v' (putB (l.take k) ++ i.bytes) ∧ Below w.heap.size w2 w') :=
          appendItem_any w.heap.size u4 (putB (l.take k)) i HM.out.symm HF.out.2.2.1 w2 HO2.out HW2.out.size (by omega) hpl.2
        unfold It.val at HA
        clear hpl htk
        unfold chk
        go_wp2_with fail
        refine HA.out.mono ?_
        rintro e w3 ⟨v3, rfl, ho3, hb3⟩
        have HO3 := hide ho3
        have HB3 := hide (HW2.out.trans hb3)
        clear ho3 hb3
        go_wp2_with fail
        go_roundw
        case rel =>
          have hk' : k < l.length := by rw [HL.out]; exact hlt
          refine ⟨k + 1, by omega, by go_num, ?_, ?_, HB3⟩
          · rw [putB_succ l k hk', ← HI.out]
            exact HO3
          · intro j hj
            rw [List.take_succ_eq_append_getElem hk'] at hj
            rcases List.mem_append.1 hj with q | q
            · exact hmay.out j q
            · simp at q
              have : i = l[k] := by rw [HI.out]; simp [List.getD, hk']
              rw [q, ← this]
              exact HM.out.symm
        case measure => simp only [intOf]; omega
    · have htk : l.take k = l := List.take_of_length_le (by rw [HL.out]; omega)
      rw [htk] at hown hmay
      have HA : Hid (l.all It.may = true) := List.all_eq_true.2 hmay.out
      clear htk
      go_wp2_with fail
      go_ret2
      refine ⟨_, ?_, hWr.out, fun _ => hown.out, fun h => by rw [HA.out] at h; cases h⟩
      rw [HA.out]
      rfl

/-- The two items of the laws' awake. -/
def awakeIts : List It := [⟨2, 258, 0, ⟨#[]⟩⟩, ⟨5, 0, 0, ⟨#[97]⟩⟩]

theorem awake_is (w : World) : Is (w.alloc (.cells #[.int .i64 2, .int .i64 258, .float .f64 0, .string ⟨#[]⟩, .int .i64 5, .int .i64 0, .float .f64 0, .string ⟨#[97]⟩] 67)) (some ⟨w.heap.size, 0, none⟩) 2 awakeIts := by
  refine ⟨rfl, ?_, ?_⟩
  · intro i hi
    simp only [awakeIts, List.mem_cons, List.mem_nil_iff, or_false] at hi
    rcases hi with rfl | rfl
    · exact ⟨by decide, by decide, by decide, by decide⟩
    · exact ⟨by decide, by decide, by decide, by decide⟩
  · intro j hj
    refine ⟨w.heap.size, 0, rfl, ?_⟩
    have : j = 0 ∨ j = 1 := by omega
    rcases this with rfl | rfl
    · refine ⟨?_, ?_, ?_, ?_⟩ <;> simp [go_sem, awakeIts]
    · refine ⟨?_, ?_, ?_, ?_⟩ <;> simp [go_sem, awakeIts]

theorem awake_may : awakeIts.all It.may = true := by
  simp [awakeIts, It.may, ByteArray.toList_eq]
  decide
theorem awake_put : putB awakeIts = [1, 2, 1, 97] := by decide
theorem awake_str : (bstr [1, 2, 1, 97]).toList = (⟨#[1, 2, 1, 97]⟩ : ByteArray).toList := by rw [ByteArray.toList_eq, ByteArray.toList_eq]; decide
end Go.Proofs.Ytdbgbldmjgonjaa
