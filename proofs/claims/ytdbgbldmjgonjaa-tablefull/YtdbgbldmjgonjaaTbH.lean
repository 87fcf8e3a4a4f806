/-
  The document's Commit and Enter of tables.
-/
import Derived.Test.YtdbgbldmjgonjaaTbG
namespace Go.Proofs.Ytdbgbldmjgonjaa
open Go.RowKit
set_option linter.unusedVariables false

theorem entSet : ∀ args w, (callFunc 53 args).run Try.prog w = .ok (.enter 53 args) w := Pl.enters Try.func53 (by kernel_rfl) (by kernel_rfl)

set_option maxHeartbeats 2000000 in
set_option maxRecDepth 100000 in
theorem rcommit10 (w : World) (p r q i : Nat) (t : Tb) (v : Sl) (x : En) (hT : TbBlk w p t v) (hX : EnBlk w q x)
    {Q : Exit → Act → World → Prop} {A : Act} (hsz : A.tmps.size = 43) (hdf : A.defers = []) (s2 : A.tmps.getD 2 undef = .pointer (some ⟨p, 0, none⟩)) (s4 : A.tmps.getD 4 undef = .pointer (some ⟨r, 0, none⟩)) (s7 : A.tmps.getD 7 undef = .int .i64 ((i : Nat) : Int)) (s8 : A.tmps.getD 8 undef = .pointer (some ⟨q, 0, none⟩))
    (hcall : Calls Try.prog 53 #[t.val v, .int .i64 ((i : Nat) : Int), x.val] w.drew fun e w' => ∃ (u : Tb) (s : Sl) (w2 : World), e = .returned (u.val s) ∧ (TbBlk w' p t v ∧ EnBlk w' q x) ∧ (Instr.storeAt 24 (.pointer (some ⟨r, 0, none⟩)) (u.val s)).run Try.prog w' = .ok () w2 ∧ (TbBlk w2 p t v ∧ EnBlk w2 q x) ∧
      ∀ uu : Nat → Value, Q .normal (((((((((A).put (some 37) (uu 37)).put (some 38) (uu 38)).put (some 39) (uu 39)).put (some 41) (uu 41)).put (some 42) (uu 42)).put (some 40) (uu 40)).put (some 5) (.int .i64 t.cm)).put (some 6) (.int .i64 0)) w2) :
    (Code.region 10 (Pl.find 10 ((Try.f28.body).getD .skip)) true).wp Try.prog Q A w := by
  have hA := Pl.At.same (v := .pointer (some ⟨q, 0, none⟩)) (d := 8) (Pl.At.same (v := .int .i64 ((i : Nat) : Int)) (d := 7) (Pl.At.same (v := .pointer (some ⟨r, 0, none⟩)) (d := 4) (Pl.At.same (v := .pointer (some ⟨p, 0, none⟩)) (d := 2) (Pl.At.here hsz hdf) s2) s4) s7) s8
  have hS1 : TbBlk w.drew p t v ∧ EnBlk w.drew q x := ⟨hT, hX⟩
  refine Pl.H.start (S := fun w' => TbBlk w' p t v ∧ EnBlk w' q x) (by kernel_rfl) hA hS1 ?_
  rw [show (Pl.find 10 ((Try.f28.body).getD .skip)).size = 9 by kernel_rfl]
  refine Pl.H.take 0 37 (t.val v) (by kernel_rfl) (by kernel_rfl) (by kernel_rfl) (Pl.free 0 (by kernel_rfl)) (Pl.load 0 24 (.tmp 2) _ (by kernel_rfl) (by decide) (fun w' hS => load_tb p t v w' hS.1)) hS1 ?_
  refine Pl.H.take 1 38 (.int .i64 ((i : Nat) : Int)) (by kernel_rfl) (by kernel_rfl) (by kernel_rfl) (Pl.free 1 (by kernel_rfl)) (Pl.move 1 (.tmp 7) (by kernel_rfl) (by decide)) hS1 ?_
  refine Pl.H.take 2 39 x.val (by kernel_rfl) (by kernel_rfl) (by kernel_rfl) (Pl.free 2 (by kernel_rfl)) (Pl.load 2 58 (.tmp 8) _ (by kernel_rfl) (by decide) (fun w' hS => load_en q 0 x w' hS.2.at)) hS1 ?_
  refine Pl.H.take 4 41 (.pointer (some ⟨p, 2, none⟩)) (by kernel_rfl) (by kernel_rfl) (by kernel_rfl) (Pl.free 4 (by kernel_rfl)) (Pl.field 4 24 (.tmp 2) 2 _ (by kernel_rfl) (by decide) (fdTb2 p)) hS1 ?_
  refine Pl.H.take 5 42 (.int .i64 t.cm) (by kernel_rfl) (by kernel_rfl) (by kernel_rfl) (Pl.free 5 (by kernel_rfl)) (Pl.load 5 3 (.tmp 41) _ (by kernel_rfl) (by decide) (fun w' hS => ldInt p 2 t.cm w' hS.1.c2)) hS1 ?_
  refine Pl.H.call 3 40 53 [(.tmp 37), (.tmp 38), (.tmp 39)] #[24, 3, 58] (by kernel_rfl) (by kernel_rfl) (by kernel_rfl) (Pl.free 3 (by kernel_rfl)) (by kernel_rfl) (by decide) entSet (Calls.mono hcall ?_)
  rintro e w1 ⟨u, s, w2, rfl, hS2, hst, hS3, hend⟩
  refine ⟨u.val s, rfl, hS2, ?_⟩
  refine Pl.H.store 6 w2 (by kernel_rfl) (by kernel_rfl) (by kernel_rfl) (Pl.free 6 (by kernel_rfl)) (Pl.storeV 6 24 (.tmp 4) (.tmp 40) _ (by kernel_rfl) (by decide) (by decide) hst) hS3 ?_
  refine Pl.H.take 7 5 (.int .i64 t.cm) (by kernel_rfl) (by kernel_rfl) (by kernel_rfl) (Pl.free 7 (by kernel_rfl)) (Pl.assign 7 (.tmp 42) (by kernel_rfl) (by decide)) hS3 ?_
  refine Pl.H.take 8 6 (.int .i64 0) (by kernel_rfl) (by kernel_rfl) (by kernel_rfl) (Pl.free 8 (by kernel_rfl)) (Pl.assign 8 (.const (.int .i64 0)) (by kernel_rfl) (by decide)) hS3 ?_
  refine Pl.H.done (by kernel_rfl) (fun A' hA' => ?_)
  rw [Pl.At.ext hA' ((((((((hA.put 37 _).put 38 _).put 39 _).put 41 _).put 42 _).put 40 _).put 5 _).put 6 _)]
  exact hend (fun d => if d = 37 then t.val v else if d = 38 then .int .i64 ((i : Nat) : Int) else if d = 39 then x.val else if d = 41 then .pointer (some ⟨p, 2, none⟩) else if d = 42 then .int .i64 t.cm else if d = 40 then u.val s else undef)


set_option maxHeartbeats 8000000 in
set_option maxRecDepth 100000 in
theorem rcommitT_any (t : Tb) (v : Sl) (tx : Int) (w : World) (h : Es w v t.es) (hm : v.len ≤ 100000) (hcm : 0 ≤ t.cm ∧ t.cm ≤ 2147483647) :
    Calls Try.prog 28 #[t.val v, .int .i64 tx] w (TbTold (commitT t tx).1 w (fun x => .tuple #[x, .int .i64 (commitT t tx).2.1, .int .i64 (commitT t tx).2.2])) := by
  have hl := h.len
  have HH := hide h
  have HP := hide (Pair.new w t v)
  have HBig := hide h.big
  generalize hW2 : (w.alloc (.cells #[.int .i64 t.nx, .int .i64 t.no, .int .i64 t.cm, .slice v.a v.len v.cap] 24)).alloc (.cells #[.int .i64 0, .int .i64 0, .int .i64 0, .slice none 0 0] 24) = W2 at *
  have HF := hide (rfindT_any t v tx W2 (h.keep HP.out.below (Nat.le_refl _)))
  have HLD := hide (load_tb w.heap.size t v W2 HP.out.bt)
  clear h
  cases hf : findN t tx with
  | none =>
    rw [hf] at HF
    have HR : Hid (commitT t tx = (t, 0, 3)) := by show _ = _; unfold commitT; rw [hf]
    rw [HR.out]
    clear hf
    unfold Tb.val
    go_enter Try.func28, Try.ntmps28
    go_wp2_with (refine wpList_load _ rfl 24 (.tmp 2) rfl (.pointer (some ⟨w.heap.size, 0, none⟩)) (t.val v) rfl HLD.out ?_)
    refine HF.out.mono ?_
    rintro e w3 ⟨rfl, hb3⟩
    have HP4 := hide (HP.out.keep hb3)
    have HLD4 := hide (load_tb w.heap.size t v w3 HP4.out.bt)
    clear hb3 HLD HF
    unfold ixN
    obtain ⟨W9, hst9, b9, hB9⟩ := HP4.out.same
    have HST9 := hide hst9
    have HB9 := hide b9
    have HW9 := hide hB9
    clear hst9 b9 hB9
    go_wp2_with (first | refine wpList_load _ rfl 24 (.tmp 2) rfl (.pointer (some ⟨w.heap.size, 0, none⟩)) (t.val v) rfl HLD4.out ?_ | refine wpList_store _ rfl rfl 24 (.tmp 4) (.tmp 14) rfl (.pointer (some ⟨w.heap.size + 1, 0, none⟩)) (t.val v) rfl rfl W9 HST9.out ?_)
    refine bodyPost_ret (tb_results3 rfl HB9.out _ (.int .i64 0) rfl (.int .i64 3) rfl rfl) rfl ?_
    exact ⟨v, rfl, HH.out.keep HW9.out (Nat.le_refl _), HW9.out⟩
  | some i =>
    rw [hf] at HF
    have hi := (find_some hf).1
    have hiv : i < v.len := by rw [← hl]; exact hi
    have HWR : Hid (commitT t tx = if (t.en i).st ≠ 1 ∨ t.cm = 2147483647 then (t, 0, 2) else ({ t.set i { t.en i with st := 2, com := t.cm + 1 } with cm := t.cm + 1 }, t.cm + 1, 0)) := by show _ = _; unfold commitT; rw [hf]
    clear hf
    obtain ⟨x, hx⟩ : ∃ x, x = t.en i := ⟨_, rfl⟩
    rw [← hx] at HWR
    have HX := hide hx
    have j1 : ¬ ((i : Nat) : Int) < 0 := by omega
    have j2 : ((i : Nat) : Int) < ((v.len : Nat) : Int) := by omega
    clear hx
    have front : ∀ (w3 : World), Below W2.heap.size W2 w3 → ∃ b off, v.a = some ⟨b, off, none⟩ ∧ EnAt w3 b (off + i * 4) x := fun w3 hb3 => by
      obtain ⟨b, off, ha, hat⟩ := (HH.out.keep (rBelow HP.out.below hb3) (Nat.le_refl _)).at' i hiv
      have hx' := HX.out
      unfold Tb.en at hx'
      rw [← hx'] at hat
      exact ⟨b, off, ha, hat⟩
    obtain ⟨va, vl, vc⟩ := v
    obtain ⟨b, off, ha, _⟩ := front W2 (Below.refl _ _)
    replace ha : va = some ⟨b, off, none⟩ := ha
    subst ha
    have FR := hide front
    clear front
    by_cases hst : x.st = 1
    · have q1 : (x.st != 1) = false := by simp [hst]
      by_cases hn : t.cm = 2147483647
      · rw [HWR.out, if_pos (.inr hn)]
        have q2 : (t.cm == 2147483647) = true := by simp [hn]
        clear hst hn
        unfold Tb.val
        go_enter Try.func28, Try.ntmps28
        go_wp2_with (refine wpList_load _ rfl 24 (.tmp 2) rfl (.pointer (some ⟨w.heap.size, 0, none⟩)) (t.val ⟨some ⟨b, off, none⟩, vl, vc⟩) rfl HLD.out ?_)
        refine HF.out.mono ?_
        rintro e w3 ⟨rfl, hb3⟩
        obtain ⟨b', off', ha', hat⟩ := FR.out w3 hb3
        simp only [Option.some.injEq, Addr.mk.injEq, and_true] at ha'
        obtain ⟨rfl, rfl⟩ := ha'
        have c0 := hat.c0
        have c1 := hat.c1
        have c2 := hat.c2
        have c3 := hat.c3
        have HP3 := hide (HP.out.keep hb3)
        have d3 := HP3.out.bt.c3
        have HP4 := hide (HP3.out.keep (below_alloc w3 (.cells #[.int .i64 x.tx, .int .i64 x.st, .int .i64 x.last, .int .i64 x.com] 58)))
        have HE4 := hide (EnBlk.new w3 x)
        have HS4 : Hid ((w3.alloc (.cells #[.int .i64 x.tx, .int .i64 x.st, .int .i64 x.last, .int .i64 x.com] 58)).heap.size = w3.heap.size + 1) := by show _ = _; simp
        generalize hW4 : w3.alloc (.cells #[.int .i64 x.tx, .int .i64 x.st, .int .i64 x.last, .int .i64 x.com] 58) = W4 at *
        have d1 := HP4.out.bt.c1
        have d2 := HP4.out.bt.c2
        have g1 : W4.cell? ⟨w3.heap.size, 1, none⟩ = some (.int .i64 x.st) := HE4.out.at.c1
        have HLD4 := hide (load_tb w.heap.size t _ W4 HP4.out.bt)
        clear hb3 HLD HF hat
        unfold ixN
        obtain ⟨W9, hst9, b9, hB9⟩ := HP4.out.same
        have HST9 := hide hst9
        have HB9 := hide b9
        have HW9 := hide hB9
        clear hst9 b9 hB9
        go_wp2_with (first | refine wpList_load _ rfl 24 (.tmp 2) rfl (.pointer (some ⟨w.heap.size, 0, none⟩)) (t.val ⟨some ⟨b, off, none⟩, vl, vc⟩) rfl HLD4.out ?_ | refine wpList_store _ rfl rfl 24 (.tmp 4) (.tmp 28) rfl (.pointer (some ⟨w.heap.size + 1, 0, none⟩)) (t.val ⟨some ⟨b, off, none⟩, vl, vc⟩) rfl rfl W9 HST9.out ?_)
        refine bodyPost_ret (tb_results3 rfl HB9.out _ (.int .i64 0) rfl (.int .i64 2) rfl rfl) rfl ?_
        exact ⟨_, rfl, HH.out.keep HW9.out (Nat.le_refl _), HW9.out⟩
      · have q2 : (t.cm == 2147483647) = false := by simp [hn]
        have hlt : t.cm < 2147483647 := by omega
        rw [HWR.out, if_neg (fun k => k.elim (fun k => k hst) hn)]
        clear hst hn
        unfold Tb.val
        go_enter Try.func28, Try.ntmps28
        go_wp2_with (refine wpList_load _ rfl 24 (.tmp 2) rfl (.pointer (some ⟨w.heap.size, 0, none⟩)) (t.val ⟨some ⟨b, off, none⟩, vl, vc⟩) rfl HLD.out ?_)
        refine HF.out.mono ?_
        rintro e w3 ⟨rfl, hb3⟩
        obtain ⟨b', off', ha', hat⟩ := FR.out w3 hb3
        simp only [Option.some.injEq, Addr.mk.injEq, and_true] at ha'
        obtain ⟨rfl, rfl⟩ := ha'
        have c0 := hat.c0
        have c1 := hat.c1
        have c2 := hat.c2
        have c3 := hat.c3
        have HP3 := hide (HP.out.keep hb3)
        have d3 := HP3.out.bt.c3
        have HP4 := hide (HP3.out.keep (below_alloc w3 (.cells #[.int .i64 x.tx, .int .i64 x.st, .int .i64 x.last, .int .i64 x.com] 58)))
        have HE4 := hide (EnBlk.new w3 x)
        have HS4 : Hid ((w3.alloc (.cells #[.int .i64 x.tx, .int .i64 x.st, .int .i64 x.last, .int .i64 x.com] 58)).heap.size = w3.heap.size + 1) := by show _ = _; simp
        generalize hW4 : w3.alloc (.cells #[.int .i64 x.tx, .int .i64 x.st, .int .i64 x.last, .int .i64 x.com] 58) = W4 at *
        have d1 := HP4.out.bt.c1
        have d2 := HP4.out.bt.c2
        have g1 : W4.cell? ⟨w3.heap.size, 1, none⟩ = some (.int .i64 x.st) := HE4.out.at.c1
        have HLD4 := hide (load_tb w.heap.size t _ W4 HP4.out.bt)
        clear hb3 HLD HF hat
        unfold ixN
        have hsz3 := HP3.out.size
        obtain ⟨W5, hst5, t5, f5, s5⟩ := HP4.out.bt.st2 (t.cm + 1)
        have hp5 : Pair w W5 { t with cm := t.cm + 1 } ⟨some ⟨b, off, none⟩, vl, vc⟩ := ⟨HP4.out.below.trans (f5.below HP4.out.below.size (fun k hk => by omega)), t5, HP4.out.br.other f5 (by omega)⟩
        have e5 : EnBlk W5 w3.heap.size x := (f5.block _ HE4.out.lt (by omega)).trans HE4.out
        obtain ⟨W6, hst6, e6, f6, s6⟩ := e5.st1 2
        have hp6 : Pair w W6 { t with cm := t.cm + 1 } ⟨some ⟨b, off, none⟩, vl, vc⟩ := ⟨hp5.below.trans (f6.below hp5.below.size (fun k hk => by omega)), hp5.bt.other f6 (by omega), hp5.br.other f6 (by omega)⟩
        obtain ⟨W7, hst7, e7, f7, s7⟩ := e6.st3 (t.cm + 1)
        have hp7 : Pair w W7 { t with cm := t.cm + 1 } ⟨some ⟨b, off, none⟩, vl, vc⟩ := ⟨hp6.below.trans (f7.below hp6.below.size (fun k hk => by omega)), hp6.bt.other f7 (by omega), hp6.br.other f7 (by omega)⟩
        have HST5 := hide hst5
        have HST6 := hide hst6
        have HST7 := hide hst7
        have HP7 := hide hp7
        have HE7 : Hid (EnBlk W7 w3.heap.size { x with st := 2, com := t.cm + 1 }) := e7
        have k2 : W6.cell? ⟨w.heap.size, 2, none⟩ = some (.int .i64 (t.cm + 1)) := hp6.bt.c2
        have HS := hide (rsetT_any { t with cm := t.cm + 1 } ⟨some ⟨b, off, none⟩, vl, vc⟩ i { x with st := 2, com := t.cm + 1 } W7.drew (HH.out.keep (hp7.below.trans (below_drew W7 |>.mono hp7.below.size)) (Nat.le_refl _)) hiv hm)
        clear hst5 t5 f5 s5 hp5 e5 hst6 e6 f6 s6 hp6 hst7 e7 f7 s7 hp7 HLD4
        go_wp2_with (first | refine wpList_store _ rfl rfl 3 (.tmp 32) (.tmp 31) rfl (.pointer (some ⟨w.heap.size, 2, none⟩)) (.int .i64 (t.cm + 1)) rfl rfl W5 HST5.out ?_ | refine wpList_store _ rfl rfl 3 (.tmp 33) (.const (.int .i64 2)) rfl (.pointer (some ⟨w3.heap.size, 1, none⟩)) (.int .i64 2) rfl rfl W6 HST6.out ?_ | refine wpList_store _ rfl rfl 3 (.tmp 36) (.tmp 35) rfl (.pointer (some ⟨w3.heap.size, 3, none⟩)) (.int .i64 (t.cm + 1)) rfl rfl W7 HST7.out ?_)
        refine Pl.region_is (ops := Pl.find 10 ((Try.f28.body).getD .skip)) (by kernel_rfl) ?_
        refine rcommit10 W7 w.heap.size (w.heap.size + 1) w3.heap.size i { t with cm := t.cm + 1 } ⟨some ⟨b, off, none⟩, vl, vc⟩ { x with st := 2, com := t.cm + 1 } HP7.out.bt HE7.out (by rfl) rfl (by rfl) (by rfl) (by rfl) (by rfl) (HS.out.mono ?_)
        rintro e w8 ⟨s, rfl, ho8, hn8, hb8⟩
        have hd8 : Below W7.heap.size W7 w8 := rBelow (below_drew W7) hb8
        have hp8 := HP7.out.keep hd8
        have e8 := HE7.out.keep hd8
        have hsz7 := HP7.out.size
        have hdsz : W7.drew.heap.size = W7.heap.size := rfl
        obtain ⟨W9, hst9, b9, hB9, hf9⟩ := hp8.told (({ t with cm := t.cm + 1 } : Tb).set i { x with st := 2, com := t.cm + 1 }) s
        have HO9 : Hid (Es W9 s (({ t with cm := t.cm + 1 } : Tb).set i { x with st := 2, com := t.cm + 1 }).es) := (ho8.other hf9 (fun k hk => by have := hn8 k hk; omega)).es
        have HB9 := hide b9
        have HW9 := hide hB9
        refine ⟨_, s, W9, rfl, ⟨hp8.bt, e8⟩, hst9, ⟨hp8.bt.other hf9 (by omega), (hf9.block _ e8.lt (by omega)).trans e8⟩, fun uu => ?_⟩
        simp only [Act.put, List.setIfInBounds_toArray, List.set_cons_zero, List.set_cons_succ]
        clear hst9 b9 hB9 hf9 hp8 ho8 hn8 hb8 HS hd8 e8 hsz7 hdsz
        go_wp2_with fail
        refine bodyPost_ret (tb_results3 rfl HB9.out _ (.int .i64 (t.cm + 1)) rfl (.int .i64 0) rfl rfl) rfl ?_
        exact ⟨s, rfl, HO9.out, HW9.out⟩
    · have q1 : (x.st != 1) = true := by simp [hst]
      rw [HWR.out, if_pos (.inl hst)]
      clear hst
      unfold Tb.val
      go_enter Try.func28, Try.ntmps28
      go_wp2_with (refine wpList_load _ rfl 24 (.tmp 2) rfl (.pointer (some ⟨w.heap.size, 0, none⟩)) (t.val ⟨some ⟨b, off, none⟩, vl, vc⟩) rfl HLD.out ?_)
      refine HF.out.mono ?_
      rintro e w3 ⟨rfl, hb3⟩
      obtain ⟨b', off', ha', hat⟩ := FR.out w3 hb3
      simp only [Option.some.injEq, Addr.mk.injEq, and_true] at ha'
      obtain ⟨rfl, rfl⟩ := ha'
      have c0 := hat.c0
      have c1 := hat.c1
      have c2 := hat.c2
      have c3 := hat.c3
      have HP3 := hide (HP.out.keep hb3)
      have d3 := HP3.out.bt.c3
      have HP4 := hide (HP3.out.keep (below_alloc w3 (.cells #[.int .i64 x.tx, .int .i64 x.st, .int .i64 x.last, .int .i64 x.com] 58)))
      have HE4 := hide (EnBlk.new w3 x)
      have HS4 : Hid ((w3.alloc (.cells #[.int .i64 x.tx, .int .i64 x.st, .int .i64 x.last, .int .i64 x.com] 58)).heap.size = w3.heap.size + 1) := by show _ = _; simp
      generalize hW4 : w3.alloc (.cells #[.int .i64 x.tx, .int .i64 x.st, .int .i64 x.last, .int .i64 x.com] 58) = W4 at *
      have d1 := HP4.out.bt.c1
      have d2 := HP4.out.bt.c2
      have g1 : W4.cell? ⟨w3.heap.size, 1, none⟩ = some (.int .i64 x.st) := HE4.out.at.c1
      have HLD4 := hide (load_tb w.heap.size t _ W4 HP4.out.bt)
      clear hb3 HLD HF hat
      unfold ixN
      obtain ⟨W9, hst9, b9, hB9⟩ := HP4.out.same
      have HST9 := hide hst9
      have HB9 := hide b9
      have HW9 := hide hB9
      clear hst9 b9 hB9
      go_wp2_with (first | refine wpList_load _ rfl 24 (.tmp 2) rfl (.pointer (some ⟨w.heap.size, 0, none⟩)) (t.val ⟨some ⟨b, off, none⟩, vl, vc⟩) rfl HLD4.out ?_ | refine wpList_store _ rfl rfl 24 (.tmp 4) (.tmp 28) rfl (.pointer (some ⟨w.heap.size + 1, 0, none⟩)) (t.val ⟨some ⟨b, off, none⟩, vl, vc⟩) rfl rfl W9 HST9.out ?_)
      refine bodyPost_ret (tb_results3 rfl HB9.out _ (.int .i64 0) rfl (.int .i64 2) rfl rfl) rfl ?_
      exact ⟨_, rfl, HH.out.keep HW9.out (Nat.le_refl _), HW9.out⟩


set_option maxHeartbeats 8000000 in
set_option maxRecDepth 100000 in
theorem renterT_any (t : Tb) (v : Sl) (tx : Int) (w : World) (h : Es w v t.es) (hm : v.len ≤ 100000) :
    Calls Try.prog 26 #[t.val v, .int .i64 tx] w (TbTold (enterT t tx).1 w (fun x => .tuple #[x, .int .i64 (enterT t tx).2.1, .int .i64 (enterT t tx).2.2])) := by
  have hl := h.len
  have HH := hide h
  have HP := hide (Pair.new w t v)
  have HBig := hide h.big
  generalize hW2 : (w.alloc (.cells #[.int .i64 t.nx, .int .i64 t.no, .int .i64 t.cm, .slice v.a v.len v.cap] 24)).alloc (.cells #[.int .i64 0, .int .i64 0, .int .i64 0, .slice none 0 0] 24) = W2 at *
  have HF := hide (rfindT_any t v tx W2 (h.keep HP.out.below (Nat.le_refl _)))
  have HLD := hide (load_tb w.heap.size t v W2 HP.out.bt)
  clear h
  by_cases h1 : tx < 1
  · have HR : Hid (enterT t tx = (t, -1, 1)) := by show _ = _; unfold enterT; rw [if_pos (.inl h1)]
    rw [HR.out]
    have HP4 := HP
    have HLD4 := HLD
    unfold Tb.val
    go_enter Try.func26, Try.ntmps26
    obtain ⟨W9, hst9, b9, hB9⟩ := HP4.out.same
    have HST9 := hide hst9
    have HB9 := hide b9
    have HW9 := hide hB9
    clear hst9 b9 hB9
    go_wp2_with (first | refine wpList_load _ rfl 24 (.tmp 2) rfl (.pointer (some ⟨w.heap.size, 0, none⟩)) (t.val v) rfl HLD4.out ?_ | refine wpList_store _ rfl rfl 24 (.tmp 4) (.tmp 14) rfl (.pointer (some ⟨w.heap.size + 1, 0, none⟩)) (t.val v) rfl rfl W9 HST9.out ?_)
    refine bodyPost_ret (tb_results3 rfl HB9.out _ (.int .i64 (-1)) rfl (.int .i64 1) rfl rfl) rfl ?_
    exact ⟨v, rfl, HH.out.keep HW9.out (Nat.le_refl _), HW9.out⟩
  · by_cases h2 : 2147483646 < tx
    · have HR : Hid (enterT t tx = (t, -1, 1)) := by show _ = _; unfold enterT; rw [if_pos (.inr h2)]
      rw [HR.out]
      have HP4 := HP
      have HLD4 := HLD
      unfold Tb.val
      go_enter Try.func26, Try.ntmps26
      obtain ⟨W9, hst9, b9, hB9⟩ := HP4.out.same
      have HST9 := hide hst9
      have HB9 := hide b9
      have HW9 := hide hB9
      clear hst9 b9 hB9
      go_wp2_with (first | refine wpList_load _ rfl 24 (.tmp 2) rfl (.pointer (some ⟨w.heap.size, 0, none⟩)) (t.val v) rfl HLD4.out ?_ | refine wpList_store _ rfl rfl 24 (.tmp 4) (.tmp 14) rfl (.pointer (some ⟨w.heap.size + 1, 0, none⟩)) (t.val v) rfl rfl W9 HST9.out ?_)
      refine bodyPost_ret (tb_results3 rfl HB9.out _ (.int .i64 (-1)) rfl (.int .i64 1) rfl rfl) rfl ?_
      exact ⟨v, rfl, HH.out.keep HW9.out (Nat.le_refl _), HW9.out⟩
    · have HEN : Hid (enterT t tx = match findN t tx with | some _ => (t, -1, 2) | none => match freeN t with | none => (t, -1, 12) | some i => ({ t.set i ⟨tx, 1, 0, 0⟩ with nx := if t.nx ≤ tx then tx + 1 else t.nx }, ((i : Nat) : Int), 0)) := by
        show _ = _
        unfold enterT
        rw [if_neg (fun k => k.elim h1 h2)]
        cases findN t tx with
        | some i => rfl
        | none => cases freeN t with
          | none => rfl
          | some i => rfl
      cases hf : findN t tx with
      | some i =>
        rw [hf] at HF
        have HR : Hid (enterT t tx = (t, -1, 2)) := by show _ = _; rw [HEN.out, hf]
        rw [HR.out]
        have j1 : (0 : Int) ≤ ((i : Nat) : Int) := by omega
        clear hf HEN
        unfold Tb.val
        go_enter Try.func26, Try.ntmps26
        go_wp2_with (refine wpList_load _ rfl 24 (.tmp 2) rfl (.pointer (some ⟨w.heap.size, 0, none⟩)) (t.val v) rfl HLD.out ?_)
        refine HF.out.mono ?_
        rintro e w3 ⟨rfl, hb3⟩
        have HP4 := hide (HP.out.keep hb3)
        have HLD4 := hide (load_tb w.heap.size t v w3 HP4.out.bt)
        clear hb3 HLD HF
        unfold ixN
        obtain ⟨W9, hst9, b9, hB9⟩ := HP4.out.same
        have HST9 := hide hst9
        have HB9 := hide b9
        have HW9 := hide hB9
        clear hst9 b9 hB9
        go_wp2_with (first | refine wpList_load _ rfl 24 (.tmp 2) rfl (.pointer (some ⟨w.heap.size, 0, none⟩)) (t.val v) rfl HLD4.out ?_ | refine wpList_store _ rfl rfl 24 (.tmp 4) (.tmp 19) rfl (.pointer (some ⟨w.heap.size + 1, 0, none⟩)) (t.val v) rfl rfl W9 HST9.out ?_)
        refine bodyPost_ret (tb_results3 rfl HB9.out _ (.int .i64 (-1)) rfl (.int .i64 2) rfl rfl) rfl ?_
        exact ⟨v, rfl, HH.out.keep HW9.out (Nat.le_refl _), HW9.out⟩
      | none =>
        rw [hf] at HF
        have HEN2 : Hid (enterT t tx = match freeN t with | none => (t, -1, 12) | some i => ({ t.set i ⟨tx, 1, 0, 0⟩ with nx := if t.nx ≤ tx then tx + 1 else t.nx }, ((i : Nat) : Int), 0)) := by show _ = _; rw [HEN.out, hf]
        clear hf HEN
        unfold Tb.val
        go_enter Try.func26, Try.ntmps26
        go_wp2_with (refine wpList_load _ rfl 24 (.tmp 2) rfl (.pointer (some ⟨w.heap.size, 0, none⟩)) (t.val v) rfl HLD.out ?_)
        refine HF.out.mono ?_
        rintro e w3 ⟨rfl, hb3⟩
        have HP4 := hide (HP.out.keep hb3)
        have HLD4 := hide (load_tb w.heap.size t v w3 HP4.out.bt)
        have d3 := HP4.out.bt.c3
        have HE3 := hide (HH.out.keep HP4.out.below (Nat.le_refl _))
        clear hb3 HLD HF
        unfold ixN
        go_wp2_with fail
        obtain ⟨va, vl, vc⟩ := v
        simp only at d3 hl hm
        go_loopw [7] (fun iv wr => wr = w3 ∧ ∃ i : Nat, i ≤ vl ∧ iv = .int .i64 (i : Nat) ∧ Hid (∀ j, j < i → isFree (t.es.getD j En.zero) = false)) (fun iv _ => vl - (intOf iv).toNat)
        case atStart => exact ⟨rfl, 0, Nat.zero_le _, rfl, fun j hj => absurd hj (Nat.not_lt_zero _)⟩
        case round =>
          obtain ⟨rfl, i, hi, rfl, hix⟩ := hrel
          rcases Nat.lt_or_ge i vl with hlt | hge
          · have i1 : ((i : Nat) : Int) < ((vl : Nat) : Int) := by omega
            obtain ⟨b, off, ha, hat⟩ := HE3.out.at' i hlt
            replace ha : va = some ⟨b, off, none⟩ := ha
            subst ha
            have c1 := hat.c1
            obtain ⟨x, hx⟩ : ∃ x, x = t.es.getD i En.zero := ⟨_, rfl⟩
            rw [← hx] at c1
            have HX := hide hx
            clear hat hx
            by_cases h0 : x.st = 0
            · have hfree : freeN t = some i := idx_is (by rw [hl]; exact hlt) (by rw [← HX.out]; unfold isFree; simp [h0]) hix.out
              have HR : Hid (enterT t tx = ({ t.set i ⟨tx, 1, 0, 0⟩ with nx := if t.nx ≤ tx then tx + 1 else t.nx }, ((i : Nat) : Int), 0)) := by show _ = _; rw [HEN2.out, hfree]
              have q0 : (x.st == 0) = true := by simp [h0]
              have HS := hide (rsetT_any t ⟨some ⟨b, off, none⟩, vl, vc⟩ i ⟨tx, 1, 0, 0⟩ wr HE3.out hlt hm)
              unfold En.val at HS
              simp only at HS
              clear hfree hix HX HEN2 h0
              go_wp2_with (refine wpList_load _ rfl 24 (.tmp 2) rfl (.pointer (some ⟨w.heap.size, 0, none⟩)) (t.val ⟨some ⟨b, off, none⟩, vl, vc⟩) rfl HLD4.out ?_)
              refine HS.out.mono ?_
              rintro e w5 ⟨s, rfl, ho5, hn5, hb5⟩
              have hp5 := HP4.out.keep hb5
              have hsz4 := HP4.out.size
              obtain ⟨W6, hst6, hp6, f6⟩ := hp5.lay (t.set i ⟨tx, 1, 0, 0⟩) s
              have ho6 := ho5.other f6 (fun k hk => by have := hn5 k hk; omega)
              have HST6 := hide hst6
              have n6 : W6.cell? ⟨w.heap.size, 0, none⟩ = some (.int .i64 t.nx) := hp6.bt.c0
              by_cases hnx : t.nx ≤ tx
              · obtain ⟨W7, hst7, t7, f7, s7⟩ := hp6.bt.st0 (tx + 1)
                have hp7 : Pair w W7 { t.set i ⟨tx, 1, 0, 0⟩ with nx := tx + 1 } s := ⟨hp6.below.trans (f7.below hp6.below.size (fun k hk => by omega)), t7, hp6.br.other f7 (by omega)⟩
                have ho7 : OwnE W7 s (t.set i ⟨tx, 1, 0, 0⟩).es := ho6.other f7 (fun k hk => by have := hn5 k hk; omega)
                obtain ⟨W9, hst9, b9, hB9, hf9⟩ := hp7.told { t.set i ⟨tx, 1, 0, 0⟩ with nx := tx + 1 } s
                have HO9 : Hid (Es W9 s ({ t.set i ⟨tx, 1, 0, 0⟩ with nx := tx + 1 } : Tb).es) := (ho7.other hf9 (fun k hk => by have := hn5 k hk; omega)).es
                have HST7 := hide hst7
                have HLD7 := hide (load_tb w.heap.size _ s W7 hp7.bt)
                have HST9 := hide hst9
                have HB9 := hide b9
                have HW9 := hide hB9
                have HR2 : Hid (enterT t tx = ({ t.set i ⟨tx, 1, 0, 0⟩ with nx := tx + 1 }, ((i : Nat) : Int), 0)) := by show _ = _; rw [HR.out, if_pos hnx]
                clear hp5 hsz4 hst6 hp6 f6 ho6 hst7 t7 f7 s7 hp7 ho7 hst9 b9 hB9 hf9 ho5 hn5 hb5 HS
                unfold id
                go_wp2_with (first | refine wpList_store _ rfl rfl 24 (.tmp 2) (.tmp 38) rfl (.pointer (some ⟨w.heap.size, 0, none⟩)) ((t.set i ⟨tx, 1, 0, 0⟩).val s) rfl rfl W6 HST6.out ?_ | refine wpList_store _ rfl rfl 3 (.tmp 45) (.tmp 44) rfl (.pointer (some ⟨w.heap.size, 0, none⟩)) (.int .i64 (tx + 1)) rfl rfl W7 HST7.out ?_ | refine wpList_load _ rfl 24 (.tmp 2) rfl (.pointer (some ⟨w.heap.size, 0, none⟩)) (({ t.set i ⟨tx, 1, 0, 0⟩ with nx := tx + 1 } : Tb).val s) rfl HLD7.out ?_ | refine wpList_store _ rfl rfl 24 (.tmp 4) (.tmp 46) rfl (.pointer (some ⟨w.heap.size + 1, 0, none⟩)) (({ t.set i ⟨tx, 1, 0, 0⟩ with nx := tx + 1 } : Tb).val s) rfl rfl W9 HST9.out ?_)
                refine bodyPost_ret (tb_results3 rfl HB9.out _ (.int .i64 ((i : Nat) : Int)) rfl (.int .i64 0) rfl rfl) rfl ?_
                rw [HR2.out]
                exact ⟨s, rfl, HO9.out, HW9.out⟩
              · obtain ⟨W9, hst9, b9, hB9, hf9⟩ := hp6.told (t.set i ⟨tx, 1, 0, 0⟩) s
                have HO9 : Hid (Es W9 s (t.set i ⟨tx, 1, 0, 0⟩).es) := (ho6.other hf9 (fun k hk => by have := hn5 k hk; omega)).es
                have HLD7 := hide (load_tb w.heap.size _ s W6 hp6.bt)
                have HST9 := hide hst9
                have HB9 := hide b9
                have HW9 := hide hB9
                have HR2 : Hid (enterT t tx = (t.set i ⟨tx, 1, 0, 0⟩, ((i : Nat) : Int), 0)) := by show _ = _; rw [HR.out, if_neg hnx]; rfl
                clear hp5 hsz4 hst6 hp6 f6 ho6 hst9 b9 hB9 hf9 ho5 hn5 hb5 HS
                unfold id
                go_wp2_with (first | refine wpList_store _ rfl rfl 24 (.tmp 2) (.tmp 38) rfl (.pointer (some ⟨w.heap.size, 0, none⟩)) ((t.set i ⟨tx, 1, 0, 0⟩).val s) rfl rfl W6 HST6.out ?_ | refine wpList_load _ rfl 24 (.tmp 2) rfl (.pointer (some ⟨w.heap.size, 0, none⟩)) ((t.set i ⟨tx, 1, 0, 0⟩).val s) rfl HLD7.out ?_ | refine wpList_store _ rfl rfl 24 (.tmp 4) (.tmp 46) rfl (.pointer (some ⟨w.heap.size + 1, 0, none⟩)) ((t.set i ⟨tx, 1, 0, 0⟩).val s) rfl rfl W9 HST9.out ?_)
                refine bodyPost_ret (tb_results3 rfl HB9.out _ (.int .i64 ((i : Nat) : Int)) rfl (.int .i64 0) rfl rfl) rfl ?_
                rw [HR2.out]
                exact ⟨s, rfl, HO9.out, HW9.out⟩
            · have HN : Hid (∀ j, j < i + 1 → isFree (t.es.getD j En.zero) = false) := by
                intro j hj
                by_cases e : j = i
                · rw [e, ← HX.out]; unfold isFree; simp [h0]
                · exact hix.out j (by omega)
              have q0 : (x.st == 0) = false := by simp [h0]
              clear hix HX h0
              go_wp2_with fail
              go_roundw
              case rel => exact ⟨trivial, i + 1, by omega, by go_num, HN⟩
              case measure => simp only [intOf]; omega
          · have i1 : ¬ ((i : Nat) : Int) < ((vl : Nat) : Int) := by omega
            have hfree : freeN t = none := idx_no (fun j hj => hix.out j (by rw [hl] at hj; omega))
            have HR : Hid (enterT t tx = (t, -1, 12)) := by show _ = _; rw [HEN2.out, hfree]
            clear hfree hix HEN2
            obtain ⟨W9, hst9, b9, hB9⟩ := HP4.out.same
            have HST9 := hide hst9
            have HB9 := hide b9
            have HW9 := hide hB9
            clear hst9 b9 hB9
            go_wp2_with (first | refine wpList_load _ rfl 24 (.tmp 2) rfl (.pointer (some ⟨w.heap.size, 0, none⟩)) (t.val ⟨va, vl, vc⟩) rfl HLD4.out ?_ | refine wpList_store _ rfl rfl 24 (.tmp 4) (.tmp 48) rfl (.pointer (some ⟨w.heap.size + 1, 0, none⟩)) (t.val ⟨va, vl, vc⟩) rfl rfl W9 HST9.out ?_)
            refine bodyPost_ret (tb_results3 rfl HB9.out _ (.int .i64 (-1)) rfl (.int .i64 12) rfl rfl) rfl ?_
            rw [HR.out]
            exact ⟨_, rfl, HH.out.keep HW9.out (Nat.le_refl _), HW9.out⟩

end Go.Proofs.Ytdbgbldmjgonjaa
