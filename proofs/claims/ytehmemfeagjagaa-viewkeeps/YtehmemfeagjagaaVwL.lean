/-
  ViewKeeps: its drawn statement, its walk. (Written by gen_vwl.py.)
-/
import Derived.Test.YtehmemfeagjagaaVwK
import Derived.Deep.Cut
namespace Go.Proofs.Ytehmemfeagjagaa
open Go.RowKit
set_option maxRecDepth 100000
set_option linter.unusedVariables false

theorem add1k (k : Nat) (hk : k ≤ 1000000) (x y : Operand) (w : World) : (do eqGuard .add 3 x y (.int .i64 (k : Nat)) (.int .i64 1); binOp .add 3 (.int .i64 (k : Nat)) (.int .i64 1) : Sem Value).run Try.prog w = .ok (.int .i64 ((k + 1 : Nat) : Int)) w := by
  have e : IntKind.i64.wrap ((k : Int) + 1) = (k : Int) + 1 := by rw [IntKind.wrap_i64]; omega
  simp [go_sem, eqGuard, e]

set_option maxHeartbeats 4000000 in
set_option maxRecDepth 100000 in
theorem keeps20 {D : Nat → Prop} (w : World) (s : Sl) (t : List Int) (hs : Gi D w s t) (k : Nat) (hk : k < s.len)
    {Q : Exit → Act → World → Prop} {A : Act} (hsz : A.tmps.size = 110) (hdf : A.defers = []) (s6 : A.tmps.getD 6 undef = .slice s.a s.len s.cap) (s12 : A.tmps.getD 12 undef = .int .i64 ((k : Nat) : Int))
    (hend : ∀ (u : Nat → Value) (s9 : Sl) w', Nq w w' s9 (t.take k ++ t.drop (k + 1)) → s9.len ≤ s.len → Q .normal ((((((((((((A).put (some 83) (u 83)).put (some 84) (u 84)).put (some 85) (u 85)).put (some 87) (u 87)).put (some 88) (u 88)).put (some 89) (u 89)).put (some 90) (u 90)).put (some 82) (u 82)).put (some 86) (u 86)).put (some 91) (u 91)).put (some 6) (s9.val)) w') :
    (Code.region 20 (Pl.find 20 ((Try.f5.body).getD .skip)) true).wp Try.prog Q A w := by
  have hS0 : Below w.heap.size w w.drew := below_drew w
  have hbg := hs.big
  have hA := Pl.At.same (v := .int .i64 ((k : Nat) : Int)) (d := 12) (Pl.At.same (v := .slice s.a s.len s.cap) (d := 6) (Pl.At.here hsz hdf) s6) s12
  refine Pl.H.start (S := fun w' => Below w.heap.size w w') (by kernel_rfl) hA hS0 ?_
  rw [show (Pl.find 20 ((Try.f5.body).getD .skip)).size = 11 by kernel_rfl]
  refine Pl.H.take 1 83 (.slice s.a s.len s.cap) (by kernel_rfl) (by kernel_rfl) (by kernel_rfl) (Pl.free 1 (by kernel_rfl)) (Pl.move 1 (.tmp 6) (by kernel_rfl) (by decide)) hS0 ?_
  refine Pl.H.take 2 84 (.int .i64 ((k : Nat) : Int)) (by kernel_rfl) (by kernel_rfl) (by kernel_rfl) (Pl.free 2 (by kernel_rfl)) (Pl.move 2 (.tmp 12) (by kernel_rfl) (by decide)) hS0 ?_
  refine Pl.H.take 3 85 (.slice (fromA s.a s.cap 0) k s.cap) (by kernel_rfl) (by kernel_rfl) (by kernel_rfl) (Pl.free 3 (by kernel_rfl)) (Pl.slice 3 22 (.tmp 83) none (some (.tmp 84)) _ (by kernel_rfl) (by decide) (by decide) (by decide) (fun w => slice_uptoI s.a s.len s.cap k (by have := hs.le; omega) w)) hS0 ?_
  refine Pl.H.take 5 87 (.slice s.a s.len s.cap) (by kernel_rfl) (by kernel_rfl) (by kernel_rfl) (Pl.free 5 (by kernel_rfl)) (Pl.move 5 (.tmp 6) (by kernel_rfl) (by decide)) hS0 ?_
  refine Pl.H.take 6 88 (.int .i64 ((k : Nat) : Int)) (by kernel_rfl) (by kernel_rfl) (by kernel_rfl) (Pl.free 6 (by kernel_rfl)) (Pl.move 6 (.tmp 12) (by kernel_rfl) (by decide)) hS0 ?_
  refine Pl.H.take 7 89 (.int .i64 ((k + 1 : Nat) : Int)) (by kernel_rfl) (by kernel_rfl) (by kernel_rfl) (Pl.free 7 (by kernel_rfl)) (Pl.binV 7 .add 3 3 (.tmp 88) (.const (.int .i64 1)) (.int .i64 ((k : Nat) : Int)) (.int .i64 1) _ (by kernel_rfl) (by decide) (by decide) rfl rfl (fun w => add1k k (by have := hs.big; omega) _ _ w)) hS0 ?_
  refine Pl.H.take 8 90 (.slice (fromA s.a s.cap (k + 1)) (s.len - (k + 1)) (s.cap - (k + 1))) (by kernel_rfl) (by kernel_rfl) (by kernel_rfl) (Pl.free 8 (by kernel_rfl)) (Pl.slice 8 22 (.tmp 87) (some (.tmp 89)) none _ (by kernel_rfl) (by decide) (by decide) (by decide) (fun w => slice_fromI s.a s.len s.cap (k + 1) hk w)) hS0 ?_
  have hQ0 : Nq w (w.drew.alloc (.cells #[] 3)) ⟨some ⟨w.drew.heap.size, 0, none⟩, 0, 0⟩ [] := Nq.new0 hS0
  refine Pl.H.make 0 82 (.slice (some ⟨w.drew.heap.size, 0, none⟩) 0 0) (w.drew.alloc (.cells #[] 3)) (by kernel_rfl) (by kernel_rfl) (by kernel_rfl) (Pl.free 0 (by kernel_rfl)) (Pl.zero 0 22 _ _ (by kernel_rfl) (build0_int w.drew)) hQ0.below ?_
  obtain ⟨s4, w4, hap4, hq4, hf4, hl4⟩ := hQ0.app (((hs.below hQ0.below (Nat.le_refl _)).upto (Nat.le_of_lt hk)).src) (by show 0 + k ≤ _; omega)
  have hl4' : s4.len = k := by rw [hl4]; exact Nat.zero_add k
  refine Pl.H.make 4 86 (s4.val) w4 (by kernel_rfl) (by kernel_rfl) (by kernel_rfl) (Pl.free 4 (by kernel_rfl)) (Pl.appV 4 22 22 (.tmp 82) (.tmp 85) _ _ (by kernel_rfl) (by decide) (by decide) hap4) hq4.below ?_
  obtain ⟨s9, w9, hap9, hq9, hf9, hl9⟩ := hq4.app (((hs.below hq4.below (Nat.le_refl _)).from_ hk).src) (by rw [hl4']; show k + (s.len - (k + 1)) ≤ _; omega)
  refine Pl.H.make 9 91 (s9.val) w9 (by kernel_rfl) (by kernel_rfl) (by kernel_rfl) (Pl.free 9 (by kernel_rfl)) (Pl.appV 9 22 22 (.tmp 86) (.tmp 90) _ _ (by kernel_rfl) (by decide) (by decide) hap9) hq9.below ?_
  refine Pl.H.take 10 6 (s9.val) (by kernel_rfl) (by kernel_rfl) (by kernel_rfl) (Pl.free 10 (by kernel_rfl)) (Pl.assign 10 (.tmp 91) (by kernel_rfl) (by decide)) hq9.below ?_
  refine Pl.H.done (by kernel_rfl) (fun A' hA' => ?_)
  rw [Pl.At.ext hA' (((((((((((hA.put 83 _).put 84 _).put 85 _).put 87 _).put 88 _).put 89 _).put 90 _).put 82 _).put 86 _).put 91 _).put 6 _)]
  exact hend (fun d => if d = 83 then .slice s.a s.len s.cap else if d = 84 then .int .i64 ((k : Nat) : Int) else if d = 85 then .slice (fromA s.a s.cap 0) k s.cap else if d = 87 then .slice s.a s.len s.cap else if d = 88 then .int .i64 ((k : Nat) : Int) else if d = 89 then .int .i64 ((k + 1 : Nat) : Int) else if d = 90 then .slice (fromA s.a s.cap (k + 1)) (s.len - (k + 1)) (s.cap - (k + 1)) else if d = 82 then .slice (some ⟨w.drew.heap.size, 0, none⟩) 0 0 else if d = 86 then s4.val else if d = 91 then s9.val else undef) s9 _ (by simpa using hq9) (by rw [hl9, hl4']; show k + (s.len - (k + 1)) ≤ _; omega)

/-- What stands between two rounds. -/
def KI (w wr : World) (g : Nat) (lv en se ac : Sl) (i nn aT : Nat) : Prop := ∃ live ended seen v, Kr w wr g lv en se ac live ended seen v ∧ live.length ≤ i ∧ ended.length ≤ i ∧ seen.length ≤ 100 ∧ 1 ≤ nn ∧ nn ≤ 2 * i + 1 ∧ ((i ≤ aT ∧ v = Vw.zero ∧ Ahd nn live ended) ∨ (aT < i ∧ Seen v seen))
/-- What stands behind the making. -/
def KP (i nn aT : Nat) (live ended seen : List Int) (v : Vw) : Prop := (i < aT ∧ v = Vw.zero ∧ Ahd nn live ended) ∨ (aT ≤ i ∧ Seen v seen)
theorem KP.begins {i nn aT : Nat} {live ended seen : List Int} {v : Vw} (h : KP i nn aT live ended seen v) (hn : 1 ≤ nn) : (i + 1 ≤ aT ∧ v = Vw.zero ∧ Ahd ((nn + 1 : Nat) : Int) (live ++ [((nn : Nat) : Int)]) ended) ∨ (aT < i + 1 ∧ Seen v seen) := by
  rcases h with ⟨a, b, c⟩ | ⟨a, b⟩
  · exact .inl ⟨a, b, by have := c.begins (by omega); simpa using this⟩
  · exact .inr ⟨by omega, b⟩
theorem KP.ends {i nn aT : Nat} {live ended seen : List Int} {v : Vw} (h : KP i nn aT live ended seen v) {k : Nat} (hk : k < live.length) : (i + 1 ≤ aT ∧ v = Vw.zero ∧ Ahd ((nn : Nat) : Int) (live.take k ++ live.drop (k + 1)) (ended ++ [live.getD k 0])) ∨ (aT < i + 1 ∧ Seen v seen) := by
  rcases h with ⟨a, b, c⟩ | ⟨a, b⟩
  · exact .inl ⟨a, b, c.ends hk⟩
  · exact .inr ⟨by omega, b⟩
theorem KP.seen {i nn aT : Nat} {live ended seen : List Int} {v : Vw} (h : KP i nn aT live ended seen v) : v = Vw.zero ∨ Seen v seen := by
  rcases h with ⟨_, b, _⟩ | ⟨_, b⟩
  · exact .inl b
  · exact .inr b

theorem gi_litK (w : World) (x : Int) : Gi (fun _ => True) (w.alloc (.cells #[.int .i64 x] 3)) ⟨some ⟨w.heap.size, 0, none⟩, 1, 1⟩ [x] := gi_lit1 w x
theorem gi_zero (D : Nat → Prop) (w : World) (q : Addr) : Gi D w ⟨some q, 0, 0⟩ [] := ⟨rfl, (fun e => by cases e), Nat.le_refl _, Nat.zero_le _, (fun _ _ h => absurd h (Nat.lt_irrefl _)), fun i hi => absurd hi (Nat.not_lt_zero _)⟩

set_option maxHeartbeats 32000000 in
set_option maxRecDepth 100000 in
theorem keeps_walk (HS : ViewS) (w : World) (a : Option Addr) (len cap : Nat) (xs : List Nat) (hc : Came w a len cap xs) (n : Nat) (hn : n < 256) :
    Calls Try.prog 5 #[.slice a len cap, .int .u8 ((n : Nat) : Int)] w fun e w' => e = .returned (.bool true) ∧ Below w.heap.size w w' := by
  have HH := hide HS
  have HA := hide (fun W => awakeV_any HS W)
  have HC := hide hc
  have hbig : len ≤ 9223372036854775807 := hc.big
  have hA1 := below_alloc w (.cells #[] 3)
  have hA2 := below_alloc (w.alloc (.cells #[] 3)) (.cells #[] 3)
  have hA3 := below_alloc ((w.alloc (.cells #[] 3)).alloc (.cells #[] 3)) (.cells #[.int .i64 0, .int .i64 0, .slice none 0 0] 25)
  have hA4 := below_alloc (((w.alloc (.cells #[] 3)).alloc (.cells #[] 3)).alloc (.cells #[.int .i64 0, .int .i64 0, .slice none 0 0] 25)) (.cells #[] 3)
  have hK0 : Kr w ((((w.alloc (.cells #[] 3)).alloc (.cells #[] 3)).alloc (.cells #[.int .i64 0, .int .i64 0, .slice none 0 0] 25)).alloc (.cells #[] 3)) (w.heap.size + 1 + 1) ⟨some ⟨w.heap.size, 0, none⟩, 0, 0⟩ ⟨some ⟨w.heap.size + 1, 0, none⟩, 0, 0⟩ ⟨some ⟨w.heap.size + 1 + 1 + 1, 0, none⟩, 0, 0⟩ Sl.nil [] [] [] Vw.zero := by
    have b1 := Nq.new0 (w0 := w) (Below.refl _ w)
    have b2 := Nq.new0 (w0 := w) hA1
    have b3 := vwBlk_new ((w.alloc (.cells #[] 3)).alloc (.cells #[] 3)) Vw.zero Sl.nil
    have b4 := Nq.new0 (w0 := w) (rBelow hA1 (rBelow hA2 hA3))
    simp only [alloc_size] at b2 b3 b4
    have c1 := b1.keep (rBelow hA2 (rBelow hA3 hA4))
    have c2 := b2.keep (rBelow hA3 hA4)
    refine ⟨b3.keep hA4, c1.own, c2.own, gi_nil _ _, gi_zero _ _ _, fun k hk => ?_, fun k hk => ?_, by omega, rBelow (rBelow hA1 (rBelow hA2 hA3)) hA4⟩
    · have e : some w.heap.size = some k := hk
      cases e
      exact ⟨Nat.le_refl _, by omega, fun e2 => by have e3 : some (w.heap.size + 1) = some w.heap.size := e2; simp at e3⟩
    · have e : some (w.heap.size + 1) = some k := hk
      cases e
      exact ⟨by omega, by omega⟩
  clear hc HS hA1 hA2 hA3 hA4
  have HK0 := hide hK0
  clear hK0
  obtain ⟨aT, haT⟩ : ∃ aT, aT = n % 60 := ⟨_, rfl⟩
  have hat60 : aT < 60 := by omega
  have hatn : ((n : Nat) : Int) % 60 = ((aT : Nat) : Int) := by omega
  go_enter Try.func5, Try.ntmps5
  go_wp2_with fail
  go_loopw [5, 6, 7, 9, 10, 11] (fun nv lvv env er sev iv wr => ∃ (lv en se ac : Sl) (i nn : Nat), nv = .int .i64 (nn : Nat) ∧ lvv = .slice lv.a lv.len lv.cap ∧ env = .slice en.a en.len en.cap ∧ er = .int .i64 0 ∧ sev = .slice se.a se.len se.cap ∧ iv = .int .i64 (i : Nat) ∧ i ≤ len ∧ i ≤ 60 ∧ Hid (KI w wr (w.heap.size + 1 + 1) lv en se ac i nn aT)) (fun _ _ _ _ _ iv _ => 60 - (intOf iv).toNat)
  case atStart => exact ⟨_, _, _, Sl.nil, 0, 1, rfl, rfl, rfl, rfl, rfl, rfl, Nat.zero_le _, Nat.zero_le _, ⟨[], [], [], Vw.zero, HK0.out, Nat.le_refl _, Nat.le_refl _, Nat.zero_le _, Nat.le_refl _, by omega, .inl ⟨Nat.zero_le _, rfl, Ahd.start⟩⟩⟩
  case round =>
    obtain ⟨⟨lva, lvn, lvc⟩, ⟨ena, enn, enc⟩, ⟨sea, sen, sec⟩, ⟨aca, acn, acc⟩, i, nn, rfl, rfl, rfl, rfl, rfl, rfl, hil, hi60, hKI⟩ := hrel
    clear HK0
    obtain ⟨live, ended, seen, v, hkr, hll, hle, hls, hn1, hn2, hph⟩ := hKI.out
    simp only
    by_cases hin : i < len ∧ i < 60
    · obtain ⟨hdl, hl60⟩ := hin
      have i1 : ((i : Nat) : Int) < ((len : Nat) : Int) := by omega
      have i2 : ((i : Nat) : Int) < 60 := by omega
      have HLL := hide hll
      have HLE := hide hle
      by_cases hia : i = aT
      · have q1 : (((i : Nat) : Int) == ((n : Nat) : Int) % 60) = true := by rw [hatn, hia]; exact beq_self_eq_true _
        have HMD : Hid (ofV nn (nn + 1) live = some ⟨nn, nn + 1, live⟩ ∧ Seen ⟨nn, nn + 1, live⟩ (nn :: ended)) := by
          rcases hph with ⟨_, _, h3⟩ | ⟨h1, _⟩
          · exact h3.made (by omega) (by omega) (by omega)
          · omega
        have hlvl : live.length = lvn := hkr.live.len
        have henl : ended.length = enn := hkr.ended.len
        have HF := hide (HH.out.of wr ⟨lva, lvn, lvc⟩ live (hkr.live.gi (fun _ _ => trivial) (by show lvn ≤ _; omega)) (by show lvn ≤ 200; omega) nn (nn + 1))
        rw [HMD.out.1] at HF
        unfold Sl.val at HF
        simp only at HF
        have HKR := hide hkr
        have hen60 : enn ≤ 60 := by omega
        have HIA := hide hia
        clear hkr hph hll hle hls hlvl henl hKI hat60 hatn hia haT
        go_wp2_with fail
        refine HF.out.mono ?_
        rintro e w1 ⟨hb1, v', s', ok, rfl, hac, hok⟩
        have e1 : v' = ⟨nn, nn + 1, live⟩ ∧ ok = true := by
          rcases hok with ⟨h1, h2⟩ | ⟨h1, _⟩
          · exact ⟨(Option.some.inj h1).symm, h2⟩
          · cases h1
        obtain ⟨rfl, rfl⟩ := e1
        have h1 := HKR.out.keep hb1
        obtain ⟨W1, hst, hbx, hfW, hzW⟩ := stVw h1.box ⟨nn, nn + 1, live⟩ s'
        have hkm := HKR.out.made hb1 hac hbx hfW
        have hsrc := (hkm.keep (below_alloc W1 (.cells #[.int .i64 ((nn : Nat) : Int)] 3))).ended.gi (D := fun _ => True) (fun _ _ => trivial) (by show enn ≤ _; omega)
        obtain ⟨⟨sea', sen', sec'⟩, W2, hrun, hnq, _, hln⟩ := (Nq.lit1 (w0 := W1) (Below.refl _ W1) ((nn : Nat) : Int)).app hsrc.src (by show 1 + enn ≤ _; omega)
        have hks := hkm.seen' hnq (by rw [hln]; show 1 + enn ≤ _; omega)
        have HKr := hide hks
        have HST := hide hst
        have HRUN := hide hrun
        have HLS : Hid (([((nn : Nat) : Int)] ++ ended).length ≤ 100) := by show _ ≤ _; rw [List.length_append]; have := HLE.out; show 1 + ended.length ≤ 100; omega
        have HPH : Hid (KP i (nn + 1) aT live ended ([((nn : Nat) : Int)] ++ ended) ⟨nn, nn + 1, live⟩) := .inr ⟨by have := HIA.out; omega, HMD.out.2⟩
        obtain ⟨aca', acn', acc'⟩ := s'
        unfold Sl.val at HRUN
        unfold vwV Sl.val at HST
        simp only at HST HRUN
        clear hb1 hac hok h1 hst hbx hfW hzW hkm hsrc hrun hnq hln hks HF HKR HMD
        unfold vwV Sl.val errV
        simp only [if_true]
        go_upto_region 15 with (first | refine wpList_store _ rfl rfl 25 (.tmp 8) (.tmp 39) rfl (.pointer (some ⟨w.heap.size + 1 + 1, 0, none⟩)) (.agg #[.int .i64 ((nn : Nat) : Int), .int .i64 (((nn : Nat) : Int) + 1), .slice aca' acn' acc']) rfl rfl W1 HST.out ?_ | refine wpList_app _ rfl (.tmp 44) (.tmp 45) rfl (.slice (some ⟨W1.heap.size, 0, none⟩) 1 1) (.slice ena enn enc) _ rfl rfl W2 HRUN.out ?_)
        obtain ⟨n2, hn2e⟩ : ∃ n2, n2 = nn + 1 := ⟨_, rfl⟩
        have en2 : ((nn : Nat) : Int) + 1 = ((n2 : Nat) : Int) := by omega
        simp only [en2]
        rw [← hn2e] at HPH
        generalize hSN : [((nn : Nat) : Int)] ++ ended = seen' at *
        generalize hVN : (⟨((nn : Nat) : Int), ((nn : Nat) : Int) + 1, live⟩ : Vw) = v' at *
        have hn1' : 1 ≤ n2 := by omega
        have hn2' : n2 ≤ 2 * i + 2 := by omega
        clear hn1 hn2 hn2e en2 hSN hVN hen60 HST HRUN
        have hbsd := HC.out.bs.keep HKr.out.below (Nat.le_refl _)
        obtain ⟨db, dof, hda, _⟩ := hbsd.2.2 i hdl
        subst hda
        have hx1 := hbsd.at i hdl
        have hxb := hbsd.2.1 (xs.getD i 0) (by have := hbsd.1; simp [List.getD, show i < xs.length by omega])
        generalize xs.getD i 0 = bt at *
        have hlvN : lvn ≤ 60 := by have h9 : live.length = lvn := HKr.out.live.len; have := HLL.out; omega
        clear hbsd
        by_cases hev : bt % 2 = 0
        · have hev1 : ((bt : Nat) : Int) % 2 = 0 := by omega
          clear hev
          have hB := below_alloc W2 (.cells #[.int .i64 ((n2 : Nat) : Int)] 3)
          have hk1 := HKr.out.keep hB
          have hsrc := (gi_litK W2 ((n2 : Nat) : Int)).src
          have hlvl : live.length = lvn := HKr.out.live.len
          have hlll := HLL.out
          obtain ⟨⟨lva', lvn', lvc'⟩, W', hrun, ho, hgr, hl'⟩ := own_appN hk1.live hsrc (by show lvn + 1 ≤ _; omega)
          have hk2 := hk1.begins ho hgr
          have HRUN := hide hrun
          have HKW := hide hk2
          have HSN := hide HPH.out.seen
          have HKIf : Hid (∀ W, Below W'.heap.size W' W → KI w W (w.heap.size + 1 + 1) ⟨lva', lvn', lvc'⟩ ⟨ena, enn, enc⟩ ⟨sea', sen', sec'⟩ ⟨aca', acn', acc'⟩ (i + 1) (n2 + 1) aT) := fun W hb => ⟨_, _, _, _, HKW.out.keep hb, by rw [List.length_append]; show live.length + 1 ≤ _; omega, by have := HLE.out; omega, HLS.out, by omega, by omega, HPH.out.begins hn1'⟩
          have HKI := hide (HKIf.out W' (Below.refl _ _))
          unfold Sl.val at HRUN
          simp only at HRUN
          clear hB hk1 hsrc hlvl hlll hrun ho hgr hl' hk2
          go_wp2_with (first | refine wpList_app _ rfl (.tmp 60) (.tmp 62) rfl (.slice lva lvn lvc) (.slice (some ⟨W2.heap.size, 0, none⟩) 1 1) _ rfl rfl W' HRUN.out ?_)
          rcases HSN.out with hz | hse
          · obtain rfl := hz
            have HKB := hide HKW.out.box
            go_wp2_with fail
            go_loopw [13] (fun tv wz => wz = W' ∧ tv = .int .i64 1) (fun _ _ => 0)
            case atStart => exact ⟨rfl, rfl⟩
            case round =>
              rename World => wo
              obtain ⟨hwo, rfl⟩ := hrel
              subst hwo
              have k0 := HKB.out.c0
              have k1 := HKB.out.c1
              have k2 := HKB.out.c2
              unfold Vw.zero at k0 k1
              unfold Sl.val at k2
              simp only at k0 k1 k2
              by_cases t2 : (1 : Int) < ((n2 : Nat) : Int) + 1
              · go_wp2_with fail
                go_roundw
                case rel => exact ⟨⟨lva', lvn', lvc'⟩, ⟨ena, enn, enc⟩, ⟨sea', sen', sec'⟩, ⟨aca', acn', acc'⟩, i + 1, n2 + 1, by go_num, rfl, rfl, rfl, rfl, by go_num, by omega, by omega, HKI⟩
                case measure => simp only [intOf]; omega
              · go_wp2_with fail
                go_roundw
                case rel => exact ⟨⟨lva', lvn', lvc'⟩, ⟨ena, enn, enc⟩, ⟨sea', sen', sec'⟩, ⟨aca', acn', acc'⟩, i + 1, n2 + 1, by go_num, rfl, rfl, rfl, rfl, by go_num, by omega, by omega, HKI⟩
                case measure => simp only [intOf]; omega
          · obtain ⟨hv0, hva, hvs⟩ := hse
            have HVS := hide hvs
            have HKB := hide (fun (W : World) (hb : Below W'.heap.size W' W) => HKW.out.keep hb)
            have HAL : Hid (acn' ≤ 200) := by show _ ≤ _; have h9 : v'.act.length = acn' := HKW.out.act.len; omega
            have H0 := hide (Below.refl W'.heap.size W')
            have HKI2 := hide HKIf.out
            clear hva hvs
            go_wp2_with fail
            go_loopw [13] (fun tv wz => ∃ t : Nat, 1 ≤ t ∧ t ≤ n2 + 1 ∧ tv = .int .i64 (t : Nat) ∧ Hid (Below W'.heap.size W' wz)) (fun tv _ => n2 + 1 - (intOf tv).toNat)
            case atStart => exact ⟨1, Nat.le_refl _, by omega, rfl, H0⟩
            case round =>
              rename World => wo
              obtain ⟨t, ht1, htn, rfl, hbz⟩ := hrel
              have hkz := HKB.out _ hbz.out
              have k0 := hkz.box.c0
              have k1 := hkz.box.c1
              have k2 := hkz.box.c2
              unfold Sl.val at k2
              simp only at k2
              have HKZ := hide hkz
              clear hkz
              rcases Nat.lt_or_ge t (n2 + 1) with htl | htg
              · have t1 : ((t : Nat) : Int) < ((n2 + 1 : Nat) : Int) := by omega
                have t2 : ((t : Nat) : Int) < ((n2 : Nat) : Int) + 1 := by omega
                have HSE := hide (HH.out.sees wo ⟨aca', acn', acc'⟩ v' (HKZ.out.act.wide (fun _ _ => trivial)) HAL.out ((t : Nat) : Int))
                rw [HVS.out _ (by omega)] at HSE
                unfold vwV Sl.val at HSE
                simp only at HSE
                obtain ⟨b, hb⟩ : ∃ b, b = seen'.contains ((t : Nat) : Int) := ⟨_, rfl⟩
                rw [← hb] at HSE
                have HBE := hide hb
                clear hb
                go_wp2_with fail
                refine HSE.out.mono ?_
                rintro e w5 ⟨rfl, hb5⟩
                have HB5 := hide (rBelow hbz.out hb5)
                have HIN := hide (rin_any w5 ⟨sea', sen', sec'⟩ seen' (HKB.out _ HB5.out).seen ((t : Nat) : Int))
                rw [← HBE.out] at HIN
                unfold Sl.val at HIN
                simp only at HIN
                clear hb5 HSE k0 k1 k2
                go_wp2_with fail
                refine HIN.out.mono ?_
                rintro e w6 ⟨rfl, hb6⟩
                have HB6 := hide (rBelow HB5.out hb6)
                have bne : (b != b) = false := by simp
                clear hb6 HIN
                go_wp2_with fail
                go_roundw
                case rel => exact ⟨t + 1, by omega, by omega, by go_num, HB6⟩
                case measure => simp only [intOf]; omega
              · have t1 : ¬ ((t : Nat) : Int) < ((n2 + 1 : Nat) : Int) := by omega
                have t2 : ¬ ((t : Nat) : Int) < ((n2 : Nat) : Int) + 1 := by omega
                have HKI3 := hide (HKI2.out _ hbz.out)
                go_wp2_with fail
                go_roundw
                case rel => exact ⟨⟨lva', lvn', lvc'⟩, ⟨ena, enn, enc⟩, ⟨sea', sen', sec'⟩, ⟨aca', acn', acc'⟩, i + 1, n2 + 1, by go_num, rfl, rfl, rfl, rfl, by go_num, by omega, by omega, HKI3⟩
                case measure => simp only [intOf]; omega
        · have hev1 : ((bt : Nat) : Int) % 2 = 1 := by omega
          clear hev
          by_cases hl0 : lvn = 0
          · subst hl0
            have hB := below_alloc W2 (.cells #[.int .i64 ((n2 : Nat) : Int)] 3)
            have hk1 := HKr.out.keep hB
            have hsrc := (gi_litK W2 ((n2 : Nat) : Int)).src
            have hlvl : live.length = 0 := HKr.out.live.len
            have hlll := HLL.out
            obtain ⟨⟨lva', lvn', lvc'⟩, W', hrun, ho, hgr, hl'⟩ := own_appN hk1.live hsrc (by show 0 + 1 ≤ _; omega)
            have hk2 := hk1.begins ho hgr
            have HRUN := hide hrun
            have HKW := hide hk2
            have HSN := hide HPH.out.seen
            have HKIf : Hid (∀ W, Below W'.heap.size W' W → KI w W (w.heap.size + 1 + 1) ⟨lva', lvn', lvc'⟩ ⟨ena, enn, enc⟩ ⟨sea', sen', sec'⟩ ⟨aca', acn', acc'⟩ (i + 1) (n2 + 1) aT) := fun W hb => ⟨_, _, _, _, HKW.out.keep hb, by rw [List.length_append]; show live.length + 1 ≤ _; omega, by have := HLE.out; omega, HLS.out, by omega, by omega, HPH.out.begins hn1'⟩
            have HKI := hide (HKIf.out W' (Below.refl _ _))
            unfold Sl.val at HRUN
            simp only at HRUN
            clear hB hk1 hsrc hlvl hlll hrun ho hgr hl' hk2
            go_wp2_with (first | refine wpList_app _ rfl (.tmp 60) (.tmp 62) rfl (.slice lva 0 lvc) (.slice (some ⟨W2.heap.size, 0, none⟩) 1 1) _ rfl rfl W' HRUN.out ?_)
            rcases HSN.out with hz | hse
            · obtain rfl := hz
              have HKB := hide HKW.out.box
              go_wp2_with fail
              go_loopw [13] (fun tv wz => wz = W' ∧ tv = .int .i64 1) (fun _ _ => 0)
              case atStart => exact ⟨rfl, rfl⟩
              case round =>
                rename World => wo
                obtain ⟨hwo, rfl⟩ := hrel
                subst hwo
                have k0 := HKB.out.c0
                have k1 := HKB.out.c1
                have k2 := HKB.out.c2
                unfold Vw.zero at k0 k1
                unfold Sl.val at k2
                simp only at k0 k1 k2
                by_cases t2 : (1 : Int) < ((n2 : Nat) : Int) + 1
                · go_wp2_with fail
                  go_roundw
                  case rel => exact ⟨⟨lva', lvn', lvc'⟩, ⟨ena, enn, enc⟩, ⟨sea', sen', sec'⟩, ⟨aca', acn', acc'⟩, i + 1, n2 + 1, by go_num, rfl, rfl, rfl, rfl, by go_num, by omega, by omega, HKI⟩
                  case measure => simp only [intOf]; omega
                · go_wp2_with fail
                  go_roundw
                  case rel => exact ⟨⟨lva', lvn', lvc'⟩, ⟨ena, enn, enc⟩, ⟨sea', sen', sec'⟩, ⟨aca', acn', acc'⟩, i + 1, n2 + 1, by go_num, rfl, rfl, rfl, rfl, by go_num, by omega, by omega, HKI⟩
                  case measure => simp only [intOf]; omega
            · obtain ⟨hv0, hva, hvs⟩ := hse
              have HVS := hide hvs
              have HKB := hide (fun (W : World) (hb : Below W'.heap.size W' W) => HKW.out.keep hb)
              have HAL : Hid (acn' ≤ 200) := by show _ ≤ _; have h9 : v'.act.length = acn' := HKW.out.act.len; omega
              have H0 := hide (Below.refl W'.heap.size W')
              have HKI2 := hide HKIf.out
              clear hva hvs
              go_wp2_with fail
              go_loopw [13] (fun tv wz => ∃ t : Nat, 1 ≤ t ∧ t ≤ n2 + 1 ∧ tv = .int .i64 (t : Nat) ∧ Hid (Below W'.heap.size W' wz)) (fun tv _ => n2 + 1 - (intOf tv).toNat)
              case atStart => exact ⟨1, Nat.le_refl _, by omega, rfl, H0⟩
              case round =>
                rename World => wo
                obtain ⟨t, ht1, htn, rfl, hbz⟩ := hrel
                have hkz := HKB.out _ hbz.out
                have k0 := hkz.box.c0
                have k1 := hkz.box.c1
                have k2 := hkz.box.c2
                unfold Sl.val at k2
                simp only at k2
                have HKZ := hide hkz
                clear hkz
                rcases Nat.lt_or_ge t (n2 + 1) with htl | htg
                · have t1 : ((t : Nat) : Int) < ((n2 + 1 : Nat) : Int) := by omega
                  have t2 : ((t : Nat) : Int) < ((n2 : Nat) : Int) + 1 := by omega
                  have HSE := hide (HH.out.sees wo ⟨aca', acn', acc'⟩ v' (HKZ.out.act.wide (fun _ _ => trivial)) HAL.out ((t : Nat) : Int))
                  rw [HVS.out _ (by omega)] at HSE
                  unfold vwV Sl.val at HSE
                  simp only at HSE
                  obtain ⟨b, hb⟩ : ∃ b, b = seen'.contains ((t : Nat) : Int) := ⟨_, rfl⟩
                  rw [← hb] at HSE
                  have HBE := hide hb
                  clear hb
                  go_wp2_with fail
                  refine HSE.out.mono ?_
                  rintro e w5 ⟨rfl, hb5⟩
                  have HB5 := hide (rBelow hbz.out hb5)
                  have HIN := hide (rin_any w5 ⟨sea', sen', sec'⟩ seen' (HKB.out _ HB5.out).seen ((t : Nat) : Int))
                  rw [← HBE.out] at HIN
                  unfold Sl.val at HIN
                  simp only at HIN
                  clear hb5 HSE k0 k1 k2
                  go_wp2_with fail
                  refine HIN.out.mono ?_
                  rintro e w6 ⟨rfl, hb6⟩
                  have HB6 := hide (rBelow HB5.out hb6)
                  have bne : (b != b) = false := by simp
                  clear hb6 HIN
                  go_wp2_with fail
                  go_roundw
                  case rel => exact ⟨t + 1, by omega, by omega, by go_num, HB6⟩
                  case measure => simp only [intOf]; omega
                · have t1 : ¬ ((t : Nat) : Int) < ((n2 + 1 : Nat) : Int) := by omega
                  have t2 : ¬ ((t : Nat) : Int) < ((n2 : Nat) : Int) + 1 := by omega
                  have HKI3 := hide (HKI2.out _ hbz.out)
                  go_wp2_with fail
                  go_roundw
                  case rel => exact ⟨⟨lva', lvn', lvc'⟩, ⟨ena, enn, enc⟩, ⟨sea', sen', sec'⟩, ⟨aca', acn', acc'⟩, i + 1, n2 + 1, by go_num, rfl, rfl, rfl, rfl, by go_num, by omega, by omega, HKI3⟩
                  case measure => simp only [intOf]; omega
          · have hlvl : live.length = lvn := HKr.out.live.len
            have henl : ended.length = enn := HKr.out.ended.len
            obtain ⟨kq, hkq⟩ : ∃ kq, kq = bt / 2 % lvn := ⟨_, rfl⟩
            have hkl : kq < lvn := by rw [hkq]; exact Nat.mod_lt _ (by omega)
            have hkI : ((bt : Nat) : Int) / 2 % ((lvn : Nat) : Int) = ((kq : Nat) : Int) := by rw [hkq]; simp
            clear hkq
            obtain ⟨lb, lo, hla⟩ := HKr.out.live.pos (by show 0 < lvn; omega)
            have hlc := HKr.out.live.cellAt hla (i := kq) hkl
            replace hla : lva = some ⟨lb, lo, none⟩ := hla
            subst hla
            obtain ⟨y, hy⟩ : ∃ y, y = live.getD kq 0 := ⟨_, rfl⟩
            rw [← hy] at hlc
            have hB := below_alloc W2 (.cells #[.int .i64 y] 3)
            have hk1 := HKr.out.keep hB
            have hsrc := (gi_litK W2 y).src
            have hlee := HLE.out
            obtain ⟨⟨ena', enn', enc'⟩, W', hrun, ho, hgr, hl'⟩ := own_appN hk1.ended hsrc (by show enn + 1 ≤ _; omega)
            have hk2 := hk1.ends ho hgr
            rw [hy] at hk2
            have HRUN := hide hrun
            have HKV := hide hk2
            have HHK := hide hkl
            unfold Sl.val at HRUN
            simp only at HRUN
            clear hB hk1 hsrc hlee hrun ho hgr hl' hk2 hy
            go_wp2_with (first | refine wpList_app _ rfl (.tmp 75) (.tmp 80) rfl (.slice ena enn enc) (.slice (some ⟨W2.heap.size, 0, none⟩) 1 1) _ rfl rfl W' HRUN.out ?_)
            refine Pl.region_is (ops := Pl.find 20 ((Try.f5.body).getD .skip)) (by kernel_rfl) ?_
            refine keeps20 (D := fun _ => True) W' ⟨some ⟨lb, lo, none⟩, lvn, lvc⟩ live (HKV.out.live.gi (fun _ _ => trivial) (by show lvn ≤ _; omega)) kq hkl (by rfl) (by rfl) (by rfl) (by rfl) ?_
            intro u9 s9 w9 hq9 hl9
            simp only [Act.put, List.setIfInBounds_toArray, List.set_cons_zero, List.set_cons_succ]
            have HKW := hide (HKV.out.cut hq9)
            have HSN := hide HPH.out.seen
            have HKIf : Hid (∀ W, Below w9.heap.size w9 W → KI w W (w.heap.size + 1 + 1) s9 ⟨ena', enn', enc'⟩ ⟨sea', sen', sec'⟩ ⟨aca', acn', acc'⟩ (i + 1) (n2) aT) := fun W hb => ⟨_, _, _, _, HKW.out.keep hb, by rw [List.length_append, List.length_take, List.length_drop]; have := HLL.out; omega, by rw [List.length_append]; show ended.length + 1 ≤ _; have := HLE.out; omega, HLS.out, by omega, by omega, HPH.out.ends (by rw [hlvl]; exact HHK.out)⟩
            have HKI := hide (HKIf.out w9 (Below.refl _ _))
            obtain ⟨s9a, s9n, s9c⟩ := s9
            unfold Sl.val
            simp only
            clear hq9 hl9 HKV hlvl henl hkl hlc hkI
            rcases HSN.out with hz | hse
            · obtain rfl := hz
              have HKB := hide HKW.out.box
              go_wp2_with fail
              go_loopw [13] (fun tv wz => wz = w9 ∧ tv = .int .i64 1) (fun _ _ => 0)
              case atStart => exact ⟨rfl, rfl⟩
              case round =>
                rename World => wo
                obtain ⟨hwo, rfl⟩ := hrel
                subst hwo
                have k0 := HKB.out.c0
                have k1 := HKB.out.c1
                have k2 := HKB.out.c2
                unfold Vw.zero at k0 k1
                unfold Sl.val at k2
                simp only at k0 k1 k2
                by_cases t2 : (1 : Int) < ((n2 : Nat) : Int)
                · go_wp2_with fail
                  go_roundw
                  case rel => exact ⟨⟨s9a, s9n, s9c⟩, ⟨ena', enn', enc'⟩, ⟨sea', sen', sec'⟩, ⟨aca', acn', acc'⟩, i + 1, n2, rfl, rfl, rfl, rfl, rfl, by go_num, by omega, by omega, HKI⟩
                  case measure => simp only [intOf]; omega
                · go_wp2_with fail
                  go_roundw
                  case rel => exact ⟨⟨s9a, s9n, s9c⟩, ⟨ena', enn', enc'⟩, ⟨sea', sen', sec'⟩, ⟨aca', acn', acc'⟩, i + 1, n2, rfl, rfl, rfl, rfl, rfl, by go_num, by omega, by omega, HKI⟩
                  case measure => simp only [intOf]; omega
            · obtain ⟨hv0, hva, hvs⟩ := hse
              have HVS := hide hvs
              have HKB := hide (fun (W : World) (hb : Below w9.heap.size w9 W) => HKW.out.keep hb)
              have HAL : Hid (acn' ≤ 200) := by show _ ≤ _; have h9 : v'.act.length = acn' := HKW.out.act.len; omega
              have H0 := hide (Below.refl w9.heap.size w9)
              have HKI2 := hide HKIf.out
              clear hva hvs
              go_wp2_with fail
              go_loopw [13] (fun tv wz => ∃ t : Nat, 1 ≤ t ∧ t ≤ n2 ∧ tv = .int .i64 (t : Nat) ∧ Hid (Below w9.heap.size w9 wz)) (fun tv _ => n2 - (intOf tv).toNat)
              case atStart => exact ⟨1, Nat.le_refl _, by omega, rfl, H0⟩
              case round =>
                rename World => wo
                obtain ⟨t, ht1, htn, rfl, hbz⟩ := hrel
                have hkz := HKB.out _ hbz.out
                have k0 := hkz.box.c0
                have k1 := hkz.box.c1
                have k2 := hkz.box.c2
                unfold Sl.val at k2
                simp only at k2
                have HKZ := hide hkz
                clear hkz
                rcases Nat.lt_or_ge t (n2) with htl | htg
                · have t1 : ((t : Nat) : Int) < ((n2 : Nat) : Int) := by omega
                  have t2 : ((t : Nat) : Int) < ((n2 : Nat) : Int) := by omega
                  have HSE := hide (HH.out.sees wo ⟨aca', acn', acc'⟩ v' (HKZ.out.act.wide (fun _ _ => trivial)) HAL.out ((t : Nat) : Int))
                  rw [HVS.out _ (by omega)] at HSE
                  unfold vwV Sl.val at HSE
                  simp only at HSE
                  obtain ⟨b, hb⟩ : ∃ b, b = seen'.contains ((t : Nat) : Int) := ⟨_, rfl⟩
                  rw [← hb] at HSE
                  have HBE := hide hb
                  clear hb
                  go_wp2_with fail
                  refine HSE.out.mono ?_
                  rintro e w5 ⟨rfl, hb5⟩
                  have HB5 := hide (rBelow hbz.out hb5)
                  have HIN := hide (rin_any w5 ⟨sea', sen', sec'⟩ seen' (HKB.out _ HB5.out).seen ((t : Nat) : Int))
                  rw [← HBE.out] at HIN
                  unfold Sl.val at HIN
                  simp only at HIN
                  clear hb5 HSE k0 k1 k2
                  go_wp2_with fail
                  refine HIN.out.mono ?_
                  rintro e w6 ⟨rfl, hb6⟩
                  have HB6 := hide (rBelow HB5.out hb6)
                  have bne : (b != b) = false := by simp
                  clear hb6 HIN
                  go_wp2_with fail
                  go_roundw
                  case rel => exact ⟨t + 1, by omega, by omega, by go_num, HB6⟩
                  case measure => simp only [intOf]; omega
                · have t1 : ¬ ((t : Nat) : Int) < ((n2 : Nat) : Int) := by omega
                  have t2 : ¬ ((t : Nat) : Int) < ((n2 : Nat) : Int) := by omega
                  have HKI3 := hide (HKI2.out _ hbz.out)
                  go_wp2_with fail
                  go_roundw
                  case rel => exact ⟨⟨s9a, s9n, s9c⟩, ⟨ena', enn', enc'⟩, ⟨sea', sen', sec'⟩, ⟨aca', acn', acc'⟩, i + 1, n2, rfl, rfl, rfl, rfl, rfl, by go_num, by omega, by omega, HKI3⟩
                  case measure => simp only [intOf]; omega
      · have q1 : (((i : Nat) : Int) == ((n : Nat) : Int) % 60) = false := by rw [hatn]; exact beq_eq_false_iff_ne.2 (by omega)
        have HKr := hide hkr
        have HLS := hide hls
        have HPH : Hid (KP i nn aT live ended seen v) := by
          rcases hph with ⟨h1, h2, h3⟩ | ⟨h1, h2⟩
          · exact .inl ⟨by omega, h2, h3⟩
          · exact .inr ⟨by omega, h2⟩
        have HATN := hide hatn
        clear hkr hph hll hle hls hKI hatn hat60
        go_upto_region 15 with fail
        have hbsd := HC.out.bs.keep HKr.out.below (Nat.le_refl _)
        obtain ⟨db, dof, hda, _⟩ := hbsd.2.2 i hdl
        subst hda
        have hx1 := hbsd.at i hdl
        have hxb := hbsd.2.1 (xs.getD i 0) (by have := hbsd.1; simp [List.getD, show i < xs.length by omega])
        generalize xs.getD i 0 = bt at *
        have hlvN : lvn ≤ 60 := by have h9 : live.length = lvn := HKr.out.live.len; have := HLL.out; omega
        clear hbsd
        by_cases hev : bt % 2 = 0
        · have hev1 : ((bt : Nat) : Int) % 2 = 0 := by omega
          clear hev
          have hB := below_alloc wr (.cells #[.int .i64 ((nn : Nat) : Int)] 3)
          have hk1 := HKr.out.keep hB
          have hsrc := (gi_litK wr ((nn : Nat) : Int)).src
          have hlvl : live.length = lvn := HKr.out.live.len
          have hlll := HLL.out
          obtain ⟨⟨lva', lvn', lvc'⟩, W', hrun, ho, hgr, hl'⟩ := own_appN hk1.live hsrc (by show lvn + 1 ≤ _; omega)
          have hk2 := hk1.begins ho hgr
          have HRUN := hide hrun
          have HKW := hide hk2
          have HSN := hide HPH.out.seen
          have HKIf : Hid (∀ W, Below W'.heap.size W' W → KI w W (w.heap.size + 1 + 1) ⟨lva', lvn', lvc'⟩ ⟨ena, enn, enc⟩ ⟨sea, sen, sec⟩ ⟨aca, acn, acc⟩ (i + 1) (nn + 1) aT) := fun W hb => ⟨_, _, _, _, HKW.out.keep hb, by rw [List.length_append]; show live.length + 1 ≤ _; omega, by have := HLE.out; omega, HLS.out, by omega, by omega, HPH.out.begins hn1⟩
          have HKI := hide (HKIf.out W' (Below.refl _ _))
          unfold Sl.val at HRUN
          simp only at HRUN
          clear hB hk1 hsrc hlvl hlll hrun ho hgr hl' hk2
          go_wp2_with (first | refine wpList_app _ rfl (.tmp 60) (.tmp 62) rfl (.slice lva lvn lvc) (.slice (some ⟨wr.heap.size, 0, none⟩) 1 1) _ rfl rfl W' HRUN.out ?_)
          rcases HSN.out with hz | hse
          · obtain rfl := hz
            have HKB := hide HKW.out.box
            go_wp2_with fail
            go_loopw [13] (fun tv wz => wz = W' ∧ tv = .int .i64 1) (fun _ _ => 0)
            case atStart => exact ⟨rfl, rfl⟩
            case round =>
              rename World => wo
              obtain ⟨hwo, rfl⟩ := hrel
              subst hwo
              have k0 := HKB.out.c0
              have k1 := HKB.out.c1
              have k2 := HKB.out.c2
              unfold Vw.zero at k0 k1
              unfold Sl.val at k2
              simp only at k0 k1 k2
              by_cases t2 : (1 : Int) < ((nn : Nat) : Int) + 1
              · go_wp2_with fail
                go_roundw
                case rel => exact ⟨⟨lva', lvn', lvc'⟩, ⟨ena, enn, enc⟩, ⟨sea, sen, sec⟩, ⟨aca, acn, acc⟩, i + 1, nn + 1, by go_num, rfl, rfl, rfl, rfl, by go_num, by omega, by omega, HKI⟩
                case measure => simp only [intOf]; omega
              · go_wp2_with fail
                go_roundw
                case rel => exact ⟨⟨lva', lvn', lvc'⟩, ⟨ena, enn, enc⟩, ⟨sea, sen, sec⟩, ⟨aca, acn, acc⟩, i + 1, nn + 1, by go_num, rfl, rfl, rfl, rfl, by go_num, by omega, by omega, HKI⟩
                case measure => simp only [intOf]; omega
          · obtain ⟨hv0, hva, hvs⟩ := hse
            have HVS := hide hvs
            have HKB := hide (fun (W : World) (hb : Below W'.heap.size W' W) => HKW.out.keep hb)
            have HAL : Hid (acn ≤ 200) := by show _ ≤ _; have h9 : v.act.length = acn := HKW.out.act.len; omega
            have H0 := hide (Below.refl W'.heap.size W')
            have HKI2 := hide HKIf.out
            clear hva hvs
            go_wp2_with fail
            go_loopw [13] (fun tv wz => ∃ t : Nat, 1 ≤ t ∧ t ≤ nn + 1 ∧ tv = .int .i64 (t : Nat) ∧ Hid (Below W'.heap.size W' wz)) (fun tv _ => nn + 1 - (intOf tv).toNat)
            case atStart => exact ⟨1, Nat.le_refl _, by omega, rfl, H0⟩
            case round =>
              rename World => wo
              obtain ⟨t, ht1, htn, rfl, hbz⟩ := hrel
              have hkz := HKB.out _ hbz.out
              have k0 := hkz.box.c0
              have k1 := hkz.box.c1
              have k2 := hkz.box.c2
              unfold Sl.val at k2
              simp only at k2
              have HKZ := hide hkz
              clear hkz
              rcases Nat.lt_or_ge t (nn + 1) with htl | htg
              · have t1 : ((t : Nat) : Int) < ((nn + 1 : Nat) : Int) := by omega
                have t2 : ((t : Nat) : Int) < ((nn : Nat) : Int) + 1 := by omega
                have HSE := hide (HH.out.sees wo ⟨aca, acn, acc⟩ v (HKZ.out.act.wide (fun _ _ => trivial)) HAL.out ((t : Nat) : Int))
                rw [HVS.out _ (by omega)] at HSE
                unfold vwV Sl.val at HSE
                simp only at HSE
                obtain ⟨b, hb⟩ : ∃ b, b = seen.contains ((t : Nat) : Int) := ⟨_, rfl⟩
                rw [← hb] at HSE
                have HBE := hide hb
                clear hb
                go_wp2_with fail
                refine HSE.out.mono ?_
                rintro e w5 ⟨rfl, hb5⟩
                have HB5 := hide (rBelow hbz.out hb5)
                have HIN := hide (rin_any w5 ⟨sea, sen, sec⟩ seen (HKB.out _ HB5.out).seen ((t : Nat) : Int))
                rw [← HBE.out] at HIN
                unfold Sl.val at HIN
                simp only at HIN
                clear hb5 HSE k0 k1 k2
                go_wp2_with fail
                refine HIN.out.mono ?_
                rintro e w6 ⟨rfl, hb6⟩
                have HB6 := hide (rBelow HB5.out hb6)
                have bne : (b != b) = false := by simp
                clear hb6 HIN
                go_wp2_with fail
                go_roundw
                case rel => exact ⟨t + 1, by omega, by omega, by go_num, HB6⟩
                case measure => simp only [intOf]; omega
              · have t1 : ¬ ((t : Nat) : Int) < ((nn + 1 : Nat) : Int) := by omega
                have t2 : ¬ ((t : Nat) : Int) < ((nn : Nat) : Int) + 1 := by omega
                have HKI3 := hide (HKI2.out _ hbz.out)
                go_wp2_with fail
                go_roundw
                case rel => exact ⟨⟨lva', lvn', lvc'⟩, ⟨ena, enn, enc⟩, ⟨sea, sen, sec⟩, ⟨aca, acn, acc⟩, i + 1, nn + 1, by go_num, rfl, rfl, rfl, rfl, by go_num, by omega, by omega, HKI3⟩
                case measure => simp only [intOf]; omega
        · have hev1 : ((bt : Nat) : Int) % 2 = 1 := by omega
          clear hev
          by_cases hl0 : lvn = 0
          · subst hl0
            have hB := below_alloc wr (.cells #[.int .i64 ((nn : Nat) : Int)] 3)
            have hk1 := HKr.out.keep hB
            have hsrc := (gi_litK wr ((nn : Nat) : Int)).src
            have hlvl : live.length = 0 := HKr.out.live.len
            have hlll := HLL.out
            obtain ⟨⟨lva', lvn', lvc'⟩, W', hrun, ho, hgr, hl'⟩ := own_appN hk1.live hsrc (by show 0 + 1 ≤ _; omega)
            have hk2 := hk1.begins ho hgr
            have HRUN := hide hrun
            have HKW := hide hk2
            have HSN := hide HPH.out.seen
            have HKIf : Hid (∀ W, Below W'.heap.size W' W → KI w W (w.heap.size + 1 + 1) ⟨lva', lvn', lvc'⟩ ⟨ena, enn, enc⟩ ⟨sea, sen, sec⟩ ⟨aca, acn, acc⟩ (i + 1) (nn + 1) aT) := fun W hb => ⟨_, _, _, _, HKW.out.keep hb, by rw [List.length_append]; show live.length + 1 ≤ _; omega, by have := HLE.out; omega, HLS.out, by omega, by omega, HPH.out.begins hn1⟩
            have HKI := hide (HKIf.out W' (Below.refl _ _))
            unfold Sl.val at HRUN
            simp only at HRUN
            clear hB hk1 hsrc hlvl hlll hrun ho hgr hl' hk2
            go_wp2_with (first | refine wpList_app _ rfl (.tmp 60) (.tmp 62) rfl (.slice lva 0 lvc) (.slice (some ⟨wr.heap.size, 0, none⟩) 1 1) _ rfl rfl W' HRUN.out ?_)
            rcases HSN.out with hz | hse
            · obtain rfl := hz
              have HKB := hide HKW.out.box
              go_wp2_with fail
              go_loopw [13] (fun tv wz => wz = W' ∧ tv = .int .i64 1) (fun _ _ => 0)
              case atStart => exact ⟨rfl, rfl⟩
              case round =>
                rename World => wo
                obtain ⟨hwo, rfl⟩ := hrel
                subst hwo
                have k0 := HKB.out.c0
                have k1 := HKB.out.c1
                have k2 := HKB.out.c2
                unfold Vw.zero at k0 k1
                unfold Sl.val at k2
                simp only at k0 k1 k2
                by_cases t2 : (1 : Int) < ((nn : Nat) : Int) + 1
                · go_wp2_with fail
                  go_roundw
                  case rel => exact ⟨⟨lva', lvn', lvc'⟩, ⟨ena, enn, enc⟩, ⟨sea, sen, sec⟩, ⟨aca, acn, acc⟩, i + 1, nn + 1, by go_num, rfl, rfl, rfl, rfl, by go_num, by omega, by omega, HKI⟩
                  case measure => simp only [intOf]; omega
                · go_wp2_with fail
                  go_roundw
                  case rel => exact ⟨⟨lva', lvn', lvc'⟩, ⟨ena, enn, enc⟩, ⟨sea, sen, sec⟩, ⟨aca, acn, acc⟩, i + 1, nn + 1, by go_num, rfl, rfl, rfl, rfl, by go_num, by omega, by omega, HKI⟩
                  case measure => simp only [intOf]; omega
            · obtain ⟨hv0, hva, hvs⟩ := hse
              have HVS := hide hvs
              have HKB := hide (fun (W : World) (hb : Below W'.heap.size W' W) => HKW.out.keep hb)
              have HAL : Hid (acn ≤ 200) := by show _ ≤ _; have h9 : v.act.length = acn := HKW.out.act.len; omega
              have H0 := hide (Below.refl W'.heap.size W')
              have HKI2 := hide HKIf.out
              clear hva hvs
              go_wp2_with fail
              go_loopw [13] (fun tv wz => ∃ t : Nat, 1 ≤ t ∧ t ≤ nn + 1 ∧ tv = .int .i64 (t : Nat) ∧ Hid (Below W'.heap.size W' wz)) (fun tv _ => nn + 1 - (intOf tv).toNat)
              case atStart => exact ⟨1, Nat.le_refl _, by omega, rfl, H0⟩
              case round =>
                rename World => wo
                obtain ⟨t, ht1, htn, rfl, hbz⟩ := hrel
                have hkz := HKB.out _ hbz.out
                have k0 := hkz.box.c0
                have k1 := hkz.box.c1
                have k2 := hkz.box.c2
                unfold Sl.val at k2
                simp only at k2
                have HKZ := hide hkz
                clear hkz
                rcases Nat.lt_or_ge t (nn + 1) with htl | htg
                · have t1 : ((t : Nat) : Int) < ((nn + 1 : Nat) : Int) := by omega
                  have t2 : ((t : Nat) : Int) < ((nn : Nat) : Int) + 1 := by omega
                  have HSE := hide (HH.out.sees wo ⟨aca, acn, acc⟩ v (HKZ.out.act.wide (fun _ _ => trivial)) HAL.out ((t : Nat) : Int))
                  rw [HVS.out _ (by omega)] at HSE
                  unfold vwV Sl.val at HSE
                  simp only at HSE
                  obtain ⟨b, hb⟩ : ∃ b, b = seen.contains ((t : Nat) : Int) := ⟨_, rfl⟩
                  rw [← hb] at HSE
                  have HBE := hide hb
                  clear hb
                  go_wp2_with fail
                  refine HSE.out.mono ?_
                  rintro e w5 ⟨rfl, hb5⟩
                  have HB5 := hide (rBelow hbz.out hb5)
                  have HIN := hide (rin_any w5 ⟨sea, sen, sec⟩ seen (HKB.out _ HB5.out).seen ((t : Nat) : Int))
                  rw [← HBE.out] at HIN
                  unfold Sl.val at HIN
                  simp only at HIN
                  clear hb5 HSE k0 k1 k2
                  go_wp2_with fail
                  refine HIN.out.mono ?_
                  rintro e w6 ⟨rfl, hb6⟩
                  have HB6 := hide (rBelow HB5.out hb6)
                  have bne : (b != b) = false := by simp
                  clear hb6 HIN
                  go_wp2_with fail
                  go_roundw
                  case rel => exact ⟨t + 1, by omega, by omega, by go_num, HB6⟩
                  case measure => simp only [intOf]; omega
                · have t1 : ¬ ((t : Nat) : Int) < ((nn + 1 : Nat) : Int) := by omega
                  have t2 : ¬ ((t : Nat) : Int) < ((nn : Nat) : Int) + 1 := by omega
                  have HKI3 := hide (HKI2.out _ hbz.out)
                  go_wp2_with fail
                  go_roundw
                  case rel => exact ⟨⟨lva', lvn', lvc'⟩, ⟨ena, enn, enc⟩, ⟨sea, sen, sec⟩, ⟨aca, acn, acc⟩, i + 1, nn + 1, by go_num, rfl, rfl, rfl, rfl, by go_num, by omega, by omega, HKI3⟩
                  case measure => simp only [intOf]; omega
          · have hlvl : live.length = lvn := HKr.out.live.len
            have henl : ended.length = enn := HKr.out.ended.len
            obtain ⟨kq, hkq⟩ : ∃ kq, kq = bt / 2 % lvn := ⟨_, rfl⟩
            have hkl : kq < lvn := by rw [hkq]; exact Nat.mod_lt _ (by omega)
            have hkI : ((bt : Nat) : Int) / 2 % ((lvn : Nat) : Int) = ((kq : Nat) : Int) := by rw [hkq]; simp
            clear hkq
            obtain ⟨lb, lo, hla⟩ := HKr.out.live.pos (by show 0 < lvn; omega)
            have hlc := HKr.out.live.cellAt hla (i := kq) hkl
            replace hla : lva = some ⟨lb, lo, none⟩ := hla
            subst hla
            obtain ⟨y, hy⟩ : ∃ y, y = live.getD kq 0 := ⟨_, rfl⟩
            rw [← hy] at hlc
            have hB := below_alloc wr (.cells #[.int .i64 y] 3)
            have hk1 := HKr.out.keep hB
            have hsrc := (gi_litK wr y).src
            have hlee := HLE.out
            obtain ⟨⟨ena', enn', enc'⟩, W', hrun, ho, hgr, hl'⟩ := own_appN hk1.ended hsrc (by show enn + 1 ≤ _; omega)
            have hk2 := hk1.ends ho hgr
            rw [hy] at hk2
            have HRUN := hide hrun
            have HKV := hide hk2
            have HHK := hide hkl
            unfold Sl.val at HRUN
            simp only at HRUN
            clear hB hk1 hsrc hlee hrun ho hgr hl' hk2 hy
            go_wp2_with (first | refine wpList_app _ rfl (.tmp 75) (.tmp 80) rfl (.slice ena enn enc) (.slice (some ⟨wr.heap.size, 0, none⟩) 1 1) _ rfl rfl W' HRUN.out ?_)
            refine Pl.region_is (ops := Pl.find 20 ((Try.f5.body).getD .skip)) (by kernel_rfl) ?_
            refine keeps20 (D := fun _ => True) W' ⟨some ⟨lb, lo, none⟩, lvn, lvc⟩ live (HKV.out.live.gi (fun _ _ => trivial) (by show lvn ≤ _; omega)) kq hkl (by rfl) (by rfl) (by rfl) (by rfl) ?_
            intro u9 s9 w9 hq9 hl9
            simp only [Act.put, List.setIfInBounds_toArray, List.set_cons_zero, List.set_cons_succ]
            have HKW := hide (HKV.out.cut hq9)
            have HSN := hide HPH.out.seen
            have HKIf : Hid (∀ W, Below w9.heap.size w9 W → KI w W (w.heap.size + 1 + 1) s9 ⟨ena', enn', enc'⟩ ⟨sea, sen, sec⟩ ⟨aca, acn, acc⟩ (i + 1) (nn) aT) := fun W hb => ⟨_, _, _, _, HKW.out.keep hb, by rw [List.length_append, List.length_take, List.length_drop]; have := HLL.out; omega, by rw [List.length_append]; show ended.length + 1 ≤ _; have := HLE.out; omega, HLS.out, by omega, by omega, HPH.out.ends (by rw [hlvl]; exact HHK.out)⟩
            have HKI := hide (HKIf.out w9 (Below.refl _ _))
            obtain ⟨s9a, s9n, s9c⟩ := s9
            unfold Sl.val
            simp only
            clear hq9 hl9 HKV hlvl henl hkl hlc hkI
            rcases HSN.out with hz | hse
            · obtain rfl := hz
              have HKB := hide HKW.out.box
              go_wp2_with fail
              go_loopw [13] (fun tv wz => wz = w9 ∧ tv = .int .i64 1) (fun _ _ => 0)
              case atStart => exact ⟨rfl, rfl⟩
              case round =>
                rename World => wo
                obtain ⟨hwo, rfl⟩ := hrel
                subst hwo
                have k0 := HKB.out.c0
                have k1 := HKB.out.c1
                have k2 := HKB.out.c2
                unfold Vw.zero at k0 k1
                unfold Sl.val at k2
                simp only at k0 k1 k2
                by_cases t2 : (1 : Int) < ((nn : Nat) : Int)
                · go_wp2_with fail
                  go_roundw
                  case rel => exact ⟨⟨s9a, s9n, s9c⟩, ⟨ena', enn', enc'⟩, ⟨sea, sen, sec⟩, ⟨aca, acn, acc⟩, i + 1, nn, rfl, rfl, rfl, rfl, rfl, by go_num, by omega, by omega, HKI⟩
                  case measure => simp only [intOf]; omega
                · go_wp2_with fail
                  go_roundw
                  case rel => exact ⟨⟨s9a, s9n, s9c⟩, ⟨ena', enn', enc'⟩, ⟨sea, sen, sec⟩, ⟨aca, acn, acc⟩, i + 1, nn, rfl, rfl, rfl, rfl, rfl, by go_num, by omega, by omega, HKI⟩
                  case measure => simp only [intOf]; omega
            · obtain ⟨hv0, hva, hvs⟩ := hse
              have HVS := hide hvs
              have HKB := hide (fun (W : World) (hb : Below w9.heap.size w9 W) => HKW.out.keep hb)
              have HAL : Hid (acn ≤ 200) := by show _ ≤ _; have h9 : v.act.length = acn := HKW.out.act.len; omega
              have H0 := hide (Below.refl w9.heap.size w9)
              have HKI2 := hide HKIf.out
              clear hva hvs
              go_wp2_with fail
              go_loopw [13] (fun tv wz => ∃ t : Nat, 1 ≤ t ∧ t ≤ nn ∧ tv = .int .i64 (t : Nat) ∧ Hid (Below w9.heap.size w9 wz)) (fun tv _ => nn - (intOf tv).toNat)
              case atStart => exact ⟨1, Nat.le_refl _, by omega, rfl, H0⟩
              case round =>
                rename World => wo
                obtain ⟨t, ht1, htn, rfl, hbz⟩ := hrel
                have hkz := HKB.out _ hbz.out
                have k0 := hkz.box.c0
                have k1 := hkz.box.c1
                have k2 := hkz.box.c2
                unfold Sl.val at k2
                simp only at k2
                have HKZ := hide hkz
                clear hkz
                rcases Nat.lt_or_ge t (nn) with htl | htg
                · have t1 : ((t : Nat) : Int) < ((nn : Nat) : Int) := by omega
                  have t2 : ((t : Nat) : Int) < ((nn : Nat) : Int) := by omega
                  have HSE := hide (HH.out.sees wo ⟨aca, acn, acc⟩ v (HKZ.out.act.wide (fun _ _ => trivial)) HAL.out ((t : Nat) : Int))
                  rw [HVS.out _ (by omega)] at HSE
                  unfold vwV Sl.val at HSE
                  simp only at HSE
                  obtain ⟨b, hb⟩ : ∃ b, b = seen.contains ((t : Nat) : Int) := ⟨_, rfl⟩
                  rw [← hb] at HSE
                  have HBE := hide hb
                  clear hb
                  go_wp2_with fail
                  refine HSE.out.mono ?_
                  rintro e w5 ⟨rfl, hb5⟩
                  have HB5 := hide (rBelow hbz.out hb5)
                  have HIN := hide (rin_any w5 ⟨sea, sen, sec⟩ seen (HKB.out _ HB5.out).seen ((t : Nat) : Int))
                  rw [← HBE.out] at HIN
                  unfold Sl.val at HIN
                  simp only at HIN
                  clear hb5 HSE k0 k1 k2
                  go_wp2_with fail
                  refine HIN.out.mono ?_
                  rintro e w6 ⟨rfl, hb6⟩
                  have HB6 := hide (rBelow HB5.out hb6)
                  have bne : (b != b) = false := by simp
                  clear hb6 HIN
                  go_wp2_with fail
                  go_roundw
                  case rel => exact ⟨t + 1, by omega, by omega, by go_num, HB6⟩
                  case measure => simp only [intOf]; omega
                · have t1 : ¬ ((t : Nat) : Int) < ((nn : Nat) : Int) := by omega
                  have t2 : ¬ ((t : Nat) : Int) < ((nn : Nat) : Int) := by omega
                  have HKI3 := hide (HKI2.out _ hbz.out)
                  go_wp2_with fail
                  go_roundw
                  case rel => exact ⟨⟨s9a, s9n, s9c⟩, ⟨ena', enn', enc'⟩, ⟨sea, sen, sec⟩, ⟨aca, acn, acc⟩, i + 1, nn, rfl, rfl, rfl, rfl, rfl, by go_num, by omega, by omega, HKI3⟩
                  case measure => simp only [intOf]; omega
    · have hb := hkr.below
      have HB := hide hb
      by_cases h1 : i < len
      · have i1 : ((i : Nat) : Int) < ((len : Nat) : Int) := by omega
        have i2 : ¬ ((i : Nat) : Int) < 60 := by omega
        clear hkr hph hll hle hls hKI hb hin
        go_wp2_with fail
        refine (HA.out wr).mono ?_
        rintro e w4 ⟨rfl, hb4⟩
        have HB4 := hide (rBelow HB.out hb4)
        clear hb4
        go_wp2_with fail
        go_ret
        exact ⟨rfl, HB4.out⟩
      · have i1 : ¬ ((i : Nat) : Int) < ((len : Nat) : Int) := by omega
        clear hkr hph hll hle hls hKI hb hin
        go_wp2_with fail
        refine (HA.out wr).mono ?_
        rintro e w4 ⟨rfl, hb4⟩
        have HB4 := hide (rBelow HB.out hb4)
        clear hb4
        go_wp2_with fail
        go_ret
        exact ⟨rfl, HB4.out⟩

end Go.Proofs.Ytehmemfeagjagaa
