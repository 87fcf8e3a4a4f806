/-
  Layer 6: which images are a group, and its record: the law's last drawn region, and the law.
-/
import Derived.Test.YtjgeiooblcpiaaaRdP
import Derived.Test.YtjgeiooblcpiaaaRdN
namespace Go.Proofs.Ytjgeiooblcpiaaa
open Go.RowKit

theorem entAwake : ∀ args w, (callFunc 9 args).run Try.prog w = .ok (.enter 9 args) w := Pl.enters Try.func9 (by kernel_rfl) (by kernel_rfl)

set_option maxHeartbeats 2000000 in
set_option maxRecDepth 100000 in
theorem codes15 (w : World) (R : List Nat) (rs v7 v11 : Sl) (hB : Bs w.drew rs.a rs.len R) (hRl : R.length ≤ 1000000) (hrec : Calls Try.prog 14 #[v7.val] w.drew fun e w' => ∃ r, e = .returned r ∧ Owns w' w.drew.heap.size r R ∧ Below w.drew.heap.size w.drew w') (hsame : ∀ w2, Below w.drew.heap.size w.drew w2 → Calls Try.prog 15 #[v11.val, v7.val] w2 fun e w' => e = .returned (.bool true) ∧ Below w2.heap.size w2 w')
    {Q : Exit → Act → World → Prop} {A : Act} (hsz : A.tmps.size = 105) (hdf : A.defers = []) (s7 : A.tmps.getD 7 undef = Sl.val v7) (s9 : A.tmps.getD 9 undef = Sl.val rs) (s10 : A.tmps.getD 10 undef = .int .i64 0) (s11 : A.tmps.getD 11 undef = Sl.val v11) (s12 : A.tmps.getD 12 undef = .int .i64 ((rs.len : Nat) : Int)) (s13 : A.tmps.getD 13 undef = .int .i64 0)
    (hend : ∀ (u : Nat → Value) w', Below w.heap.size w w' → Q .normal ((((((((((((((((((((((((((((((A).put (some 77) (u 77)).put (some 78) (u 78)).put (some 79) (u 79)).put (some 80) (u 80)).put (some 81) (u 81)).put (some 82) (u 82)).put (some 83) (u 83)).put (some 84) (u 84)).put (some 85) (u 85)).put (some 86) (u 86)).put (some 87) (u 87)).put (some 88) (u 88)).put (some 89) (u 89)).put (some 90) (u 90)).put (some 91) (u 91)).put (some 92) (u 92)).put (some 93) (u 93)).put (some 94) (u 94)).put (some 95) (u 95)).put (some 96) (u 96)).put (some 97) (u 97)).put (some 98) (u 98)).put (some 99) (u 99)).put (some 100) (u 100)).put (some 101) (u 101)).put (some 102) (u 102)).put (some 103) (u 103)).put (some 104) (u 104)).put (some 6) (.bool true)) w') :
    (Code.region 15 (Pl.find 15 ((Try.f3.body).getD .skip)) true).wp Try.prog Q A w := by
  have hA := Pl.At.same (v := .int .i64 0) (d := 13) (Pl.At.same (v := .int .i64 ((rs.len : Nat) : Int)) (d := 12) (Pl.At.same (v := Sl.val v11) (d := 11) (Pl.At.same (v := .int .i64 0) (d := 10) (Pl.At.same (v := Sl.val rs) (d := 9) (Pl.At.same (v := Sl.val v7) (d := 7) (Pl.At.here hsz hdf) s7) s9) s10) s11) s12) s13
  refine Pl.H.start (S := (fun w' => Bs w' rs.a rs.len R)) (by kernel_rfl) hA hB ?_
  rw [show (Pl.find 15 ((Try.f3.body).getD .skip)).size = 29 by kernel_rfl]
  refine Pl.H.take 0 77 (.int .i64 0) (by kernel_rfl) (by kernel_rfl) (by kernel_rfl) (Pl.free 0 (by kernel_rfl)) (Pl.move 0 (.tmp 10) (by kernel_rfl) (by decide)) hB ?_
  refine Pl.H.take 1 78 (.bool true) (by kernel_rfl) (by kernel_rfl) (by kernel_rfl) (Pl.free 1 (by kernel_rfl)) (Pl.eqlSame 1 30 30 (.tmp 77) (.const (.int .i64 0)) _ _ (by kernel_rfl) (by decide) (by decide) rfl rfl) hB ?_
  refine Pl.H.take 2 79 (.bool true) (by kernel_rfl) (by kernel_rfl) (by kernel_rfl) (Pl.free 2 (by kernel_rfl)) (Pl.move 2 (.tmp 78) (by kernel_rfl) (by decide)) hB ?_
  refine Pl.H.take 3 80 (Sl.val rs) (by kernel_rfl) (by kernel_rfl) (by kernel_rfl) (Pl.guarded 3 2 79 true (by kernel_rfl) (by kernel_rfl) (by decide) rfl) (Pl.move 3 (.tmp 9) (by kernel_rfl) (by decide)) hB ?_
  refine Pl.H.take 4 81 (.string (bstr R)) (by kernel_rfl) (by kernel_rfl) (by kernel_rfl) (Pl.guarded 4 2 79 true (by kernel_rfl) (by kernel_rfl) (by decide) rfl) (Pl.convV 4 24 9 (.tmp 80) (Sl.val rs) _ (by kernel_rfl) (by decide) rfl (fun w' hS => run_string_of _ hS)) hB ?_
  refine Pl.H.take 5 82 (Sl.val v7) (by kernel_rfl) (by kernel_rfl) (by kernel_rfl) (Pl.guarded 5 2 79 true (by kernel_rfl) (by kernel_rfl) (by decide) rfl) (Pl.move 5 (.tmp 7) (by kernel_rfl) (by decide)) hB ?_
  refine Pl.H.call 6 83 14 [(.tmp 82)] #[25] (by kernel_rfl) (by kernel_rfl) (by kernel_rfl) (Pl.guarded 6 2 79 true (by kernel_rfl) (by kernel_rfl) (by decide) rfl) (by kernel_rfl) (by decide) entRecord (Calls.mono (hrec) ?_)
  rintro e w2 ⟨r3, rfl, ho3, hb2⟩
  obtain ⟨s3, hv3, hl3, hc3⟩ := ho3.cm hB.2.1 hRl
  subst hv3
  refine ⟨Sl.val s3, rfl, (hB.keep hb2 (Nat.le_refl _)), ?_⟩
  refine Pl.H.solo 7 84 (.string (bstr R)) (by kernel_rfl) (by kernel_rfl) (by kernel_rfl) (Pl.guarded 7 2 79 true (by kernel_rfl) (by kernel_rfl) (by decide) rfl) (Pl.conv1 7 24 9 (.tmp 83) _ (by kernel_rfl) (by decide) (run_string_of _ hc3.came.bs)) (hB.keep hb2 (Nat.le_refl _)) ?_
  refine Pl.H.take 8 85 (.bool true) (by kernel_rfl) (by kernel_rfl) (by kernel_rfl) (Pl.guarded 8 2 79 true (by kernel_rfl) (by kernel_rfl) (by decide) rfl) (Pl.eqlStr 8 9 9 (.tmp 81) (.tmp 84) _ (by kernel_rfl) (by decide) (by decide) rfl rfl) (hB.keep hb2 (Nat.le_refl _)) ?_
  refine Pl.H.take 9 86 (.bool true) (by kernel_rfl) (by kernel_rfl) (by kernel_rfl) (Pl.free 9 (by kernel_rfl)) (Pl.pick 9 (.tmp 79) (.tmp 85) (.const (.bool false)) (by kernel_rfl) (by decide) (by decide) rfl) (hB.keep hb2 (Nat.le_refl _)) ?_
  refine Pl.H.take 10 87 (.bool true) (by kernel_rfl) (by kernel_rfl) (by kernel_rfl) (Pl.free 10 (by kernel_rfl)) (Pl.move 10 (.tmp 86) (by kernel_rfl) (by decide)) (hB.keep hb2 (Nat.le_refl _)) ?_
  refine Pl.H.take 11 88 (.int .i64 0) (by kernel_rfl) (by kernel_rfl) (by kernel_rfl) (Pl.guarded 11 10 87 true (by kernel_rfl) (by kernel_rfl) (by decide) rfl) (Pl.move 11 (.tmp 13) (by kernel_rfl) (by decide)) (hB.keep hb2 (Nat.le_refl _)) ?_
  refine Pl.H.take 12 89 (.bool true) (by kernel_rfl) (by kernel_rfl) (by kernel_rfl) (Pl.guarded 12 10 87 true (by kernel_rfl) (by kernel_rfl) (by decide) rfl) (Pl.eqlSame 12 30 30 (.tmp 88) (.const (.int .i64 0)) _ _ (by kernel_rfl) (by decide) (by decide) rfl rfl) (hB.keep hb2 (Nat.le_refl _)) ?_
  refine Pl.H.take 13 90 (.bool true) (by kernel_rfl) (by kernel_rfl) (by kernel_rfl) (Pl.free 13 (by kernel_rfl)) (Pl.pick 13 (.tmp 87) (.tmp 89) (.const (.bool false)) (by kernel_rfl) (by decide) (by decide) rfl) (hB.keep hb2 (Nat.le_refl _)) ?_
  refine Pl.H.take 14 91 (.bool true) (by kernel_rfl) (by kernel_rfl) (by kernel_rfl) (Pl.free 14 (by kernel_rfl)) (Pl.move 14 (.tmp 90) (by kernel_rfl) (by decide)) (hB.keep hb2 (Nat.le_refl _)) ?_
  refine Pl.H.take 15 92 (.int .i64 ((rs.len : Nat) : Int)) (by kernel_rfl) (by kernel_rfl) (by kernel_rfl) (Pl.guarded 15 14 91 true (by kernel_rfl) (by kernel_rfl) (by decide) rfl) (Pl.move 15 (.tmp 12) (by kernel_rfl) (by decide)) (hB.keep hb2 (Nat.le_refl _)) ?_
  refine Pl.H.take 16 93 (Sl.val rs) (by kernel_rfl) (by kernel_rfl) (by kernel_rfl) (Pl.guarded 16 14 91 true (by kernel_rfl) (by kernel_rfl) (by decide) rfl) (Pl.move 16 (.tmp 9) (by kernel_rfl) (by decide)) (hB.keep hb2 (Nat.le_refl _)) ?_
  refine Pl.H.take 17 94 (.int .i64 ((rs.len : Nat) : Int)) (by kernel_rfl) (by kernel_rfl) (by kernel_rfl) (Pl.guarded 17 14 91 true (by kernel_rfl) (by kernel_rfl) (by decide) rfl) (Pl.lenOf 17 24 (.tmp 93) _ (by kernel_rfl) (by decide) (fun _ _ => rfl)) (hB.keep hb2 (Nat.le_refl _)) ?_
  refine Pl.H.take 18 95 (.bool true) (by kernel_rfl) (by kernel_rfl) (by kernel_rfl) (Pl.guarded 18 14 91 true (by kernel_rfl) (by kernel_rfl) (by decide) rfl) (Pl.eqlSame 18 3 3 (.tmp 92) (.tmp 94) _ _ (by kernel_rfl) (by decide) (by decide) rfl rfl) (hB.keep hb2 (Nat.le_refl _)) ?_
  refine Pl.H.take 19 96 (.bool true) (by kernel_rfl) (by kernel_rfl) (by kernel_rfl) (Pl.free 19 (by kernel_rfl)) (Pl.pick 19 (.tmp 91) (.tmp 95) (.const (.bool false)) (by kernel_rfl) (by decide) (by decide) rfl) (hB.keep hb2 (Nat.le_refl _)) ?_
  refine Pl.H.take 20 97 (.bool true) (by kernel_rfl) (by kernel_rfl) (by kernel_rfl) (Pl.free 20 (by kernel_rfl)) (Pl.move 20 (.tmp 96) (by kernel_rfl) (by decide)) (hB.keep hb2 (Nat.le_refl _)) ?_
  refine Pl.H.take 21 98 (Sl.val v11) (by kernel_rfl) (by kernel_rfl) (by kernel_rfl) (Pl.guarded 21 20 97 true (by kernel_rfl) (by kernel_rfl) (by decide) rfl) (Pl.move 21 (.tmp 11) (by kernel_rfl) (by decide)) (hB.keep hb2 (Nat.le_refl _)) ?_
  refine Pl.H.take 22 99 (Sl.val v7) (by kernel_rfl) (by kernel_rfl) (by kernel_rfl) (Pl.guarded 22 20 97 true (by kernel_rfl) (by kernel_rfl) (by decide) rfl) (Pl.move 22 (.tmp 7) (by kernel_rfl) (by decide)) (hB.keep hb2 (Nat.le_refl _)) ?_
  refine Pl.H.call 23 100 15 [(.tmp 98), (.tmp 99)] #[25, 25] (by kernel_rfl) (by kernel_rfl) (by kernel_rfl) (Pl.guarded 23 20 97 true (by kernel_rfl) (by kernel_rfl) (by decide) rfl) (by kernel_rfl) (by decide) entSame (Calls.mono (hsame w2 hb2) ?_)
  rintro e w4 ⟨rfl, hb4⟩
  refine ⟨.bool true, rfl, ((hB.keep hb2 (Nat.le_refl _)).keep hb4 (Nat.le_refl _)), ?_⟩
  refine Pl.H.take 24 101 (.bool true) (by kernel_rfl) (by kernel_rfl) (by kernel_rfl) (Pl.free 24 (by kernel_rfl)) (Pl.pick 24 (.tmp 97) (.tmp 100) (.const (.bool false)) (by kernel_rfl) (by decide) (by decide) rfl) ((hB.keep hb2 (Nat.le_refl _)).keep hb4 (Nat.le_refl _)) ?_
  refine Pl.H.take 25 102 (.bool true) (by kernel_rfl) (by kernel_rfl) (by kernel_rfl) (Pl.free 25 (by kernel_rfl)) (Pl.move 25 (.tmp 101) (by kernel_rfl) (by decide)) ((hB.keep hb2 (Nat.le_refl _)).keep hb4 (Nat.le_refl _)) ?_
  refine Pl.H.call 26 103 9 [] #[] (by kernel_rfl) (by kernel_rfl) (by kernel_rfl) (Pl.guarded 26 25 102 true (by kernel_rfl) (by kernel_rfl) (by decide) rfl) (by kernel_rfl) (by decide) entAwake (Calls.mono (awake_any w4) ?_)
  rintro e w5 ⟨rfl, hb5⟩
  refine ⟨.bool true, rfl, (((hB.keep hb2 (Nat.le_refl _)).keep hb4 (Nat.le_refl _)).keep hb5 (Nat.le_refl _)), ?_⟩
  refine Pl.H.take 27 104 (.bool true) (by kernel_rfl) (by kernel_rfl) (by kernel_rfl) (Pl.free 27 (by kernel_rfl)) (Pl.pick 27 (.tmp 102) (.tmp 103) (.const (.bool false)) (by kernel_rfl) (by decide) (by decide) rfl) (((hB.keep hb2 (Nat.le_refl _)).keep hb4 (Nat.le_refl _)).keep hb5 (Nat.le_refl _)) ?_
  refine Pl.H.take 28 6 (.bool true) (by kernel_rfl) (by kernel_rfl) (by kernel_rfl) (Pl.free 28 (by kernel_rfl)) (Pl.assign 28 (.tmp 104) (by kernel_rfl) (by decide)) (((hB.keep hb2 (Nat.le_refl _)).keep hb4 (Nat.le_refl _)).keep hb5 (Nat.le_refl _)) ?_
  refine Pl.H.done (by kernel_rfl) (fun A' hA' => ?_)
  rw [Pl.At.ext hA' (((((((((((((((((((((((((((((hA.put 77 _).put 78 _).put 79 _).put 80 _).put 81 _).put 82 _).put 83 _).put 84 _).put 85 _).put 86 _).put 87 _).put 88 _).put 89 _).put 90 _).put 91 _).put 92 _).put 93 _).put 94 _).put 95 _).put 96 _).put 97 _).put 98 _).put 99 _).put 100 _).put 101 _).put 102 _).put 103 _).put 104 _).put 6 _)]
  exact hend (fun d => if d = 77 then .int .i64 0 else if d = 78 then .bool true else if d = 79 then .bool true else if d = 80 then Sl.val rs else if d = 81 then .string (bstr R) else if d = 82 then Sl.val v7 else if d = 83 then Sl.val s3 else if d = 84 then .string (bstr R) else if d = 85 then .bool true else if d = 86 then .bool true else if d = 87 then .bool true else if d = 88 then .int .i64 0 else if d = 89 then .bool true else if d = 90 then .bool true else if d = 91 then .bool true else if d = 92 then .int .i64 ((rs.len : Nat) : Int) else if d = 93 then Sl.val rs else if d = 94 then .int .i64 ((rs.len : Nat) : Int) else if d = 95 then .bool true else if d = 96 then .bool true else if d = 97 then .bool true else if d = 98 then Sl.val v11 else if d = 99 then Sl.val v7 else if d = 100 then .bool true else if d = 101 then .bool true else if d = 102 then .bool true else if d = 103 then .bool true else if d = 104 then .bool true else undef) _ (rBelow (rBelow (below_drew w) hb2) (rBelow hb4 hb5))

/-- The bytes of the images may lie anywhere. -/
theorem GI.wide {H : Nat → Prop} {base : Nat} {w : World} {v : Sl} {l : List Ix} (h : GI H base w v l) : GI (fun _ => True) base w v l := ⟨h.own, h.blk, fun x hx => (h.bs x hx).mono (fun _ hk _ => ⟨trivial, hk.2⟩)⟩
theorem GI.any {H : Nat → Prop} {base : Nat} {w : World} {v : Sl} {l : List Ix} (h : GI H base w v l) (hm : v.len ≤ 1000000) : Gr (fun _ => True) w v l := (h.gr hm).mono (fun _ _ _ => trivial)

/-- From where the images are there. -/
def codesTail (w wr : World) (v : Sl) (l : List Ix) : Prop := Gr (fun _ => True) wr v l ∧ Below w.heap.size w wr

set_option maxHeartbeats 8000000 in
set_option maxRecDepth 100000 in
theorem codes_walk (w : World) (pa : Option Addr) (pl pc : Nat) (ps : List Int) (hp : InsI w pa pl pc ps) (ba : Option Addr) (bl bc : Nat) (bb : List Bt) (hb : InsB w ba bl bc bb) (oa : Option Addr) (ol oc : Nat) (od : List Nat) (ho : Came w oa ol oc od) :
    Calls Try.prog 3 #[.slice pa pl pc, .slice ba bl bc, .slice oa ol oc] w fun e w' => e = .returned (.bool true) ∧ Below w.heap.size w w' := by
  have HI := hide (images_any w pa pl pc ps hp ba bl bc bb hb)
  have HBI := hide hb
  have hbig := hb.big
  have HOD := hide ho
  have hobig := ho.big
  have hcn : cnt pl bl ≤ 9 := Nat.min_le_right _ _
  clear hp hb ho
  go_enter Try.func3, Try.ntmps3
  go_wp2_with fail
  refine HI.out.mono ?_
  rintro e w1 ⟨v1, l1, rfl, hg1, hi1, hb1⟩
  have hv1 : v1.len ≤ 9 := by rw [← hg1.len, ← ims_length, hi1, imgsOf_length]; exact hcn
  have HB1 := hide hb1
  have HG1 := hide hg1.wide
  have HBLK := hide hg1.blk
  clear hg1 hb1 hi1 hcn HI
  by_cases hod : 0 < ol ∧ ol < 600
  · have i1 : (0 : Int) < ((ol : Nat) : Int) := by omega
    have i2 : ((ol : Nat) : Int) < 600 := by omega
    obtain ⟨va0, vl0, vc0⟩ := v1
    unfold Sl.val
    simp only at hv1 ⊢
    go_wp2_with (at_builtin; refine wpList_append_im w1 ⟨63, ⟨oa, ol, oc⟩, od⟩ rfl (.tmp 25) (.tmp 28) rfl ⟨va0, vl0, vc0⟩ l1 rfl rfl HG1.out.own (by show vl0 + 1 ≤ 1000000; omega) ?_)
    intro v2 w2 ho2 hl2 hf2 hb2
    have hcx : Cm (fun k => True ∧ (Sl.mk va0 vl0 vc0).blk ≠ some k) w1 ⟨oa, ol, oc⟩ od := by
      refine ⟨⟨HOD.out.bs.keep HB1.out (Nat.le_refl _), HOD.out.nil, HOD.out.le, HOD.out.big⟩, fun ad ha _ => ⟨trivial, fun e => ?_⟩⟩
      have h1 := HBLK.out _ e
      obtain ⟨b, o, ha', hc⟩ := HOD.out.bs.2.2 0 hod.1
      have ha2 : oa = some ad := ha
      rw [ha'] at ha2
      cases ha2
      have := World.block_lt_of_cell? w _ hc
      simp only at h1 this
      omega
    obtain ⟨hg2, hbb2⟩ := HG1.out.add (x := ⟨63, ⟨oa, ol, oc⟩, od⟩) hcx ho2 hf2 hb2 HB1.out.size
    obtain ⟨l2, hl2'⟩ : ∃ l2, l2 = l1 ++ [(⟨63, ⟨oa, ol, oc⟩, od⟩ : Ix)] := ⟨_, rfl⟩
    rw [← hl2'] at hg2
    have HGR : Hid (Gr (fun _ => True) w2 v2 l2) := hg2.any (by rw [hl2]; show vl0 + 1 ≤ 1000000; omega)
    have HB2 := hide (HB1.out.trans hbb2)
    clear hg2 hbb2 ho2 hf2 hb2 hl2 hcx hl2' HG1 HBLK
    obtain ⟨va, vl, vc⟩ := v2
    unfold Sl.val
    simp only
    go_wp2_with fail
    go_loop [8] (fun i => ∃ k : Nat, k ≤ 9 ∧ i = .int .i64 k) (fun i => 20 - (intOf i).toNat)
    case atStart => exact ⟨0, by omega, rfl⟩
    case round =>
      obtain ⟨k, hk, rfl⟩ := hrel
      by_cases j1 : k < bl
      · have i1 : ((k : Nat) : Int) < ((bl : Nat) : Int) := by omega
        by_cases j2 : k < 9
        · have i2 : ((k : Nat) : Int) < 9 := by omega
          obtain ⟨b, o, ha, c0, hcm⟩ := (HBI.out.below HB2.out (Nat.le_refl _)).at_ k j1
          subst ha
          obtain ⟨⟨ya, yl, yc⟩, hy⟩ : ∃ y, y = (bb.getD k Bt.zero).s := ⟨_, rfl⟩
          rw [← hy] at c0 hcm
          have hyb : yl ≤ 9223372036854775807 := hcm.big
          replace c0 : w2.cell? ⟨b, o + k, none⟩ = some (.slice ya yl yc) := c0
          clear hy hcm
          by_cases j3 : 600 < yl
          · have i3 : (600 : Int) < ((yl : Nat) : Int) := by omega
            have HAW := hide (awake_any w2)
            go_wp2_with fail
            refine HAW.out.mono ?_
            rintro e w9 ⟨rfl, hb9⟩
            have HB9 := hide (rBelow HB2.out hb9)
            clear hb9
            go_wp2_with fail
            go_ret
            exact ⟨rfl, HB9.out⟩
          · have i3 : ¬ (600 : Int) < ((yl : Nat) : Int) := by omega
            go_wp2_with fail
            go_round
            case rel => exact ⟨k + 1, by omega, by go_num⟩
            case measure => simp only [intOf]; omega
        · have i2 : ¬ ((k : Nat) : Int) < 9 := by omega
          have HCH := check_any w2 ⟨va, vl, vc⟩ l2 HGR.out
          by_cases hm : May (ims l2)
          · have HE := hide (encode_ok w2 ⟨va, vl, vc⟩ l2 HGR.out hm)
            have HM := hide hm
            clear HCH hm
            unfold Sl.val at HE
            simp only at HE
            go_wp2_with fail
            refine HE.out.mono ?_
            rintro e w3 ⟨r3, rfl, ho3, hb3⟩
            have hrl : (recd (ims l2)).length ≤ 4000 := by rw [recd_length HM.out.len]; have := HM.out.2.1; omega
            obtain ⟨rs, hv3, hl3, hc3⟩ := ho3.cm (recd_bytes HGR.out.imB HM.out) (by omega)
            subst hv3
            have HB3 := hide (rBelow HB2.out hb3)
            have HGR3 := hide (HGR.out.below hb3 (Nat.le_refl _))
            have hck := check_any w3 ⟨va, vl, vc⟩ l2 HGR3.out
            rw [chk_ok HM.out] at hck
            have HCK := hide hck
            have HC3 := hide hc3
            have HRL := hide (And.intro hrl hl3)
            clear ho3 hb3 hrl hl3 hc3 hck HE
            obtain ⟨ra, rl, rc⟩ := rs
            unfold Sl.val at HCK ⊢
            simp only at HCK ⊢
            go_wp2_with fail
            refine HCK.out.mono ?_
            rintro e w4 ⟨rfl, hb4⟩
            have HB4 := hide (rBelow HB3.out hb4)
            have HGR4 := hide (HGR3.out.below hb4 (Nat.le_refl _))
            have HC4 := hide (HC3.out.below hb4 (Nat.le_refl _))
            have hmy := rmay_any w4 ⟨va, vl, vc⟩ l2 HGR4.out
            rw [mayB_ok HM.out] at hmy
            have HMY := hide hmy
            clear hb4 HGR3 HC3 HCK hmy
            unfold Sl.val at HMY
            simp only at HMY
            go_wp2_with fail
            refine HMY.out.mono ?_
            rintro e w5 ⟨rfl, hb5⟩
            have HB5 := hide (rBelow HB4.out hb5)
            have HGR5 := hide (HGR4.out.below hb5 (Nat.le_refl _))
            have HC5 := hide (HC4.out.below hb5 (Nat.le_refl _))
            have hmy := rmay_any w5 ⟨va, vl, vc⟩ l2 HGR5.out
            rw [mayB_ok HM.out] at hmy
            have HMY2 := hide hmy
            clear hb5 HGR4 HC4 HMY hmy
            unfold Sl.val at HMY2
            simp only at HMY2
            go_wp2_with fail
            refine HMY2.out.mono ?_
            rintro e w6 ⟨rfl, hb6⟩
            have HB6 := hide (rBelow HB5.out hb6)
            have HGR6 := hide (HGR5.out.below hb6 (Nat.le_refl _))
            have HC6 := hide (HC5.out.below hb6 (Nat.le_refl _))
            have HF := hide (first_any w6 ra rl rc _ HC6.out.came (by have h8 := HRL.out.1; have h9 : rl = (recd (ims l2)).length := HRL.out.2; omega))
            clear hb6 HGR5 HC5 HMY2
            go_wp2_with fail
            refine HF.out.mono ?_
            rintro e w7 ⟨v7, rfl, ⟨l7, hg7, hi7⟩, hb7⟩
            have HB7 := hide (rBelow HB6.out hb7)
            have HGR7 := hide (HGR6.out.below hb7 (Nat.le_refl _))
            have HC7 := hide (HC6.out.below hb7 (Nat.le_refl _))
            have hdc := dec_recd HM.out []
            rw [List.append_nil] at hdc
            have e1 : (dec (recd (ims l2))).n = rl := by rw [hdc]; exact HRL.out.2.symm
            have e2 : (dec (recd (ims l2))).e = 0 := by rw [hdc]
            have e3 : ims l7 = ims l2 := by rw [hi7, hdc]
            rw [e1, e2]
            have hd := below_drew w7
            have hrec := record_any w7.drew ⟨va, vl, vc⟩ l2 (HGR7.out.below hd (Nat.le_refl _)) HM.out
            have hsame : ∀ wx, Below w7.drew.heap.size w7.drew wx → Calls Try.prog 15 #[v7.val, (Sl.mk va vl vc).val] wx fun e w' => e = .returned (.bool true) ∧ Below wx.heap.size wx w' := by
              intro wx hbx
              have hs := rsame_any wx v7 ⟨va, vl, vc⟩ l7 l2 ((hg7.below hd (Nat.le_refl _)).below hbx (Nat.le_refl _)) ((HGR7.out.below hd (Nat.le_refl _)).below hbx (Nat.le_refl _))
              rw [e3, sameB_ok rfl] at hs
              exact hs
            have HRG := hide (fun Q A => @codes15 w7 (recd (ims l2)) ⟨ra, rl, rc⟩ ⟨va, vl, vc⟩ v7 ((HC7.out.below hd (Nat.le_refl _)).came.bs) (by have := HRL.out.1; omega) hrec hsame Q A)
            clear hb7 hg7 hi7 hdc e1 e2 e3 hd hrec hsame HGR6 HC6 HF
            obtain ⟨xa, xl, xc⟩ := v7
            unfold Sl.val
            simp only
            go_wp2_with fail
            refine Pl.region_is (ops := Pl.find 15 ((Try.f3.body).getD .skip)) (by kernel_rfl) ?_
            refine HRG.out _ _ (by rfl) rfl (by rfl) (by rfl) (by rfl) (by rfl) (by rfl) (by rfl) ?_
            intro uu w9 hb9
            simp only [Act.put, List.setIfInBounds_toArray, List.set_cons_zero, List.set_cons_succ]
            have HB9 := hide (rBelow HB7.out hb9)
            clear hb9 HRG
            go_wp2_with fail
            go_ret
            exact ⟨rfl, HB9.out⟩
          · have HE := hide (encode_no w2 ⟨va, vl, vc⟩ l2 HGR.out hm)
            have HM := hide hm
            clear HCH hm
            unfold Sl.val at HE
            simp only at HE
            go_wp2_with fail
            refine HE.out.mono ?_
            rintro e w3 ⟨rfl, hb3⟩
            have HB3 := hide (rBelow HB2.out hb3)
            have HGR3 := hide (HGR.out.below hb3 (Nat.le_refl _))
            have hck := check_any w3 ⟨va, vl, vc⟩ l2 HGR3.out
            rw [chk_no HM.out] at hck
            have HCK := hide hck
            clear hb3 hck HE
            unfold Sl.val at HCK
            simp only at HCK
            go_wp2_with fail
            refine HCK.out.mono ?_
            rintro e w4 ⟨rfl, hb4⟩
            have HB4 := hide (rBelow HB3.out hb4)
            have HGR4 := hide (HGR3.out.below hb4 (Nat.le_refl _))
            have hmy := rmay_any w4 ⟨va, vl, vc⟩ l2 HGR4.out
            rw [mayB_no HM.out] at hmy
            have HMY := hide hmy
            clear hb4 HGR3 HCK hmy
            unfold Sl.val at HMY
            simp only at HMY
            go_wp2_with fail
            refine HMY.out.mono ?_
            rintro e w5 ⟨rfl, hb5⟩
            have HB5 := hide (rBelow HB4.out hb5)
            have HGR5 := hide (HGR4.out.below hb5 (Nat.le_refl _))
            have hmy := rmay_any w5 ⟨va, vl, vc⟩ l2 HGR5.out
            rw [mayB_no HM.out] at hmy
            have HMY2 := hide hmy
            clear hb5 HGR4 HMY hmy
            unfold Sl.val at HMY2
            simp only at HMY2
            go_wp2_with fail
            refine HMY2.out.mono ?_
            rintro e w6 ⟨rfl, hb6⟩
            have HB6 := hide (rBelow HB5.out hb6)
            have HAW := hide (awake_any w6)
            clear hb6 HGR5 HMY2
            go_wp2_with fail
            refine HAW.out.mono ?_
            rintro e w7 ⟨rfl, hb7⟩
            have HB7 := hide (rBelow HB6.out hb7)
            clear hb7
            go_wp2_with fail
            go_ret
            exact ⟨rfl, HB7.out⟩
      · have i1 : ¬ ((k : Nat) : Int) < ((bl : Nat) : Int) := by omega
        have HCH := check_any w2 ⟨va, vl, vc⟩ l2 HGR.out
        by_cases hm : May (ims l2)
        · have HE := hide (encode_ok w2 ⟨va, vl, vc⟩ l2 HGR.out hm)
          have HM := hide hm
          clear HCH hm
          unfold Sl.val at HE
          simp only at HE
          go_wp2_with fail
          refine HE.out.mono ?_
          rintro e w3 ⟨r3, rfl, ho3, hb3⟩
          have hrl : (recd (ims l2)).length ≤ 4000 := by rw [recd_length HM.out.len]; have := HM.out.2.1; omega
          obtain ⟨rs, hv3, hl3, hc3⟩ := ho3.cm (recd_bytes HGR.out.imB HM.out) (by omega)
          subst hv3
          have HB3 := hide (rBelow HB2.out hb3)
          have HGR3 := hide (HGR.out.below hb3 (Nat.le_refl _))
          have hck := check_any w3 ⟨va, vl, vc⟩ l2 HGR3.out
          rw [chk_ok HM.out] at hck
          have HCK := hide hck
          have HC3 := hide hc3
          have HRL := hide (And.intro hrl hl3)
          clear ho3 hb3 hrl hl3 hc3 hck HE
          obtain ⟨ra, rl, rc⟩ := rs
          unfold Sl.val at HCK ⊢
          simp only at HCK ⊢
          go_wp2_with fail
          refine HCK.out.mono ?_
          rintro e w4 ⟨rfl, hb4⟩
          have HB4 := hide (rBelow HB3.out hb4)
          have HGR4 := hide (HGR3.out.below hb4 (Nat.le_refl _))
          have HC4 := hide (HC3.out.below hb4 (Nat.le_refl _))
          have hmy := rmay_any w4 ⟨va, vl, vc⟩ l2 HGR4.out
          rw [mayB_ok HM.out] at hmy
          have HMY := hide hmy
          clear hb4 HGR3 HC3 HCK hmy
          unfold Sl.val at HMY
          simp only at HMY
          go_wp2_with fail
          refine HMY.out.mono ?_
          rintro e w5 ⟨rfl, hb5⟩
          have HB5 := hide (rBelow HB4.out hb5)
          have HGR5 := hide (HGR4.out.below hb5 (Nat.le_refl _))
          have HC5 := hide (HC4.out.below hb5 (Nat.le_refl _))
          have hmy := rmay_any w5 ⟨va, vl, vc⟩ l2 HGR5.out
          rw [mayB_ok HM.out] at hmy
          have HMY2 := hide hmy
          clear hb5 HGR4 HC4 HMY hmy
          unfold Sl.val at HMY2
          simp only at HMY2
          go_wp2_with fail
          refine HMY2.out.mono ?_
          rintro e w6 ⟨rfl, hb6⟩
          have HB6 := hide (rBelow HB5.out hb6)
          have HGR6 := hide (HGR5.out.below hb6 (Nat.le_refl _))
          have HC6 := hide (HC5.out.below hb6 (Nat.le_refl _))
          have HF := hide (first_any w6 ra rl rc _ HC6.out.came (by have h8 := HRL.out.1; have h9 : rl = (recd (ims l2)).length := HRL.out.2; omega))
          clear hb6 HGR5 HC5 HMY2
          go_wp2_with fail
          refine HF.out.mono ?_
          rintro e w7 ⟨v7, rfl, ⟨l7, hg7, hi7⟩, hb7⟩
          have HB7 := hide (rBelow HB6.out hb7)
          have HGR7 := hide (HGR6.out.below hb7 (Nat.le_refl _))
          have HC7 := hide (HC6.out.below hb7 (Nat.le_refl _))
          have hdc := dec_recd HM.out []
          rw [List.append_nil] at hdc
          have e1 : (dec (recd (ims l2))).n = rl := by rw [hdc]; exact HRL.out.2.symm
          have e2 : (dec (recd (ims l2))).e = 0 := by rw [hdc]
          have e3 : ims l7 = ims l2 := by rw [hi7, hdc]
          rw [e1, e2]
          have hd := below_drew w7
          have hrec := record_any w7.drew ⟨va, vl, vc⟩ l2 (HGR7.out.below hd (Nat.le_refl _)) HM.out
          have hsame : ∀ wx, Below w7.drew.heap.size w7.drew wx → Calls Try.prog 15 #[v7.val, (Sl.mk va vl vc).val] wx fun e w' => e = .returned (.bool true) ∧ Below wx.heap.size wx w' := by
            intro wx hbx
            have hs := rsame_any wx v7 ⟨va, vl, vc⟩ l7 l2 ((hg7.below hd (Nat.le_refl _)).below hbx (Nat.le_refl _)) ((HGR7.out.below hd (Nat.le_refl _)).below hbx (Nat.le_refl _))
            rw [e3, sameB_ok rfl] at hs
            exact hs
          have HRG := hide (fun Q A => @codes15 w7 (recd (ims l2)) ⟨ra, rl, rc⟩ ⟨va, vl, vc⟩ v7 ((HC7.out.below hd (Nat.le_refl _)).came.bs) (by have := HRL.out.1; omega) hrec hsame Q A)
          clear hb7 hg7 hi7 hdc e1 e2 e3 hd hrec hsame HGR6 HC6 HF
          obtain ⟨xa, xl, xc⟩ := v7
          unfold Sl.val
          simp only
          go_wp2_with fail
          refine Pl.region_is (ops := Pl.find 15 ((Try.f3.body).getD .skip)) (by kernel_rfl) ?_
          refine HRG.out _ _ (by rfl) rfl (by rfl) (by rfl) (by rfl) (by rfl) (by rfl) (by rfl) ?_
          intro uu w9 hb9
          simp only [Act.put, List.setIfInBounds_toArray, List.set_cons_zero, List.set_cons_succ]
          have HB9 := hide (rBelow HB7.out hb9)
          clear hb9 HRG
          go_wp2_with fail
          go_ret
          exact ⟨rfl, HB9.out⟩
        · have HE := hide (encode_no w2 ⟨va, vl, vc⟩ l2 HGR.out hm)
          have HM := hide hm
          clear HCH hm
          unfold Sl.val at HE
          simp only at HE
          go_wp2_with fail
          refine HE.out.mono ?_
          rintro e w3 ⟨rfl, hb3⟩
          have HB3 := hide (rBelow HB2.out hb3)
          have HGR3 := hide (HGR.out.below hb3 (Nat.le_refl _))
          have hck := check_any w3 ⟨va, vl, vc⟩ l2 HGR3.out
          rw [chk_no HM.out] at hck
          have HCK := hide hck
          clear hb3 hck HE
          unfold Sl.val at HCK
          simp only at HCK
          go_wp2_with fail
          refine HCK.out.mono ?_
          rintro e w4 ⟨rfl, hb4⟩
          have HB4 := hide (rBelow HB3.out hb4)
          have HGR4 := hide (HGR3.out.below hb4 (Nat.le_refl _))
          have hmy := rmay_any w4 ⟨va, vl, vc⟩ l2 HGR4.out
          rw [mayB_no HM.out] at hmy
          have HMY := hide hmy
          clear hb4 HGR3 HCK hmy
          unfold Sl.val at HMY
          simp only at HMY
          go_wp2_with fail
          refine HMY.out.mono ?_
          rintro e w5 ⟨rfl, hb5⟩
          have HB5 := hide (rBelow HB4.out hb5)
          have HGR5 := hide (HGR4.out.below hb5 (Nat.le_refl _))
          have hmy := rmay_any w5 ⟨va, vl, vc⟩ l2 HGR5.out
          rw [mayB_no HM.out] at hmy
          have HMY2 := hide hmy
          clear hb5 HGR4 HMY hmy
          unfold Sl.val at HMY2
          simp only at HMY2
          go_wp2_with fail
          refine HMY2.out.mono ?_
          rintro e w6 ⟨rfl, hb6⟩
          have HB6 := hide (rBelow HB5.out hb6)
          have HAW := hide (awake_any w6)
          clear hb6 HGR5 HMY2
          go_wp2_with fail
          refine HAW.out.mono ?_
          rintro e w7 ⟨rfl, hb7⟩
          have HB7 := hide (rBelow HB6.out hb7)
          clear hb7
          go_wp2_with fail
          go_ret
          exact ⟨rfl, HB7.out⟩
  · obtain ⟨l2, hl2⟩ : ∃ l2, l2 = l1 := ⟨_, rfl⟩
    rw [← hl2] at HG1
    obtain ⟨va, vl, vc⟩ := v1
    obtain ⟨w2, hw2⟩ : ∃ w2, w2 = w1 := ⟨_, rfl⟩
    rw [← hw2] at HG1 HB1 ⊢
    have HGR : Hid (Gr (fun _ => True) w2 ⟨va, vl, vc⟩ l2) := HG1.out.any (by show vl ≤ 1000000; have : vl ≤ 9 := hv1; omega)
    have HB2 := HB1
    clear HG1 HBLK hl2 hv1 hw2
    unfold Sl.val
    simp only
    by_cases j0 : 0 < ol
    · have i1 : (0 : Int) < ((ol : Nat) : Int) := by omega
      have i2 : ¬ ((ol : Nat) : Int) < 600 := by omega
      clear hod
      go_wp2_with fail
      go_loop [8] (fun i => ∃ k : Nat, k ≤ 9 ∧ i = .int .i64 k) (fun i => 20 - (intOf i).toNat)
      case atStart => exact ⟨0, by omega, rfl⟩
      case round =>
        obtain ⟨k, hk, rfl⟩ := hrel
        by_cases j1 : k < bl
        · have i1 : ((k : Nat) : Int) < ((bl : Nat) : Int) := by omega
          by_cases j2 : k < 9
          · have i2 : ((k : Nat) : Int) < 9 := by omega
            obtain ⟨b, o, ha, c0, hcm⟩ := (HBI.out.below HB2.out (Nat.le_refl _)).at_ k j1
            subst ha
            obtain ⟨⟨ya, yl, yc⟩, hy⟩ : ∃ y, y = (bb.getD k Bt.zero).s := ⟨_, rfl⟩
            rw [← hy] at c0 hcm
            have hyb : yl ≤ 9223372036854775807 := hcm.big
            replace c0 : w2.cell? ⟨b, o + k, none⟩ = some (.slice ya yl yc) := c0
            clear hy hcm
            by_cases j3 : 600 < yl
            · have i3 : (600 : Int) < ((yl : Nat) : Int) := by omega
              have HAW := hide (awake_any w2)
              go_wp2_with fail
              refine HAW.out.mono ?_
              rintro e w9 ⟨rfl, hb9⟩
              have HB9 := hide (rBelow HB2.out hb9)
              clear hb9
              go_wp2_with fail
              go_ret
              exact ⟨rfl, HB9.out⟩
            · have i3 : ¬ (600 : Int) < ((yl : Nat) : Int) := by omega
              go_wp2_with fail
              go_round
              case rel => exact ⟨k + 1, by omega, by go_num⟩
              case measure => simp only [intOf]; omega
          · have i2 : ¬ ((k : Nat) : Int) < 9 := by omega
            have HCH := check_any w2 ⟨va, vl, vc⟩ l2 HGR.out
            by_cases hm : May (ims l2)
            · have HE := hide (encode_ok w2 ⟨va, vl, vc⟩ l2 HGR.out hm)
              have HM := hide hm
              clear HCH hm
              unfold Sl.val at HE
              simp only at HE
              go_wp2_with fail
              refine HE.out.mono ?_
              rintro e w3 ⟨r3, rfl, ho3, hb3⟩
              have hrl : (recd (ims l2)).length ≤ 4000 := by rw [recd_length HM.out.len]; have := HM.out.2.1; omega
              obtain ⟨rs, hv3, hl3, hc3⟩ := ho3.cm (recd_bytes HGR.out.imB HM.out) (by omega)
              subst hv3
              have HB3 := hide (rBelow HB2.out hb3)
              have HGR3 := hide (HGR.out.below hb3 (Nat.le_refl _))
              have hck := check_any w3 ⟨va, vl, vc⟩ l2 HGR3.out
              rw [chk_ok HM.out] at hck
              have HCK := hide hck
              have HC3 := hide hc3
              have HRL := hide (And.intro hrl hl3)
              clear ho3 hb3 hrl hl3 hc3 hck HE
              obtain ⟨ra, rl, rc⟩ := rs
              unfold Sl.val at HCK ⊢
              simp only at HCK ⊢
              go_wp2_with fail
              refine HCK.out.mono ?_
              rintro e w4 ⟨rfl, hb4⟩
              have HB4 := hide (rBelow HB3.out hb4)
              have HGR4 := hide (HGR3.out.below hb4 (Nat.le_refl _))
              have HC4 := hide (HC3.out.below hb4 (Nat.le_refl _))
              have hmy := rmay_any w4 ⟨va, vl, vc⟩ l2 HGR4.out
              rw [mayB_ok HM.out] at hmy
              have HMY := hide hmy
              clear hb4 HGR3 HC3 HCK hmy
              unfold Sl.val at HMY
              simp only at HMY
              go_wp2_with fail
              refine HMY.out.mono ?_
              rintro e w5 ⟨rfl, hb5⟩
              have HB5 := hide (rBelow HB4.out hb5)
              have HGR5 := hide (HGR4.out.below hb5 (Nat.le_refl _))
              have HC5 := hide (HC4.out.below hb5 (Nat.le_refl _))
              have hmy := rmay_any w5 ⟨va, vl, vc⟩ l2 HGR5.out
              rw [mayB_ok HM.out] at hmy
              have HMY2 := hide hmy
              clear hb5 HGR4 HC4 HMY hmy
              unfold Sl.val at HMY2
              simp only at HMY2
              go_wp2_with fail
              refine HMY2.out.mono ?_
              rintro e w6 ⟨rfl, hb6⟩
              have HB6 := hide (rBelow HB5.out hb6)
              have HGR6 := hide (HGR5.out.below hb6 (Nat.le_refl _))
              have HC6 := hide (HC5.out.below hb6 (Nat.le_refl _))
              have HF := hide (first_any w6 ra rl rc _ HC6.out.came (by have h8 := HRL.out.1; have h9 : rl = (recd (ims l2)).length := HRL.out.2; omega))
              clear hb6 HGR5 HC5 HMY2
              go_wp2_with fail
              refine HF.out.mono ?_
              rintro e w7 ⟨v7, rfl, ⟨l7, hg7, hi7⟩, hb7⟩
              have HB7 := hide (rBelow HB6.out hb7)
              have HGR7 := hide (HGR6.out.below hb7 (Nat.le_refl _))
              have HC7 := hide (HC6.out.below hb7 (Nat.le_refl _))
              have hdc := dec_recd HM.out []
              rw [List.append_nil] at hdc
              have e1 : (dec (recd (ims l2))).n = rl := by rw [hdc]; exact HRL.out.2.symm
              have e2 : (dec (recd (ims l2))).e = 0 := by rw [hdc]
              have e3 : ims l7 = ims l2 := by rw [hi7, hdc]
              rw [e1, e2]
              have hd := below_drew w7
              have hrec := record_any w7.drew ⟨va, vl, vc⟩ l2 (HGR7.out.below hd (Nat.le_refl _)) HM.out
              have hsame : ∀ wx, Below w7.drew.heap.size w7.drew wx → Calls Try.prog 15 #[v7.val, (Sl.mk va vl vc).val] wx fun e w' => e = .returned (.bool true) ∧ Below wx.heap.size wx w' := by
                intro wx hbx
                have hs := rsame_any wx v7 ⟨va, vl, vc⟩ l7 l2 ((hg7.below hd (Nat.le_refl _)).below hbx (Nat.le_refl _)) ((HGR7.out.below hd (Nat.le_refl _)).below hbx (Nat.le_refl _))
                rw [e3, sameB_ok rfl] at hs
                exact hs
              have HRG := hide (fun Q A => @codes15 w7 (recd (ims l2)) ⟨ra, rl, rc⟩ ⟨va, vl, vc⟩ v7 ((HC7.out.below hd (Nat.le_refl _)).came.bs) (by have := HRL.out.1; omega) hrec hsame Q A)
              clear hb7 hg7 hi7 hdc e1 e2 e3 hd hrec hsame HGR6 HC6 HF
              obtain ⟨xa, xl, xc⟩ := v7
              unfold Sl.val
              simp only
              go_wp2_with fail
              refine Pl.region_is (ops := Pl.find 15 ((Try.f3.body).getD .skip)) (by kernel_rfl) ?_
              refine HRG.out _ _ (by rfl) rfl (by rfl) (by rfl) (by rfl) (by rfl) (by rfl) (by rfl) ?_
              intro uu w9 hb9
              simp only [Act.put, List.setIfInBounds_toArray, List.set_cons_zero, List.set_cons_succ]
              have HB9 := hide (rBelow HB7.out hb9)
              clear hb9 HRG
              go_wp2_with fail
              go_ret
              exact ⟨rfl, HB9.out⟩
            · have HE := hide (encode_no w2 ⟨va, vl, vc⟩ l2 HGR.out hm)
              have HM := hide hm
              clear HCH hm
              unfold Sl.val at HE
              simp only at HE
              go_wp2_with fail
              refine HE.out.mono ?_
              rintro e w3 ⟨rfl, hb3⟩
              have HB3 := hide (rBelow HB2.out hb3)
              have HGR3 := hide (HGR.out.below hb3 (Nat.le_refl _))
              have hck := check_any w3 ⟨va, vl, vc⟩ l2 HGR3.out
              rw [chk_no HM.out] at hck
              have HCK := hide hck
              clear hb3 hck HE
              unfold Sl.val at HCK
              simp only at HCK
              go_wp2_with fail
              refine HCK.out.mono ?_
              rintro e w4 ⟨rfl, hb4⟩
              have HB4 := hide (rBelow HB3.out hb4)
              have HGR4 := hide (HGR3.out.below hb4 (Nat.le_refl _))
              have hmy := rmay_any w4 ⟨va, vl, vc⟩ l2 HGR4.out
              rw [mayB_no HM.out] at hmy
              have HMY := hide hmy
              clear hb4 HGR3 HCK hmy
              unfold Sl.val at HMY
              simp only at HMY
              go_wp2_with fail
              refine HMY.out.mono ?_
              rintro e w5 ⟨rfl, hb5⟩
              have HB5 := hide (rBelow HB4.out hb5)
              have HGR5 := hide (HGR4.out.below hb5 (Nat.le_refl _))
              have hmy := rmay_any w5 ⟨va, vl, vc⟩ l2 HGR5.out
              rw [mayB_no HM.out] at hmy
              have HMY2 := hide hmy
              clear hb5 HGR4 HMY hmy
              unfold Sl.val at HMY2
              simp only at HMY2
              go_wp2_with fail
              refine HMY2.out.mono ?_
              rintro e w6 ⟨rfl, hb6⟩
              have HB6 := hide (rBelow HB5.out hb6)
              have HAW := hide (awake_any w6)
              clear hb6 HGR5 HMY2
              go_wp2_with fail
              refine HAW.out.mono ?_
              rintro e w7 ⟨rfl, hb7⟩
              have HB7 := hide (rBelow HB6.out hb7)
              clear hb7
              go_wp2_with fail
              go_ret
              exact ⟨rfl, HB7.out⟩
        · have i1 : ¬ ((k : Nat) : Int) < ((bl : Nat) : Int) := by omega
          have HCH := check_any w2 ⟨va, vl, vc⟩ l2 HGR.out
          by_cases hm : May (ims l2)
          · have HE := hide (encode_ok w2 ⟨va, vl, vc⟩ l2 HGR.out hm)
            have HM := hide hm
            clear HCH hm
            unfold Sl.val at HE
            simp only at HE
            go_wp2_with fail
            refine HE.out.mono ?_
            rintro e w3 ⟨r3, rfl, ho3, hb3⟩
            have hrl : (recd (ims l2)).length ≤ 4000 := by rw [recd_length HM.out.len]; have := HM.out.2.1; omega
            obtain ⟨rs, hv3, hl3, hc3⟩ := ho3.cm (recd_bytes HGR.out.imB HM.out) (by omega)
            subst hv3
            have HB3 := hide (rBelow HB2.out hb3)
            have HGR3 := hide (HGR.out.below hb3 (Nat.le_refl _))
            have hck := check_any w3 ⟨va, vl, vc⟩ l2 HGR3.out
            rw [chk_ok HM.out] at hck
            have HCK := hide hck
            have HC3 := hide hc3
            have HRL := hide (And.intro hrl hl3)
            clear ho3 hb3 hrl hl3 hc3 hck HE
            obtain ⟨ra, rl, rc⟩ := rs
            unfold Sl.val at HCK ⊢
            simp only at HCK ⊢
            go_wp2_with fail
            refine HCK.out.mono ?_
            rintro e w4 ⟨rfl, hb4⟩
            have HB4 := hide (rBelow HB3.out hb4)
            have HGR4 := hide (HGR3.out.below hb4 (Nat.le_refl _))
            have HC4 := hide (HC3.out.below hb4 (Nat.le_refl _))
            have hmy := rmay_any w4 ⟨va, vl, vc⟩ l2 HGR4.out
            rw [mayB_ok HM.out] at hmy
            have HMY := hide hmy
            clear hb4 HGR3 HC3 HCK hmy
            unfold Sl.val at HMY
            simp only at HMY
            go_wp2_with fail
            refine HMY.out.mono ?_
            rintro e w5 ⟨rfl, hb5⟩
            have HB5 := hide (rBelow HB4.out hb5)
            have HGR5 := hide (HGR4.out.below hb5 (Nat.le_refl _))
            have HC5 := hide (HC4.out.below hb5 (Nat.le_refl _))
            have hmy := rmay_any w5 ⟨va, vl, vc⟩ l2 HGR5.out
            rw [mayB_ok HM.out] at hmy
            have HMY2 := hide hmy
            clear hb5 HGR4 HC4 HMY hmy
            unfold Sl.val at HMY2
            simp only at HMY2
            go_wp2_with fail
            refine HMY2.out.mono ?_
            rintro e w6 ⟨rfl, hb6⟩
            have HB6 := hide (rBelow HB5.out hb6)
            have HGR6 := hide (HGR5.out.below hb6 (Nat.le_refl _))
            have HC6 := hide (HC5.out.below hb6 (Nat.le_refl _))
            have HF := hide (first_any w6 ra rl rc _ HC6.out.came (by have h8 := HRL.out.1; have h9 : rl = (recd (ims l2)).length := HRL.out.2; omega))
            clear hb6 HGR5 HC5 HMY2
            go_wp2_with fail
            refine HF.out.mono ?_
            rintro e w7 ⟨v7, rfl, ⟨l7, hg7, hi7⟩, hb7⟩
            have HB7 := hide (rBelow HB6.out hb7)
            have HGR7 := hide (HGR6.out.below hb7 (Nat.le_refl _))
            have HC7 := hide (HC6.out.below hb7 (Nat.le_refl _))
            have hdc := dec_recd HM.out []
            rw [List.append_nil] at hdc
            have e1 : (dec (recd (ims l2))).n = rl := by rw [hdc]; exact HRL.out.2.symm
            have e2 : (dec (recd (ims l2))).e = 0 := by rw [hdc]
            have e3 : ims l7 = ims l2 := by rw [hi7, hdc]
            rw [e1, e2]
            have hd := below_drew w7
            have hrec := record_any w7.drew ⟨va, vl, vc⟩ l2 (HGR7.out.below hd (Nat.le_refl _)) HM.out
            have hsame : ∀ wx, Below w7.drew.heap.size w7.drew wx → Calls Try.prog 15 #[v7.val, (Sl.mk va vl vc).val] wx fun e w' => e = .returned (.bool true) ∧ Below wx.heap.size wx w' := by
              intro wx hbx
              have hs := rsame_any wx v7 ⟨va, vl, vc⟩ l7 l2 ((hg7.below hd (Nat.le_refl _)).below hbx (Nat.le_refl _)) ((HGR7.out.below hd (Nat.le_refl _)).below hbx (Nat.le_refl _))
              rw [e3, sameB_ok rfl] at hs
              exact hs
            have HRG := hide (fun Q A => @codes15 w7 (recd (ims l2)) ⟨ra, rl, rc⟩ ⟨va, vl, vc⟩ v7 ((HC7.out.below hd (Nat.le_refl _)).came.bs) (by have := HRL.out.1; omega) hrec hsame Q A)
            clear hb7 hg7 hi7 hdc e1 e2 e3 hd hrec hsame HGR6 HC6 HF
            obtain ⟨xa, xl, xc⟩ := v7
            unfold Sl.val
            simp only
            go_wp2_with fail
            refine Pl.region_is (ops := Pl.find 15 ((Try.f3.body).getD .skip)) (by kernel_rfl) ?_
            refine HRG.out _ _ (by rfl) rfl (by rfl) (by rfl) (by rfl) (by rfl) (by rfl) (by rfl) ?_
            intro uu w9 hb9
            simp only [Act.put, List.setIfInBounds_toArray, List.set_cons_zero, List.set_cons_succ]
            have HB9 := hide (rBelow HB7.out hb9)
            clear hb9 HRG
            go_wp2_with fail
            go_ret
            exact ⟨rfl, HB9.out⟩
          · have HE := hide (encode_no w2 ⟨va, vl, vc⟩ l2 HGR.out hm)
            have HM := hide hm
            clear HCH hm
            unfold Sl.val at HE
            simp only at HE
            go_wp2_with fail
            refine HE.out.mono ?_
            rintro e w3 ⟨rfl, hb3⟩
            have HB3 := hide (rBelow HB2.out hb3)
            have HGR3 := hide (HGR.out.below hb3 (Nat.le_refl _))
            have hck := check_any w3 ⟨va, vl, vc⟩ l2 HGR3.out
            rw [chk_no HM.out] at hck
            have HCK := hide hck
            clear hb3 hck HE
            unfold Sl.val at HCK
            simp only at HCK
            go_wp2_with fail
            refine HCK.out.mono ?_
            rintro e w4 ⟨rfl, hb4⟩
            have HB4 := hide (rBelow HB3.out hb4)
            have HGR4 := hide (HGR3.out.below hb4 (Nat.le_refl _))
            have hmy := rmay_any w4 ⟨va, vl, vc⟩ l2 HGR4.out
            rw [mayB_no HM.out] at hmy
            have HMY := hide hmy
            clear hb4 HGR3 HCK hmy
            unfold Sl.val at HMY
            simp only at HMY
            go_wp2_with fail
            refine HMY.out.mono ?_
            rintro e w5 ⟨rfl, hb5⟩
            have HB5 := hide (rBelow HB4.out hb5)
            have HGR5 := hide (HGR4.out.below hb5 (Nat.le_refl _))
            have hmy := rmay_any w5 ⟨va, vl, vc⟩ l2 HGR5.out
            rw [mayB_no HM.out] at hmy
            have HMY2 := hide hmy
            clear hb5 HGR4 HMY hmy
            unfold Sl.val at HMY2
            simp only at HMY2
            go_wp2_with fail
            refine HMY2.out.mono ?_
            rintro e w6 ⟨rfl, hb6⟩
            have HB6 := hide (rBelow HB5.out hb6)
            have HAW := hide (awake_any w6)
            clear hb6 HGR5 HMY2
            go_wp2_with fail
            refine HAW.out.mono ?_
            rintro e w7 ⟨rfl, hb7⟩
            have HB7 := hide (rBelow HB6.out hb7)
            clear hb7
            go_wp2_with fail
            go_ret
            exact ⟨rfl, HB7.out⟩
    · have i1 : ¬ (0 : Int) < ((ol : Nat) : Int) := by omega
      clear hod
      go_wp2_with fail
      go_loop [8] (fun i => ∃ k : Nat, k ≤ 9 ∧ i = .int .i64 k) (fun i => 20 - (intOf i).toNat)
      case atStart => exact ⟨0, by omega, rfl⟩
      case round =>
        obtain ⟨k, hk, rfl⟩ := hrel
        by_cases j1 : k < bl
        · have i1 : ((k : Nat) : Int) < ((bl : Nat) : Int) := by omega
          by_cases j2 : k < 9
          · have i2 : ((k : Nat) : Int) < 9 := by omega
            obtain ⟨b, o, ha, c0, hcm⟩ := (HBI.out.below HB2.out (Nat.le_refl _)).at_ k j1
            subst ha
            obtain ⟨⟨ya, yl, yc⟩, hy⟩ : ∃ y, y = (bb.getD k Bt.zero).s := ⟨_, rfl⟩
            rw [← hy] at c0 hcm
            have hyb : yl ≤ 9223372036854775807 := hcm.big
            replace c0 : w2.cell? ⟨b, o + k, none⟩ = some (.slice ya yl yc) := c0
            clear hy hcm
            by_cases j3 : 600 < yl
            · have i3 : (600 : Int) < ((yl : Nat) : Int) := by omega
              have HAW := hide (awake_any w2)
              go_wp2_with fail
              refine HAW.out.mono ?_
              rintro e w9 ⟨rfl, hb9⟩
              have HB9 := hide (rBelow HB2.out hb9)
              clear hb9
              go_wp2_with fail
              go_ret
              exact ⟨rfl, HB9.out⟩
            · have i3 : ¬ (600 : Int) < ((yl : Nat) : Int) := by omega
              go_wp2_with fail
              go_round
              case rel => exact ⟨k + 1, by omega, by go_num⟩
              case measure => simp only [intOf]; omega
          · have i2 : ¬ ((k : Nat) : Int) < 9 := by omega
            have HCH := check_any w2 ⟨va, vl, vc⟩ l2 HGR.out
            by_cases hm : May (ims l2)
            · have HE := hide (encode_ok w2 ⟨va, vl, vc⟩ l2 HGR.out hm)
              have HM := hide hm
              clear HCH hm
              unfold Sl.val at HE
              simp only at HE
              go_wp2_with fail
              refine HE.out.mono ?_
              rintro e w3 ⟨r3, rfl, ho3, hb3⟩
              have hrl : (recd (ims l2)).length ≤ 4000 := by rw [recd_length HM.out.len]; have := HM.out.2.1; omega
              obtain ⟨rs, hv3, hl3, hc3⟩ := ho3.cm (recd_bytes HGR.out.imB HM.out) (by omega)
              subst hv3
              have HB3 := hide (rBelow HB2.out hb3)
              have HGR3 := hide (HGR.out.below hb3 (Nat.le_refl _))
              have hck := check_any w3 ⟨va, vl, vc⟩ l2 HGR3.out
              rw [chk_ok HM.out] at hck
              have HCK := hide hck
              have HC3 := hide hc3
              have HRL := hide (And.intro hrl hl3)
              clear ho3 hb3 hrl hl3 hc3 hck HE
              obtain ⟨ra, rl, rc⟩ := rs
              unfold Sl.val at HCK ⊢
              simp only at HCK ⊢
              go_wp2_with fail
              refine HCK.out.mono ?_
              rintro e w4 ⟨rfl, hb4⟩
              have HB4 := hide (rBelow HB3.out hb4)
              have HGR4 := hide (HGR3.out.below hb4 (Nat.le_refl _))
              have HC4 := hide (HC3.out.below hb4 (Nat.le_refl _))
              have hmy := rmay_any w4 ⟨va, vl, vc⟩ l2 HGR4.out
              rw [mayB_ok HM.out] at hmy
              have HMY := hide hmy
              clear hb4 HGR3 HC3 HCK hmy
              unfold Sl.val at HMY
              simp only at HMY
              go_wp2_with fail
              refine HMY.out.mono ?_
              rintro e w5 ⟨rfl, hb5⟩
              have HB5 := hide (rBelow HB4.out hb5)
              have HGR5 := hide (HGR4.out.below hb5 (Nat.le_refl _))
              have HC5 := hide (HC4.out.below hb5 (Nat.le_refl _))
              have hmy := rmay_any w5 ⟨va, vl, vc⟩ l2 HGR5.out
              rw [mayB_ok HM.out] at hmy
              have HMY2 := hide hmy
              clear hb5 HGR4 HC4 HMY hmy
              unfold Sl.val at HMY2
              simp only at HMY2
              go_wp2_with fail
              refine HMY2.out.mono ?_
              rintro e w6 ⟨rfl, hb6⟩
              have HB6 := hide (rBelow HB5.out hb6)
              have HGR6 := hide (HGR5.out.below hb6 (Nat.le_refl _))
              have HC6 := hide (HC5.out.below hb6 (Nat.le_refl _))
              have HF := hide (first_any w6 ra rl rc _ HC6.out.came (by have h8 := HRL.out.1; have h9 : rl = (recd (ims l2)).length := HRL.out.2; omega))
              clear hb6 HGR5 HC5 HMY2
              go_wp2_with fail
              refine HF.out.mono ?_
              rintro e w7 ⟨v7, rfl, ⟨l7, hg7, hi7⟩, hb7⟩
              have HB7 := hide (rBelow HB6.out hb7)
              have HGR7 := hide (HGR6.out.below hb7 (Nat.le_refl _))
              have HC7 := hide (HC6.out.below hb7 (Nat.le_refl _))
              have hdc := dec_recd HM.out []
              rw [List.append_nil] at hdc
              have e1 : (dec (recd (ims l2))).n = rl := by rw [hdc]; exact HRL.out.2.symm
              have e2 : (dec (recd (ims l2))).e = 0 := by rw [hdc]
              have e3 : ims l7 = ims l2 := by rw [hi7, hdc]
              rw [e1, e2]
              have hd := below_drew w7
              have hrec := record_any w7.drew ⟨va, vl, vc⟩ l2 (HGR7.out.below hd (Nat.le_refl _)) HM.out
              have hsame : ∀ wx, Below w7.drew.heap.size w7.drew wx → Calls Try.prog 15 #[v7.val, (Sl.mk va vl vc).val] wx fun e w' => e = .returned (.bool true) ∧ Below wx.heap.size wx w' := by
                intro wx hbx
                have hs := rsame_any wx v7 ⟨va, vl, vc⟩ l7 l2 ((hg7.below hd (Nat.le_refl _)).below hbx (Nat.le_refl _)) ((HGR7.out.below hd (Nat.le_refl _)).below hbx (Nat.le_refl _))
                rw [e3, sameB_ok rfl] at hs
                exact hs
              have HRG := hide (fun Q A => @codes15 w7 (recd (ims l2)) ⟨ra, rl, rc⟩ ⟨va, vl, vc⟩ v7 ((HC7.out.below hd (Nat.le_refl _)).came.bs) (by have := HRL.out.1; omega) hrec hsame Q A)
              clear hb7 hg7 hi7 hdc e1 e2 e3 hd hrec hsame HGR6 HC6 HF
              obtain ⟨xa, xl, xc⟩ := v7
              unfold Sl.val
              simp only
              go_wp2_with fail
              refine Pl.region_is (ops := Pl.find 15 ((Try.f3.body).getD .skip)) (by kernel_rfl) ?_
              refine HRG.out _ _ (by rfl) rfl (by rfl) (by rfl) (by rfl) (by rfl) (by rfl) (by rfl) ?_
              intro uu w9 hb9
              simp only [Act.put, List.setIfInBounds_toArray, List.set_cons_zero, List.set_cons_succ]
              have HB9 := hide (rBelow HB7.out hb9)
              clear hb9 HRG
              go_wp2_with fail
              go_ret
              exact ⟨rfl, HB9.out⟩
            · have HE := hide (encode_no w2 ⟨va, vl, vc⟩ l2 HGR.out hm)
              have HM := hide hm
              clear HCH hm
              unfold Sl.val at HE
              simp only at HE
              go_wp2_with fail
              refine HE.out.mono ?_
              rintro e w3 ⟨rfl, hb3⟩
              have HB3 := hide (rBelow HB2.out hb3)
              have HGR3 := hide (HGR.out.below hb3 (Nat.le_refl _))
              have hck := check_any w3 ⟨va, vl, vc⟩ l2 HGR3.out
              rw [chk_no HM.out] at hck
              have HCK := hide hck
              clear hb3 hck HE
              unfold Sl.val at HCK
              simp only at HCK
              go_wp2_with fail
              refine HCK.out.mono ?_
              rintro e w4 ⟨rfl, hb4⟩
              have HB4 := hide (rBelow HB3.out hb4)
              have HGR4 := hide (HGR3.out.below hb4 (Nat.le_refl _))
              have hmy := rmay_any w4 ⟨va, vl, vc⟩ l2 HGR4.out
              rw [mayB_no HM.out] at hmy
              have HMY := hide hmy
              clear hb4 HGR3 HCK hmy
              unfold Sl.val at HMY
              simp only at HMY
              go_wp2_with fail
              refine HMY.out.mono ?_
              rintro e w5 ⟨rfl, hb5⟩
              have HB5 := hide (rBelow HB4.out hb5)
              have HGR5 := hide (HGR4.out.below hb5 (Nat.le_refl _))
              have hmy := rmay_any w5 ⟨va, vl, vc⟩ l2 HGR5.out
              rw [mayB_no HM.out] at hmy
              have HMY2 := hide hmy
              clear hb5 HGR4 HMY hmy
              unfold Sl.val at HMY2
              simp only at HMY2
              go_wp2_with fail
              refine HMY2.out.mono ?_
              rintro e w6 ⟨rfl, hb6⟩
              have HB6 := hide (rBelow HB5.out hb6)
              have HAW := hide (awake_any w6)
              clear hb6 HGR5 HMY2
              go_wp2_with fail
              refine HAW.out.mono ?_
              rintro e w7 ⟨rfl, hb7⟩
              have HB7 := hide (rBelow HB6.out hb7)
              clear hb7
              go_wp2_with fail
              go_ret
              exact ⟨rfl, HB7.out⟩
        · have i1 : ¬ ((k : Nat) : Int) < ((bl : Nat) : Int) := by omega
          have HCH := check_any w2 ⟨va, vl, vc⟩ l2 HGR.out
          by_cases hm : May (ims l2)
          · have HE := hide (encode_ok w2 ⟨va, vl, vc⟩ l2 HGR.out hm)
            have HM := hide hm
            clear HCH hm
            unfold Sl.val at HE
            simp only at HE
            go_wp2_with fail
            refine HE.out.mono ?_
            rintro e w3 ⟨r3, rfl, ho3, hb3⟩
            have hrl : (recd (ims l2)).length ≤ 4000 := by rw [recd_length HM.out.len]; have := HM.out.2.1; omega
            obtain ⟨rs, hv3, hl3, hc3⟩ := ho3.cm (recd_bytes HGR.out.imB HM.out) (by omega)
            subst hv3
            have HB3 := hide (rBelow HB2.out hb3)
            have HGR3 := hide (HGR.out.below hb3 (Nat.le_refl _))
            have hck := check_any w3 ⟨va, vl, vc⟩ l2 HGR3.out
            rw [chk_ok HM.out] at hck
            have HCK := hide hck
            have HC3 := hide hc3
            have HRL := hide (And.intro hrl hl3)
            clear ho3 hb3 hrl hl3 hc3 hck HE
            obtain ⟨ra, rl, rc⟩ := rs
            unfold Sl.val at HCK ⊢
            simp only at HCK ⊢
            go_wp2_with fail
            refine HCK.out.mono ?_
            rintro e w4 ⟨rfl, hb4⟩
            have HB4 := hide (rBelow HB3.out hb4)
            have HGR4 := hide (HGR3.out.below hb4 (Nat.le_refl _))
            have HC4 := hide (HC3.out.below hb4 (Nat.le_refl _))
            have hmy := rmay_any w4 ⟨va, vl, vc⟩ l2 HGR4.out
            rw [mayB_ok HM.out] at hmy
            have HMY := hide hmy
            clear hb4 HGR3 HC3 HCK hmy
            unfold Sl.val at HMY
            simp only at HMY
            go_wp2_with fail
            refine HMY.out.mono ?_
            rintro e w5 ⟨rfl, hb5⟩
            have HB5 := hide (rBelow HB4.out hb5)
            have HGR5 := hide (HGR4.out.below hb5 (Nat.le_refl _))
            have HC5 := hide (HC4.out.below hb5 (Nat.le_refl _))
            have hmy := rmay_any w5 ⟨va, vl, vc⟩ l2 HGR5.out
            rw [mayB_ok HM.out] at hmy
            have HMY2 := hide hmy
            clear hb5 HGR4 HC4 HMY hmy
            unfold Sl.val at HMY2
            simp only at HMY2
            go_wp2_with fail
            refine HMY2.out.mono ?_
            rintro e w6 ⟨rfl, hb6⟩
            have HB6 := hide (rBelow HB5.out hb6)
            have HGR6 := hide (HGR5.out.below hb6 (Nat.le_refl _))
            have HC6 := hide (HC5.out.below hb6 (Nat.le_refl _))
            have HF := hide (first_any w6 ra rl rc _ HC6.out.came (by have h8 := HRL.out.1; have h9 : rl = (recd (ims l2)).length := HRL.out.2; omega))
            clear hb6 HGR5 HC5 HMY2
            go_wp2_with fail
            refine HF.out.mono ?_
            rintro e w7 ⟨v7, rfl, ⟨l7, hg7, hi7⟩, hb7⟩
            have HB7 := hide (rBelow HB6.out hb7)
            have HGR7 := hide (HGR6.out.below hb7 (Nat.le_refl _))
            have HC7 := hide (HC6.out.below hb7 (Nat.le_refl _))
            have hdc := dec_recd HM.out []
            rw [List.append_nil] at hdc
            have e1 : (dec (recd (ims l2))).n = rl := by rw [hdc]; exact HRL.out.2.symm
            have e2 : (dec (recd (ims l2))).e = 0 := by rw [hdc]
            have e3 : ims l7 = ims l2 := by rw [hi7, hdc]
            rw [e1, e2]
            have hd := below_drew w7
            have hrec := record_any w7.drew ⟨va, vl, vc⟩ l2 (HGR7.out.below hd (Nat.le_refl _)) HM.out
            have hsame : ∀ wx, Below w7.drew.heap.size w7.drew wx → Calls Try.prog 15 #[v7.val, (Sl.mk va vl vc).val] wx fun e w' => e = .returned (.bool true) ∧ Below wx.heap.size wx w' := by
              intro wx hbx
              have hs := rsame_any wx v7 ⟨va, vl, vc⟩ l7 l2 ((hg7.below hd (Nat.le_refl _)).below hbx (Nat.le_refl _)) ((HGR7.out.below hd (Nat.le_refl _)).below hbx (Nat.le_refl _))
              rw [e3, sameB_ok rfl] at hs
              exact hs
            have HRG := hide (fun Q A => @codes15 w7 (recd (ims l2)) ⟨ra, rl, rc⟩ ⟨va, vl, vc⟩ v7 ((HC7.out.below hd (Nat.le_refl _)).came.bs) (by have := HRL.out.1; omega) hrec hsame Q A)
            clear hb7 hg7 hi7 hdc e1 e2 e3 hd hrec hsame HGR6 HC6 HF
            obtain ⟨xa, xl, xc⟩ := v7
            unfold Sl.val
            simp only
            go_wp2_with fail
            refine Pl.region_is (ops := Pl.find 15 ((Try.f3.body).getD .skip)) (by kernel_rfl) ?_
            refine HRG.out _ _ (by rfl) rfl (by rfl) (by rfl) (by rfl) (by rfl) (by rfl) (by rfl) ?_
            intro uu w9 hb9
            simp only [Act.put, List.setIfInBounds_toArray, List.set_cons_zero, List.set_cons_succ]
            have HB9 := hide (rBelow HB7.out hb9)
            clear hb9 HRG
            go_wp2_with fail
            go_ret
            exact ⟨rfl, HB9.out⟩
          · have HE := hide (encode_no w2 ⟨va, vl, vc⟩ l2 HGR.out hm)
            have HM := hide hm
            clear HCH hm
            unfold Sl.val at HE
            simp only at HE
            go_wp2_with fail
            refine HE.out.mono ?_
            rintro e w3 ⟨rfl, hb3⟩
            have HB3 := hide (rBelow HB2.out hb3)
            have HGR3 := hide (HGR.out.below hb3 (Nat.le_refl _))
            have hck := check_any w3 ⟨va, vl, vc⟩ l2 HGR3.out
            rw [chk_no HM.out] at hck
            have HCK := hide hck
            clear hb3 hck HE
            unfold Sl.val at HCK
            simp only at HCK
            go_wp2_with fail
            refine HCK.out.mono ?_
            rintro e w4 ⟨rfl, hb4⟩
            have HB4 := hide (rBelow HB3.out hb4)
            have HGR4 := hide (HGR3.out.below hb4 (Nat.le_refl _))
            have hmy := rmay_any w4 ⟨va, vl, vc⟩ l2 HGR4.out
            rw [mayB_no HM.out] at hmy
            have HMY := hide hmy
            clear hb4 HGR3 HCK hmy
            unfold Sl.val at HMY
            simp only at HMY
            go_wp2_with fail
            refine HMY.out.mono ?_
            rintro e w5 ⟨rfl, hb5⟩
            have HB5 := hide (rBelow HB4.out hb5)
            have HGR5 := hide (HGR4.out.below hb5 (Nat.le_refl _))
            have hmy := rmay_any w5 ⟨va, vl, vc⟩ l2 HGR5.out
            rw [mayB_no HM.out] at hmy
            have HMY2 := hide hmy
            clear hb5 HGR4 HMY hmy
            unfold Sl.val at HMY2
            simp only at HMY2
            go_wp2_with fail
            refine HMY2.out.mono ?_
            rintro e w6 ⟨rfl, hb6⟩
            have HB6 := hide (rBelow HB5.out hb6)
            have HAW := hide (awake_any w6)
            clear hb6 HGR5 HMY2
            go_wp2_with fail
            refine HAW.out.mono ?_
            rintro e w7 ⟨rfl, hb7⟩
            have HB7 := hide (rBelow HB6.out hb7)
            clear hb7
            go_wp2_with fail
            go_ret
            exact ⟨rfl, HB7.out⟩
end Go.Proofs.Ytjgeiooblcpiaaa
