/-
  Layer 6: what First tells, the program's and the document's.
-/
import Derived.Test.YtjgeiooblcpiaaaRdG
namespace Go.Proofs.Ytjgeiooblcpiaaa
open Go.RowKit

theorem dec_short {b : List Nat} (h : b.length < 2) : dec b = Told.no 4 := by
  unfold dec
  rw [if_pos h]
theorem dec_few {b : List Nat} (h2 : 2 ≤ b.length) (h : b.length < 2 + said b ∨ said b < 4) : dec b = Told.no 4 := by
  unfold dec
  rw [if_neg (by omega), if_pos h]
theorem dec_bad {b : List Nat} (h2 : 2 ≤ b.length) (h : 2 + said b ≤ b.length) (h4 : 4 ≤ said b) (hs : ¬ Sealed ((b.drop 2).take (said b))) : dec b = Told.no 5 := by
  unfold dec
  rw [if_neg (by omega), if_neg (by omega), if_neg hs]
theorem dec_good {b : List Nat} (h2 : 2 ≤ b.length) (h : 2 + said b ≤ b.length) (h4 : 4 ≤ said b) (hs : Sealed ((b.drop 2).take (said b))) : dec b = grp (((b.drop 2).take (said b)).drop 4) (2 + said b) := by
  unfold dec
  rw [if_neg (by omega), if_neg (by omega), if_pos hs]
/-- What groupOf tells, or nothing. -/
theorem grp_cases (x : List Nat) (n : Nat) : ((grp x 0).e = 0 ∧ grp x n = ⟨(grp x 0).g, n, 0⟩) ∨ (grp x 0 = Told.no 4 ∧ grp x n = Told.no 4) := by
  unfold grp
  split
  · exact .inl ⟨rfl, rfl⟩
  · exact .inr ⟨rfl, rfl⟩

/-- What First leaves. -/
def FirstPost (w : World) (b : List Nat) (e : Ending) (w' : World) : Prop := ∃ v : Sl, e = .returned (.tuple #[v.val, .int .i64 ((dec b).n : Nat), .int .i64 ((dec b).e : Nat)]) ∧ NewG w w' v (dec b).g ∧ Below w.heap.size w w'
theorem FirstPost.no {w w' : World} {b : List Nat} {q : Nat} (h : dec b = Told.no q) (hb : Below w.heap.size w w') : FirstPost w b (.returned (.tuple #[.slice none 0 0, .int .i64 0, .int .i64 ((q : Nat) : Int)])) w' := by
  refine ⟨Sl.nil, ?_, ?_, hb⟩
  · rw [h]; rfl
  · rw [h]; exact NewG.none _ _

set_option maxHeartbeats 4000000 in
set_option maxRecDepth 100000 in
theorem first_any (w : World) (a : Option Addr) (len cap : Nat) (xs : List Nat) (h : Came w a len cap xs) (hm : len ≤ 100000) :
    Calls Try.prog 13 #[.slice a len cap] w fun e w' => FirstPost w xs e w' := by
  have hxl := h.bs.1
  have HR := hide (Below.refl w.heap.size w)
  by_cases h1 : len < 2
  · have HE : Hid (dec xs = Told.no 4) := dec_short (by omega)
    have i1 : ((len : Nat) : Int) < 2 := by omega
    clear h hxl
    go_enter Try.func13, Try.ntmps13
    go_wp2_with fail
    go_ret3
    exact FirstPost.no HE.out HR.out
  have i1 : ¬ ((len : Nat) : Int) < 2 := by omega
  obtain ⟨b, o, ha, hc0⟩ := h.bs.2.2 0 (by omega)
  subst ha
  have hbw : b < w.heap.size := World.block_lt_of_cell? w _ hc0
  have hd := below_drew w
  have hB := h.bs.keep hd (Nat.le_refl _)
  have hcap := h.le
  have HRG := hide (fun Q A => @fst3 w b o len cap xs hB (by omega) Q A)
  obtain ⟨n, hn⟩ : ∃ n, n = said xs := ⟨_, rfl⟩
  have HSD : Hid (2 + xs.getD 0 0 * 256 + xs.getD 1 0 = 2 + n) := by
    show _ = _
    rw [hn]
    unfold said
    omega
  have hn2 : n < 65536 := by
    rw [hn]
    unfold said
    have := getD_lt h.bs.2.1 0
    have := getD_lt h.bs.2.1 1
    omega
  have HN := hide hn
  have HXL := hide hxl
  have HX := hide h.bs.2.1
  have HC := hide h
  have HBD := hide hB
  have HD := hide hd
  clear h hxl hc0 hd hB hn
  go_enter Try.func13, Try.ntmps13
  go_wp2_with fail
  refine Pl.region_is (ops := Pl.find 3 ((Try.f13.body).getD .skip)) (by kernel_rfl) ?_
  refine HRG.out _ _ (by rfl) rfl (by rfl) ?_
  intro uu w1 hw1
  rw [HSD.out]
  simp only [Act.put, List.setIfInBounds_toArray, List.set_cons_zero, List.set_cons_succ]
  have HB1 : Hid (Below w.heap.size w w1) := by rw [hw1]; exact HD.out
  have HCM : Hid (Came w1 (some ⟨b, o, none⟩) len cap xs) := by
    rw [hw1]
    exact ⟨HBD.out, HC.out.nil, HC.out.le, HC.out.big⟩
  clear hw1 HRG HBD HD
  by_cases h2 : len < 2 + n
  · have HE : Hid (dec xs = Told.no 4) := dec_few (by rw [HXL.out]; omega) (.inl (by rw [HXL.out, ← HN.out]; exact h2))
    have i2 : ((len : Nat) : Int) < ((2 + n : Nat) : Int) := by omega
    go_wp2_with fail
    go_ret3
    exact FirstPost.no HE.out HB1.out
  have i2 : ¬ ((len : Nat) : Int) < ((2 + n : Nat) : Int) := by omega
  have hrun : ∀ w : World, (Instr.sliceAt 24 (.slice (some ⟨b, o, none⟩) len cap) (some (.int .i64 2)) (some (.int .i64 ((2 + n : Nat) : Int))) none).run Try.prog w = .ok (.slice (fromA (some ⟨b, o, none⟩) cap 2) n (cap - 2)) w := by
    intro w
    have := slice_mid (some ⟨b, o, none⟩) len cap 2 (2 + n) (by omega) (by omega) w
    rw [Nat.add_sub_cancel_left] at this
    exact this
  have HRUN := hide hrun
  clear hrun
  by_cases h4 : n < 4
  · have HE : Hid (dec xs = Told.no 4) := dec_few (by rw [HXL.out]; omega) (.inr (by rw [← HN.out]; exact h4))
    have HO := hide (open_short (fromA (some ⟨b, o, none⟩) cap 2) n (cap - 2) w1 h4)
    go_wp2_with (refine wpList_slice _ rfl 24 (.tmp 28) (some (.const (.int .i64 2))) (some (.tmp 29)) rfl (.slice (fromA (some ⟨b, o, none⟩) cap 2) n (cap - 2)) (HRUN.out _) ?_)
    refine HO.out.mono ?_
    rintro e w2 ⟨rfl, hw2⟩
    obtain rfl := hw2.symm
    go_wp2_with fail
    go_ret3
    exact FirstPost.no HE.out HB1.out
  have hfa : fromA (some ⟨b, o, none⟩) cap 2 = some ⟨b, o + 2, none⟩ := by
    unfold fromA
    rw [if_neg (by omega), Nat.mul_one, Option.map_some, Addr.add_lit]
  have hmid := Came.mid (s := ⟨some ⟨b, o, none⟩, len, cap⟩) HCM.out 2 (2 + n) (by omega) (by show 2 + n ≤ len; omega)
  have hbs : Bs w1 (some ⟨b, o + 2, none⟩) n ((xs.drop 2).take n) := by
    have h5 := hmid.bs
    have e1 : (Sl.mid ⟨some ⟨b, o, none⟩, len, cap⟩ 2 (2 + n)).a = some ⟨b, o + 2, none⟩ := hfa
    have e2 : (Sl.mid ⟨some ⟨b, o, none⟩, len, cap⟩ 2 (2 + n)).len = n := Nat.add_sub_cancel_left 2 n
    rw [e1, e2, Nat.add_sub_cancel_left] at h5
    exact h5
  rw [hfa] at HRUN
  by_cases hs : Sealed ((xs.drop 2).take n)
  · have HO := hide (open_yes b (o + 2) n (cap - 2) ((xs.drop 2).take n) w1 hbs (by omega) (by omega) (by omega) hs)
    have HDC : Hid (dec xs = grp (((xs.drop 2).take n).drop 4) (2 + n)) := by
      have := dec_good (b := xs) (by rw [HXL.out]; omega) (by rw [HXL.out, ← HN.out]; omega) (by rw [← HN.out]; omega) (by rw [← HN.out]; exact hs)
      rw [← HN.out] at this
      exact this
    have HTB : Hid (Bytes (((xs.drop 2).take n).drop 4)) := fun z hz => HX.out z (List.mem_of_mem_drop (List.mem_of_mem_take (List.mem_of_mem_drop hz)))
    have HTL : Hid ((((xs.drop 2).take n).drop 4).length ≤ 100000) := by show _ ≤ _; simp only [List.length_drop, List.length_take]; omega
    clear hfa hmid hbs hs
    generalize ((xs.drop 2).take n).drop 4 = tx at HO HDC HTB HTL
    go_wp2_with (refine wpList_slice _ rfl 24 (.tmp 28) (some (.const (.int .i64 2))) (some (.tmp 29)) rfl (.slice (some ⟨b, o + 2, none⟩) n (cap - 2)) (HRUN.out _) ?_)
    refine HO.out.mono ?_
    rintro e w2 ⟨tv, rfl, ho2, hb2⟩
    obtain ⟨s2, hv2, hl2, hc2⟩ := ho2.cm HTB.out (by have := HTL.out; omega)
    subst hv2
    have HG := hide (groupOf_any w2 s2.a s2.len s2.cap tx hc2.came (by have := HTL.out; omega))
    have HB2 := hide (rBelow HB1.out (hb2.mono (Nat.le_refl _)))
    have hS2 : w.heap.size ≤ w2.heap.size := HB2.out.size
    clear ho2 hb2 hl2 hc2 HO HRUN
    unfold Sl.val
    go_wp2_with fail
    refine HG.out.mono ?_
    rintro e w3 ⟨v3, rfl, hn3, hb3⟩
    have HB3 := hide (rBelow HB2.out hb3)
    have HN3 : Hid (NewG w w3 v3 (grp tx 0).g) := by
      obtain ⟨l3, h31, h32⟩ := hn3
      exact ⟨l3, h31.mono (fun k hk _ => Nat.le_trans hS2 hk), h32⟩
    clear hn3 hb3 HG
    rcases grp_cases tx (2 + n) with ⟨e0, e1⟩ | ⟨e0, e1⟩
    · have HE : Hid (dec xs = ⟨(grp tx 0).g, 2 + n, 0⟩) := HDC.out.trans e1
      rw [e0]
      clear e0 e1 HDC
      obtain ⟨va, vl, vc⟩ := v3
      unfold Sl.val
      simp only
      go_wp2_with fail
      go_ret3
      refine ⟨⟨va, vl, vc⟩, ?_, ?_, HB3.out⟩
      · rw [HE.out]; rfl
      · rw [HE.out]; exact HN3.out
    · have HE : Hid (dec xs = Told.no 4) := HDC.out.trans e1
      rw [e0]
      clear e0 e1 HDC HN3
      obtain ⟨va, vl, vc⟩ := v3
      unfold Sl.val Told.no
      simp only
      go_wp2_with fail
      go_ret3
      exact FirstPost.no HE.out HB3.out
  · have HO := hide (open_no b (o + 2) n (cap - 2) ((xs.drop 2).take n) w1 hbs (by omega) (by omega) (by omega) hs)
    have HE : Hid (dec xs = Told.no 5) := dec_bad (b := xs) (by rw [HXL.out]; omega) (by rw [HXL.out, ← HN.out]; omega) (by rw [← HN.out]; omega) (by rw [← HN.out]; exact hs)
    clear hfa hmid hbs hs
    go_wp2_with (refine wpList_slice _ rfl 24 (.tmp 28) (some (.const (.int .i64 2))) (some (.tmp 29)) rfl (.slice (some ⟨b, o + 2, none⟩) n (cap - 2)) (HRUN.out _) ?_)
    refine HO.out.mono ?_
    rintro e w2 ⟨rfl, hb2⟩
    have HB2 := hide (rBelow HB1.out hb2)
    clear hb2
    go_wp2_with fail
    go_ret3
    exact FirstPost.no HE.out HB2.out
end Go.Proofs.Ytjgeiooblcpiaaa
