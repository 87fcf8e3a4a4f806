/-
  Layer 6: what the document's First tells.
-/
import Derived.Test.YtjgeiooblcpiaaaRdH
namespace Go.Proofs.Ytjgeiooblcpiaaa
open Go.RowKit

theorem sealed_four {zs : List Nat} : Sealed zs ↔ fourB (Ta.sum (zs.drop 4)) = zs.take 4 := by
  unfold Sealed
  constructor
  · intro h
    have := congrArg (List.take 4) h
    exact this
  · intro h
    rw [h, List.take_append_drop]

theorem mid_drop (xs : List Nat) (n : Nat) : ((xs.drop 2).take n).drop 4 = (xs.drop 6).take (n - 4) := by
  rw [List.drop_take, List.drop_drop]
theorem mid_take (xs : List Nat) (n : Nat) (h : 4 ≤ n) : ((xs.drop 2).take n).take 4 = (xs.drop 2).take 4 := by
  rw [List.take_take, Nat.min_eq_left h]

/-- The whole record is there just if what is sealed is the group's. -/
theorem recd_iff {xs : List Nat} {n : Nat} {g : List Im} (hx : Bytes xs) (hn : n = said xs) (hl : 2 + n ≤ xs.length) (hs : Sealed ((xs.drop 2).take n)) : recd g = xs.take (2 + n) ↔ text g = ((xs.drop 2).take n).drop 4 := by
  rcases xs with _ | ⟨a, _ | ⟨b, r⟩⟩
  · rw [List.length_nil] at hl; omega
  · rw [List.length_cons, List.length_nil] at hl; omega
  have ht : (a :: b :: r).take (2 + n) = a :: b :: r.take n := by rw [Nat.add_comm]; rfl
  have hd : ((a :: b :: r).drop 2).take n = r.take n := rfl
  rw [ht, hd]
  rw [hd] at hs
  have hb : b < 256 := hx b (by simp)
  have hsd : n = a * 256 + b := hn
  have hrl : (r.take n).length = n := by rw [List.length_take]; simp at hl; omega
  unfold recd
  constructor
  · intro h
    simp only [List.cons.injEq] at h
    have := congrArg (List.drop 4) h.2.2
    exact this
  · intro h
    have e : seald (text g) = r.take n := by
      unfold seald
      rw [h]
      exact hs
    rw [e, hrl]
    simp only [List.cons.injEq, and_true]
    omega

/-- What the document's First leaves: images whose bytes are the bytes handed in. -/
def FirstPostR (w : World) (bk : Nat → Prop) (b : List Nat) (e : Ending) (w' : World) : Prop := ∃ (v : Sl) (l : List Ix), e = .returned (.tuple #[v.val, .int .i64 ((dec b).n : Nat), .int .i64 ((dec b).e : Nat)]) ∧ Gr (fun k => bk k ∨ w.heap.size ≤ k) w' v l ∧ ims l = (dec b).g ∧ Below w.heap.size w w'
theorem FirstPostR.no {w w' : World} {bk : Nat → Prop} {b : List Nat} {q : Nat} (h : dec b = Told.no q) (hb : Below w.heap.size w w') : FirstPostR w bk b (.returned (.tuple #[.slice none 0 0, .int .i64 0, .int .i64 ((q : Nat) : Int)])) w' := by
  refine ⟨Sl.nil, [], ?_, Gr.none, ?_, hb⟩
  · rw [h]; rfl
  · rw [h]; rfl

set_option maxHeartbeats 8000000 in
set_option maxRecDepth 100000 in
theorem rfirst_any (w : World) (a : Option Addr) (len cap : Nat) (xs : List Nat) (h : Came w a len cap xs) (hm : len ≤ 100000) (bk : Nat → Prop) (hbk : ∀ ad, a = some ad → 0 < len → bk ad.block) :
    Calls Try.prog 16 #[.slice a len cap] w fun e w' => FirstPostR w bk xs e w' := by
  have hxl := h.bs.1
  have HR := hide (Below.refl w.heap.size w)
  by_cases h1 : len < 2
  · have HE : Hid (dec xs = Told.no 4) := dec_short (by omega)
    have i1 : ((len : Nat) : Int) < 2 := by omega
    clear h hxl hbk
    go_enter Try.func16, Try.ntmps16
    go_wp2_with fail
    go_ret3
    exact FirstPostR.no HE.out HR.out
  have i1 : ¬ ((len : Nat) : Int) < 2 := by omega
  obtain ⟨b, o, ha, hc0⟩ := h.bs.2.2 0 (by omega)
  subst ha
  have hbw : b < w.heap.size := World.block_lt_of_cell? w _ hc0
  have HBK : Hid (bk b) := hbk _ rfl (by omega)
  have hd := below_drew w
  have hB := h.bs.keep hd (Nat.le_refl _)
  have hcap := h.le
  have HRG := hide (fun Q A => @rfst3 w b o len cap xs hB (by omega) Q A)
  obtain ⟨n, hn⟩ : ∃ n, n = said xs := ⟨_, rfl⟩
  have HSD : Hid (xs.getD 0 0 * 256 + xs.getD 1 0 = n) := by
    show _ = _
    rw [hn]
    rfl
  have hn2 : n < 65536 := by
    rw [hn]
    unfold said
    have := getD_lt h.bs.2.1 0
    have := getD_lt h.bs.2.1 1
    omega
  have HN := hide hn
  have HXL := hide hxl
  have HX := hide h.bs.2.1
  have HC := hide h
  have HBD := hide hB
  have HD := hide hd
  clear h hxl hc0 hd hB hn hbk
  go_enter Try.func16, Try.ntmps16
  go_wp2_with fail
  refine Pl.region_is (ops := Pl.find 3 ((Try.f16.body).getD .skip)) (by kernel_rfl) ?_
  refine HRG.out _ _ (by rfl) rfl (by rfl) ?_
  intro uu w1 hw1
  rw [HSD.out]
  simp only [Act.put, List.setIfInBounds_toArray, List.set_cons_zero, List.set_cons_succ]
  have HB1 : Hid (Below w.heap.size w w1) := by rw [hw1]; exact HD.out
  have HCM : Hid (Came w1 (some ⟨b, o, none⟩) len cap xs) := by
    rw [hw1]
    exact ⟨HBD.out, HC.out.nil, HC.out.le, HC.out.big⟩
  clear hw1 HRG HBD HD
  by_cases h2 : len < 2 + n
  · have HE : Hid (dec xs = Told.no 4) := dec_few (by rw [HXL.out]; omega) (.inl (by rw [HXL.out, ← HN.out]; exact h2))
    have i2 : ((len : Nat) : Int) < 2 + ((n : Nat) : Int) := by omega
    go_wp2_with fail
    go_ret3
    exact FirstPostR.no HE.out HB1.out
  have i2 : ¬ ((len : Nat) : Int) < 2 + ((n : Nat) : Int) := by omega
  by_cases h4 : n < 4
  · have HE : Hid (dec xs = Told.no 4) := dec_few (by rw [HXL.out]; omega) (.inr (by rw [← HN.out]; exact h4))
    have i3 : ((n : Nat) : Int) < 4 := by omega
    go_wp2_with fail
    go_ret3
    exact FirstPostR.no HE.out HB1.out
  have i3 : ¬ ((n : Nat) : Int) < 4 := by omega
  obtain ⟨o6, hfa⟩ : ∃ o6, fromA (some ⟨b, o, none⟩) cap 6 = some ⟨b, o6, none⟩ := by
    unfold fromA
    split
    · exact ⟨o, rfl⟩
    · exact ⟨o + 6, by rw [Nat.mul_one, Option.map_some, Addr.add_lit]⟩
  have hmid := Came.mid (s := ⟨some ⟨b, o, none⟩, len, cap⟩) HCM.out 6 (2 + n) (by omega) (by show 2 + n ≤ len; omega)
  have e1 : (Sl.mid ⟨some ⟨b, o, none⟩, len, cap⟩ 6 (2 + n)).a = some ⟨b, o6, none⟩ := hfa
  obtain ⟨n6, hn6⟩ : ∃ n6, n6 = n - 4 := ⟨_, rfl⟩
  have e2 : (Sl.mid ⟨some ⟨b, o, none⟩, len, cap⟩ 6 (2 + n)).len = n6 := by show 2 + n - 6 = n6; omega
  have e3 : (Sl.mid ⟨some ⟨b, o, none⟩, len, cap⟩ 6 (2 + n)).cap = cap - 6 := rfl
  obtain ⟨ys, hys⟩ : ∃ ys, ys = (xs.drop 6).take n6 := ⟨_, rfl⟩
  rw [e1, e2, e3, show 2 + n - 6 = n6 by omega, ← hys] at hmid
  have hrun : ∀ w : World, (Instr.sliceAt 24 (.slice (some ⟨b, o, none⟩) len cap) (some (.int .i64 6)) (some (.int .i64 (2 + ((n : Nat) : Int)))) none).run Try.prog w = .ok (.slice (some ⟨b, o6, none⟩) n6 (cap - 6)) w := by
    intro w
    have := slice_mid (some ⟨b, o, none⟩) len cap 6 (2 + n) (by omega) (by omega) w
    rw [hfa, show 2 + n - 6 = n6 by omega] at this
    exact this
  have HRUN := hide hrun
  have HCY := hide hmid
  have hzs : ((xs.drop 2).take n).drop 4 = ys := by rw [mid_drop, hys, hn6]
  have hsf : Sealed ((xs.drop 2).take n) ↔ fourB (Ta.sum ys) = (xs.drop 2).take 4 := by
    rw [sealed_four, hzs, mid_take xs n (by omega)]
  have hyb : Bytes ys := by rw [hys]; exact fun z hz => HX.out z (List.mem_of_mem_drop (List.mem_of_mem_take hz))
  have hyl : ys.length = n6 := hmid.bs.1
  have HYL := hide hyl
  have HYB := hide hyb
  have hS1 := below_drew w1
  have hBD := HCM.out.bs.keep hS1 (Nat.le_refl _)
  have hsum := rsum_any (some ⟨b, o6, none⟩) n6 (cap - 6) ys w1.drew (hmid.bs.keep hS1 (Nat.le_refl _)) (by omega)
  by_cases hs : Sealed ((xs.drop 2).take n)
  · have HRG7 := hide (fun Q A => @rfst7B w1 b o len cap xs ys ⟨some ⟨b, o6, none⟩, n6, cap - 6⟩ hBD (by omega) hcap hyb hsum (hsf.1 hs) Q A)
    have HDC : Hid (dec xs = grp ys (2 + n)) := by
      have := dec_good (b := xs) (by rw [HXL.out]; omega) (by rw [HXL.out, ← HN.out]; omega) (by rw [← HN.out]; omega) (by rw [← HN.out]; exact hs)
      rw [← HN.out, hzs] at this
      exact this
    have HIFF : Hid (∀ g, recd g = xs.take (2 + n) ↔ text g = ys) := by
      intro g
      rw [recd_iff HX.out HN.out (by rw [HXL.out]; omega) hs, hzs]
    have hn6b : n6 ≤ 100000 := by omega
    clear hmid hn6 hys hrun hzs hsf hyb hyl hsum hBD hS1 hs e1 e2 e3 hfa
    go_wp2_with (refine wpList_slice _ rfl 24 (.tmp 31) (some (.const (.int .i64 6))) (some (.tmp 33)) rfl (.slice (some ⟨b, o6, none⟩) n6 (cap - 6)) (HRUN.out _) ?_)
    refine Pl.region_is (ops := Pl.find 7 ((Try.f16.body).getD .skip)) (by kernel_rfl) ?_
    refine HRG7.out _ _ (by rfl) rfl (by rfl) (by rfl) ?_
    intro u2 w2 hb2
    simp only [Act.put, List.setIfInBounds_toArray, List.set_cons_zero, List.set_cons_succ]
    have HB2 := hide (rBelow HB1.out hb2)
    clear hb2 HRG7
    have HG0 := hide (GI.new (fun k => bk k ∧ k = b) w.heap.size w2 HB2.out.size)
    have HB3 := hide (rBelow HB2.out (below_alloc w2 (.cells #[] 28)))
    obtain ⟨kk, hkk⟩ : ∃ kk, kk = (n6 - 1) / 513 := ⟨_, rfl⟩
    have HKK := hide hkk
    clear hkk
    go_wp2_with fail
    go_loopw [7, 8] (fun gv i wr => ∃ (j : Nat) (p : Nat) (v : Sl) (l : List Ix), j ≤ kk ∧ Hid (p = 1 + 513 * j) ∧ p ≤ 100001 ∧ i = .int .i64 (p : Nat) ∧ gv = v.val ∧ v.len = j ∧ Hid (GI (fun k => bk k ∧ k = b) w.heap.size wr v l) ∧ Hid (ims l = imgs ys j) ∧ Hid (Below w.heap.size w wr)) (fun _ i _ => 200000 - (intOf i).toNat)
    case atStart => exact ⟨0, 1, ⟨some ⟨w2.heap.size, 0, none⟩, 0, 0⟩, [], by omega, hide rfl, by omega, rfl, rfl, rfl, HG0, hide rfl, HB3⟩
    case round =>
      obtain ⟨j, p, v, l, hj, hp, hp1, rfl, rfl, hvl, hg, hi, hW⟩ := hrel
      have hpp := hp.out
      have hkk := HKK.out
      rcases Nat.lt_or_ge j kk with hlt | hge
      · have hpl : p + 513 ≤ n6 := by omega
        have i4 : ((p : Nat) : Int) + 513 ≤ ((n6 : Nat) : Int) := by omega
        have hdw := below_drew wr
        have hcw : Came wr.drew (some ⟨b, o6, none⟩) n6 (cap - 6) ys := by
          have h9 := HCY.out
          have h8 : Bs w1 (some ⟨b, o6, none⟩) n6 ys := h9.bs
          refine ⟨?_, h9.nil, h9.le, h9.big⟩
          refine ⟨h8.1, h8.2.1, fun i hi => ⟨b, o6, rfl, ?_⟩⟩
          have hc1 := h8.at i hi
          have hk1 : w1.heap[b]? = w.heap[b]? := HB1.out.block b hbw
          have hk2 : wr.drew.heap[b]? = w.heap[b]? := (rBelow hW.out hdw).block b hbw
          simp only [World.cell?] at hc1 ⊢
          rw [hk2, ← hk1]
          exact hc1
        have hcm : Cm (fun k => (bk k ∧ k = b) ∧ v.blk ≠ some k) wr.drew ⟨some ⟨b, o6, none⟩, n6, cap - 6⟩ ys := by
          refine ⟨hcw, fun ad ha _ => ?_⟩
          cases ha
          exact ⟨⟨HBK.out, rfl⟩, fun e => by have := hg.out.blk b e; omega⟩
        have hmid := hcm.mid (p + 1) (p + 513) (by omega) (by show p + 513 ≤ n6; omega)
        rw [show p + 513 - (p + 1) = 512 by omega] at hmid
        have HRG := hide (fun Q A => @rfst13 wr (fun k => bk k ∧ k = b) w.heap.size b o6 n6 (cap - 6) p ys v l (hg.out.keep hdw) (Nat.le_trans hW.out.size hdw.size) hcw.bs hbw HYB.out (by omega) (HCY.out.le) (by omega) (by omega) hmid Q A)
        have HNX : Hid (∀ s : Sl, ims (l ++ [(⟨((ys.getD p 0 : Nat) : Int), s, (ys.drop (p + 1)).take 512⟩ : Ix)]) = imgs ys (j + 1)) := by
          intro s
          rw [ims_append, hi.out, imgs_succ, hpp]
          show _ ++ [(⟨_, _⟩ : Im)] = _
          unfold imgAt
          rw [show 1 + 513 * j + 1 = 2 + 513 * j by omega]
        clear hpp hcm hmid hdw hcw hkk
        go_wp2_with fail
        refine Pl.region_is (ops := Pl.find 13 ((Try.f16.body).getD .skip)) (by kernel_rfl) ?_
        refine HRG.out _ _ (by rfl) rfl (by rfl) (by rfl) (by rfl) ?_
        intro uu w9 v9 s9 hg9 hl9 hb9
        have HG9 := hide hg9
        have HB9 := hide ((rBelow hW.out (below_drew wr)).trans hb9)
        have hl9' : v9.len = j + 1 := by omega
        have HN9 := hide (HNX.out s9)
        simp only [Act.put, List.setIfInBounds_toArray, List.set_cons_zero, List.set_cons_succ]
        clear HRG HNX hg9 hb9 hl9
        go_wp2_with fail
        go_roundw
        case rel => exact ⟨j + 1, p + 513, v9, _, by omega, hide (by have := hp.out; omega), by omega, by go_num, rfl, hl9', HG9, HN9, HB9⟩
        case measure => simp only [intOf]; omega
      · obtain rfl : j = kk := by omega
        have i4 : ¬ ((p : Nat) : Int) + 513 ≤ ((n6 : Nat) : Int) := by omega
        have hgr := hg.out.gr (by omega)
        have hdw := below_drew wr
        have hmay := rmay_any wr.drew v l (hgr.below hdw (Nat.le_refl _))
        rw [hi.out] at hmay
        have hBw : Bs wr.drew (some ⟨b, o, none⟩) len xs := by
          have h8 : Bs w1 (some ⟨b, o, none⟩) len xs := HCM.out.bs
          refine ⟨h8.1, h8.2.1, fun i hi => ⟨b, o, rfl, ?_⟩⟩
          have hc1 := h8.at i hi
          have hk1 : w1.heap[b]? = w.heap[b]? := HB1.out.block b hbw
          have hk2 : wr.drew.heap[b]? = w.heap[b]? := (rBelow hW.out hdw).block b hbw
          simp only [World.cell?] at hc1 ⊢
          rw [hk2, ← hk1]
          exact hc1
        have HGR : Hid (Gr (fun k => bk k ∨ w.heap.size ≤ k) wr v l) := hgr.mono (fun k hk _ => hk.elim (fun x => .inl x.1) .inr)
        have HYG := hide (grp_ref ys (2 + n))
        rw [HYL.out, ← hkk] at HYG
        by_cases hy : May (imgs ys j)
        · rw [mayB_ok hy] at hmay
          have hrb : Bytes (recd (imgs ys j)) := recd_bytes (imgs_bytes HYB.out j) hy
          have hrl : (recd (imgs ys j)).length ≤ 100000 := by rw [recd_length hy.len]; have := hy.2.1; omega
          have hrec : ∀ w2, Below wr.drew.heap.size wr.drew w2 → Calls Try.prog 14 #[v.val] w2 fun e w' => ∃ r, e = .returned r ∧ Owns w' w2.heap.size r (recd (imgs ys j)) ∧ Below w2.heap.size w2 w' := by
            intro w2 hb
            have := record_any w2 v l ((hgr.below hdw (Nat.le_refl _)).below hb (Nat.le_refl _)) (by rw [hi.out]; exact hy)
            rw [hi.out] at this
            exact this
          rw [← hi.out] at hrb hrl hrec
          by_cases ht : text (imgs ys j) = ys
          · have HRG := hide (fun Q A => @rfst14C wr b o len cap n xs v l hBw hmay hrb hrl hrec (by omega) hcap (by omega) (by rw [hi.out]; exact (HIFF.out _).2 ht) Q A)
            have HE : Hid (dec xs = ⟨imgs ys j, 2 + n, 0⟩) := HDC.out.trans (HYG.out.1 ⟨hy, ht⟩)
            clear hpp hgr hdw hmay hBw hrb hrl hrec hy ht hkk HDC HIFF HYG
            go_wp2_with fail
            refine Pl.region_is (ops := Pl.find 14 ((Try.f16.body).getD .skip)) (by kernel_rfl) ?_
            refine HRG.out _ _ (by rfl) rfl (by rfl) (by rfl) (by rfl) ?_
            intro uu w9 hb9
            simp only [Act.put, List.setIfInBounds_toArray, List.set_cons_zero, List.set_cons_succ]
            have HB9 := hide (rBelow hW.out hb9)
            have HGR9 := hide (HGR.out.below hb9 (Nat.le_refl _))
            have HI := hide hi.out
            clear hb9 HRG
            obtain ⟨va, vl, vc⟩ := v
            replace hvl : vl = j := hvl
            have HVL := hide hvl
            clear hvl
            unfold Sl.val
            simp only
            go_wp2_with fail
            go_ret3
            refine ⟨⟨va, vl, vc⟩, l, ?_, HGR9.out, ?_, HB9.out⟩
            · rw [HE.out]; rfl
            · rw [HE.out]; exact HI.out
          · have HRG := hide (fun Q A => @rfst14B wr b o len cap n xs v l hBw hmay hrb hrl hrec (by omega) hcap (by omega) (by rw [hi.out]; exact fun e => ht ((HIFF.out _).1 e)) Q A)
            have HE : Hid (dec xs = Told.no 4) := HDC.out.trans (HYG.out.2 (fun hh => ht hh.2))
            clear hpp hgr hdw hmay hBw hrb hrl hrec hy ht hkk HDC HIFF HYG
            go_wp2_with fail
            refine Pl.region_is (ops := Pl.find 14 ((Try.f16.body).getD .skip)) (by kernel_rfl) ?_
            refine HRG.out _ _ (by rfl) rfl (by rfl) (by rfl) (by rfl) ?_
            intro uu w9 hb9
            simp only [Act.put, List.setIfInBounds_toArray, List.set_cons_zero, List.set_cons_succ]
            have HB9 := hide (rBelow hW.out hb9)
            clear hb9 HRG
            go_wp2_with fail
            go_ret3
            exact FirstPostR.no HE.out HB9.out
        · rw [mayB_no hy] at hmay
          have HRG := hide (fun Q A => @rfst14A wr b o len cap n xs v hBw hmay Q A)
          have HE : Hid (dec xs = Told.no 4) := HDC.out.trans (HYG.out.2 (fun hh => hy hh.1))
          clear hpp hgr hdw hmay hBw hy hkk HDC HIFF HYG
          go_wp2_with fail
          refine Pl.region_is (ops := Pl.find 14 ((Try.f16.body).getD .skip)) (by kernel_rfl) ?_
          refine HRG.out _ _ (by rfl) rfl (by rfl) (by rfl) (by rfl) ?_
          intro uu w9 hb9
          simp only [Act.put, List.setIfInBounds_toArray, List.set_cons_zero, List.set_cons_succ]
          have HB9 := hide (rBelow hW.out hb9)
          clear hb9 HRG
          go_wp2_with fail
          go_ret3
          exact FirstPostR.no HE.out HB9.out
  · have HRG7 := hide (fun Q A => @rfst7A w1 b o len cap xs ys ⟨some ⟨b, o6, none⟩, n6, cap - 6⟩ hBD (by omega) hcap hyb hsum (fun e => hs (hsf.2 e)) Q A)
    have HE : Hid (dec xs = Told.no 5) := dec_bad (b := xs) (by rw [HXL.out]; omega) (by rw [HXL.out, ← HN.out]; omega) (by rw [← HN.out]; omega) (by rw [← HN.out]; exact hs)
    clear hmid hn6 hys hrun hzs hsf hyb hyl hsum hBD hS1 hs e1 e2 e3 hfa
    go_wp2_with (refine wpList_slice _ rfl 24 (.tmp 31) (some (.const (.int .i64 6))) (some (.tmp 33)) rfl (.slice (some ⟨b, o6, none⟩) n6 (cap - 6)) (HRUN.out _) ?_)
    refine Pl.region_is (ops := Pl.find 7 ((Try.f16.body).getD .skip)) (by kernel_rfl) ?_
    refine HRG7.out _ _ (by rfl) rfl (by rfl) (by rfl) ?_
    intro u2 w2 hb2
    simp only [Act.put, List.setIfInBounds_toArray, List.set_cons_zero, List.set_cons_succ]
    have HB2 := hide (rBelow HB1.out hb2)
    clear hb2 HRG7
    go_wp2_with fail
    go_ret3
    exact FirstPostR.no HE.out HB2.out
end Go.Proofs.Ytjgeiooblcpiaaa
