/-
  Is a device as it must be.
-/
import Derived.Test.YtokdeilcfkobfaaActG
namespace Go.Proofs.Ytokdeilcfkobfaa
open Go.RowKit
variable {K : Home}

set_option maxHeartbeats 8000000 in
set_option maxRecDepth 100000 in
theorem like_any {n tot m : Nat} (w : World) (p : Nat) (D : Ds) (Ld : Dl) (h : DevM w p D Ld) (d : Dv) (L : DvL) (hd : DvIn K w d L) (hr : Rel D d.abs) (g : Good n tot m d.abs) (ht : tot ≤ 400) (hm : m ≤ 900) (hn1 : 1 ≤ n) (hn2 : n ≤ 64) :
    Calls Try.prog 26 #[at0 p, d.val L, .int .i64 ((n : Nat) : Int)] w fun e w' => e = .returned (.bool true) ∧ Below w.heap.size w w' := by
  have hsane := hr.sane g ht (by omega) hn1 hn2
  have hsp := hsane.sp
  have hdl : d.done.length ≤ 1000 := by have := g.len; have e : d.abs.done.length = d.done.length := by show (d.done.map _).length = _; rw [List.length_map]
                                        omega
  have hun : D.units = pendB (d.done.map (·.u)) := by
    have : D.units = pendB d.abs.done := by unfold Ds.units; rw [hr.ap, hr.tr, pendB_un]
    exact this
  have hwl : D.wr.length = pendA (d.done.map (·.u)) := by
    have : D.wr.length = pendA d.abs.done := by rw [hr.wr, pendA_wr]
    exact this
  have hus : D.units ≤ 1000000 := by have h1 := hsane.ks; have h2 := hsane.tl; have h3 := g.kt; have h4 : D.ap.length ≤ 400 := by rw [hr.ap]; omega
                                     unfold Ds.units; omega
  have hss : D.ss.length ≤ 400 := by rw [hr.ss]; have := g.nt; omega
  have hbase : d.now.base = ((D.sb : Nat) : Int) := by have h1 := hr.sb; have h2 := g.nb0; have e : d.abs.now.base = d.now.base := rfl; rw [e] at h1 h2; omega
  have hst : d.now.st = D.ss := hr.ss.symm
  have hpg : d.now.pg = D.sp := hr.sp.symm
  have hgn : d.gone = D.gone := hr.pw.gone.symm
  have hww : ∀ x ∈ D.wr, x.b.length = 128 := fun x hx => (hsane.wr x hx).len
  have HST : Hid (∀ w', Below w.heap.size w w' → Calls Try.prog 27 #[at0 p] w' fun e w2 => Below w'.heap.size w' w2 ∧ ∃ s : Sl, e = .returned (.tuple #[.int .i64 ((D.sb : Nat) : Int), s.val]) ∧ Own 5 1 w2 s (vals D.ss) ∧ s.len = D.ss.length ∧ ∀ k, s.blk = some k → w'.heap.size ≤ k) := fun w' hb => stream_any w' p D Ld (h.keep hb) n hsp hn2 hn1 (by omega)
  have HPE : Hid (∀ w', Below w.heap.size w w' → Calls Try.prog 30 #[at0 p] w' fun e w2 => Below w'.heap.size w' w2 ∧ e = .returned (.tuple #[.int .i64 ((D.wr.length : Nat) : Int), .int .i64 ((D.units : Nat) : Int)])) := fun w' hb => pending_any w' p D Ld (h.keep hb) n hsp hn2 hn1 (by omega) hww
  have HRE : Hid (∀ w', Below w.heap.size w w' → ∀ k, k < n → Calls Try.prog 29 #[at0 p, .int .i64 ((k : Nat) : Int)] w' fun e w2 => Below w'.heap.size w' w2 ∧ ∃ s : Sl, e = .returned (.tuple #[s.val, .int .i64 0]) ∧ Own 5 1 w2 s (vals ((D.sp.drop (512 * k)).take 512)) ∧ s.len = 512 ∧ ∀ k, s.blk = some k → w'.heap.size ≤ k) := fun w' hb k hk => read_any w' p D Ld (h.keep hb) n hsp hn2 k hk
  have HRN : Hid (∀ w', Below w.heap.size w w' → Calls Try.prog 29 #[at0 p, .int .i64 ((n : Nat) : Int)] w' fun e w2 => e = .returned (.tuple #[.slice none 0 0, .int .i64 3]) ∧ w2 = w') := fun w' hb => read_none w' p D Ld (h.keep hb) n hsp hn2 ((n : Nat) : Int) (by omega)
  have HSE : Hid (∀ w', Calls Try.prog 44 #[d.val L] w' fun e w2 => Below w'.heap.size w' w2 ∧ e = .returned (d.now.val L.np L.ns)) := fun w' => refSeen_any d L w'
  have HRP : Hid (∀ w', Below w.heap.size w w' → Calls Try.prog 45 #[d.val L] w' fun e w2 => Below w'.heap.size w' w2 ∧ e = .returned (.tuple #[.int .i64 ((D.wr.length : Nat) : Int), .int .i64 ((D.units : Nat) : Int)])) := fun w' hb => by
    have := refPending_any d L w' (hd.keep hb (Nat.le_refl _)) hdl (by omega)
    rw [← hun, ← hwl] at this
    exact this
  have HDEV := hide h
  have HXS : Hid (Bs w L.ns.a L.ns.len D.ss) := by rw [← hst]; exact hide hd.now.st.bs
  have HXP : Hid (Bs w L.np.a L.np.len D.sp ∧ L.np.len ≤ L.np.cap ∧ L.np.len = 512 * n) := by
    rw [← hpg]
    refine hide ⟨hd.now.pg.bs, hd.now.pg.le, ?_⟩
    rw [← hd.now.pg.len, hpg, hsp]
  have HBYS := hide (h.byt .ss)
  have HBYP := hide (h.byt .sp)
  have HSP := hide hsp
  have HBASE := hide hbase
  have HGN := hide hgn
  clear hbase hgn hd hr g hsane hdl hun hwl hus hss hww h hst hpg
  obtain ⟨W1, hW1⟩ : ∃ W1, W1 = w.alloc (.cells #[L.kp.val, .int .i64 d.kept.base, L.ks.val, L.np.val, .int .i64 d.now.base, L.ns.val, L.ds.val, .bool d.gone, .int .i64 d.armed] 35) := ⟨_, rfl⟩
  have HB1 : Hid (Below w.heap.size w W1) := by rw [hW1]; exact hide (below_alloc w _)
  have HDV1 : Hid (DvBlk W1 w.heap.size L.kp.val d.kept.base L.ks.val L.np.val d.now.base L.ns.val L.ds.val d.gone d.armed) := by rw [hW1]; exact hide (dvBlk_new w _ _ _ _ _ _ _ _ _)
  have HLD1 := hide (load_dv w.heap.size d L W1 HDV1.out)
  have HW1 := hide hW1
  clear hW1
  have HV : Hid (d.val L = .agg #[L.kp.val, .int .i64 d.kept.base, L.ks.val, L.np.val, .int .i64 d.now.base, L.ns.val, L.ds.val, .bool d.gone, .int .i64 d.armed]) := hide rfl
  rw [HV.out]
  unfold at0
  go_enter Try.func26, Try.ntmps26
  go_wp2_with (rw [← HW1.out]; refine wpList_load _ rfl 35 (.tmp 4) rfl (.pointer (some ⟨w.heap.size, 0, none⟩)) (d.val L) rfl HLD1.out ?_)
  refine (HSE.out _).mono ?_
  rintro e w2 ⟨hb2, rfl⟩
  obtain ⟨W3, hW3⟩ : ∃ W3, W3 = setDk (w2.alloc (.cells #[.slice none 0 0, .int .i64 0, .slice none 0 0] 32)) w2.heap.size L.np.val d.now.base L.ns.val := ⟨_, rfl⟩
  have hZ : DkBlk (w2.alloc (.cells #[.slice none 0 0, .int .i64 0, .slice none 0 0] 32)) w2.heap.size Sl.nil.val 0 Sl.nil.val := dkBlk_new w2 _ _ _
  have hbz := below_alloc w2 (.cells #[.slice none 0 0, .int .i64 0, .slice none 0 0] 32)
  have HSD := hide (store_dk w2.heap.size d.now L.np L.ns _ hZ)
  have hb12 := HB1.out.trans (hb2.mono HB1.out.size)
  have HB3 : Hid (Below w.heap.size w W3) := by rw [hW3]; exact hide (setDk_below (hb12.trans (hbz.mono hb12.size)) hb12.size _ _ _)
  have HDK3 : Hid (DkBlk W3 w2.heap.size L.np.val d.now.base L.ns.val) := by rw [hW3]; exact hide (setDk_blk hZ _ _ _)
  have HDV3 : Hid (DvBlk W3 w.heap.size L.kp.val d.kept.base L.ks.val L.np.val d.now.base L.ns.val L.ds.val d.gone d.armed) := by
    rw [hW3]
    have h1 := (HDV1.out.keep hb2).keep hbz
    refine hide (h1.other (setDk_other _ _ _ _ _ _ ?_))
    have := (Array.getElem?_eq_some_iff.1 HDV1.out).1
    have := hb2.size
    omega
  rw [← hW3] at HSD
  have HW3 := hide hW3
  clear hW3 hZ hbz hb12
  go_wp2_with (refine wpList_store _ rfl rfl 32 (.tmp 7) (.tmp 20) rfl (.pointer (some ⟨w2.heap.size, 0, none⟩)) (d.now.val L.np L.ns) rfl rfl _ HSD.out ?_)
  refine (HST.out _ HB3.out).mono ?_
  rintro e w4 ⟨hb4, ⟨sa, sl, sc⟩, rfl, hown, hsl, _⟩
  have HBS4 := hide (hown.came HBYS.out).bs
  have HB4 := hide (HB3.out.trans (hb4.mono HB3.out.size))
  have HDK4 := hide (HDK3.out.keep hb4)
  have HDV4 := hide (HDV3.out.keep hb4)
  clear hown hsl hb4
  unfold Sl.val
  simp only
  go_wp2_with fail
  refine (HPE.out _ HB4.out).mono ?_
  rintro e w5 ⟨hb5, rfl⟩
  have HBS5 := hide (HBS4.out.keep hb5 (Nat.le_refl _))
  have HB5 := hide (HB4.out.trans (hb5.mono HB4.out.size))
  have HDK5 := hide (HDK4.out.keep hb5)
  have HDV5 := hide (HDV4.out.keep hb5)
  have HLD5 := hide (load_dv w.heap.size d L w5 HDV5.out)
  clear hb5
  go_wp2_with (refine wpList_load _ rfl 35 (.tmp 4) rfl (.pointer (some ⟨w.heap.size, 0, none⟩)) (d.val L) rfl HLD5.out ?_)
  refine (HRP.out _ HB5.out).mono ?_
  rintro e w6 ⟨hb6, rfl⟩
  have HBS6 := hide (HBS5.out.keep hb6 (Nat.le_refl _))
  have HB6 := hide (HB5.out.trans (hb6.mono HB5.out.size))
  have HDK6 := hide (HDK5.out.keep hb6)
  have HDV6 := hide (HDV5.out.keep hb6)
  clear hb6
  have c1 : w6.cell? ⟨w2.heap.size, 1, none⟩ = some (.int .i64 ((D.sb : Nat) : Int)) := by rw [← HBASE.out]; exact HDK6.out.c1
  have c2 : w6.cell? ⟨w2.heap.size, 2, none⟩ = some (.slice L.ns.a L.ns.len L.ns.cap) := HDK6.out.c2
  have c7 : w6.cell? ⟨w.heap.size, 7, none⟩ = some (.bool D.gone) := by rw [← HGN.out]; exact HDV6.out.c7
  have HR5 : Hid (∀ {Q : Exit → Act → World → Prop} {A' : Act}, _) := fun {Q A'} => like5 w6 p D Ld (HDEV.out.keep HB6.out) n HSP.out hn2 hn1 sa sl sc L.ns.a L.ns.len L.ns.cap D.ss w.heap.size w2.heap.size D.sb D.wr.length D.units HBS6.out (HXS.out.keep HB6.out (Nat.le_refl _)) c1 c2 c7 (Q := Q) (A := A')
  clear c1 c2 c7
  go_wp2_with fail
  refine Pl.region_is (ops := Pl.find 5 ((Try.f26.body).getD .skip)) (by kernel_rfl) ?_
  refine HR5.out (by rfl) rfl (by rfl) (by rfl) (by rfl) (by rfl) (by rfl) (by rfl) (by rfl) (by rfl) (by rfl) (by rfl) ?_
  rintro uu w7 rfl
  simp only [Act.put, List.setIfInBounds_toArray, List.set_cons_zero, List.set_cons_succ]
  have HB7 := hide (HB6.out.trans ((below_drew w6).mono HB6.out.size))
  have HDK7 := hide (HDK6.out.keep (below_drew w6))
  generalize w6.drew = w7 at HB7 HDK7
  clear HR5
  go_wp2_with fail
  clear HST HPE HSE HRP HDEV HXS HB1 HB3 HB4 HB5 HB6 HDV1 HDV3 HDV4 HDV5 HDV6 HDK3 HDK4 HDK5 HDK6 HBS4 HBS5 HBS6 HLD1 HLD5 HW1 HW3 HSD HV
  go_loopw [14] (fun i wr => ∃ j : Nat, j ≤ n ∧ i = .int .i64 j ∧ Hid (Below w.heap.size w wr) ∧ Hid (DkBlk wr w2.heap.size L.np.val d.now.base L.ns.val)) (fun i _ => n - (intOf i).toNat)
  case atStart => exact ⟨0, by omega, rfl, HB7, HDK7⟩
  case round =>
    obtain ⟨j, hj, rfl, hB, hK⟩ := hrel
    rcases Nat.lt_or_ge j n with hlt | hge
    · have i1 : ((j : Nat) : Int) < ((n : Nat) : Int) := by omega
      go_wp2_with fail
      refine (HRE.out _ hB.out j hlt).mono ?_
      rintro e w8 ⟨hb8, ⟨pa, pl, pc⟩, rfl, hown, hpl, _⟩
      have HBS8 := hide (hown.came ((HBYP.out.drop _).take _)).bs
      have HB8 := hide (hB.out.trans (hb8.mono hB.out.size))
      have HDK8 := hide (hK.out.keep hb8)
      clear hown hpl hb8
      unfold Sl.val
      simp only
      have c0 : w8.cell? ⟨w2.heap.size, 0, none⟩ = some (.slice L.np.a L.np.len L.np.cap) := HDK8.out.c0
      obtain ⟨x1, x2, x3⟩ := HXP.out
      have HR11 : Hid (∀ {Q : Exit → Act → World → Prop} {A' : Act}, _) := fun {Q A'} => like11 w8 pa pl pc L.np.a L.np.len L.np.cap D.sp w2.heap.size j HBS8.out (x1.keep HB8.out (Nat.le_refl _)) c0 (by omega) x2 (by rw [IntKind.wrap_i64]; omega) (by rw [IntKind.wrap_i64]; omega) (Q := Q) (A := A')
      clear c0 x1 x2 x3
      go_wp2_with fail
      refine Pl.region_is (ops := Pl.find 11 ((Try.f26.body).getD .skip)) (by kernel_rfl) ?_
      refine HR11.out (by rfl) rfl (by rfl) (by rfl) (by rfl) (by rfl) ?_
      rintro uu w9 rfl
      simp only [Act.put, List.setIfInBounds_toArray, List.set_cons_zero, List.set_cons_succ]
      have HB9 := hide (HB8.out.trans ((below_drew w8).mono HB8.out.size))
      have HDK9 := hide (HDK8.out.keep (below_drew w8))
      generalize w8.drew = w9 at HB9 HDK9
      clear HR11
      go_wp2_with fail
      go_roundw
      case rel => exact ⟨j + 1, by omega, by go_num, HB9, HDK9⟩
      case measure => simp only [intOf]; omega
    · obtain rfl : j = n := by omega
      go_wp2_with fail
      refine (HRN.out _ hB.out).mono ?_
      rintro e w8 ⟨rfl, rfl⟩
      go_wp2_with fail
      go_ret
      exact ⟨rfl, hB.out⟩

end Go.Proofs.Ytokdeilcfkobfaa
