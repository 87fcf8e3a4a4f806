/-
  The law of any items' bytes, taken back: its walk.
-/
import Derived.Test.YtkgdnmffponnjaaPackP
namespace Go.Proofs.Ytkgdnmffponnjaa
open Go.RowKit

theorem enters11 : ∀ args w, (callFunc 11 args).run Try.prog w = .ok (.enter 11 args) w := Pl.enters Try.func11 (by kernel_rfl) (by kernel_rfl)

theorem chk_eq (m : Bool) : (chk m == 0) = m := by cases m <;> decide

theorem OwnsI.stayV {e : TypeId} {w w' : World} {base : Nat} {v : Value} {l : List It} (h : OwnsI w base v l) (hs : StayV e w w') (hne : 35 ≠ e) : OwnsI w' base v l := by
  refine ⟨h.1, ?_⟩
  rcases h.2 with hn | ⟨g, cap, cur, hv, hbg, hg, rest⟩
  · exact .inl hn
  · exact .inr ⟨g, cap, cur, hv, hbg, (hs g _ _ _ hg hne).trans hg, rest⟩

theorem OwnsV.stayI {e : TypeId} {w w' : World} {base : Nat} {v : Value} {vs : List Value} (h : OwnsV e w base v vs) (hs : StayI w w') (hne : e ≠ 35) : OwnsV e w' base v vs := by
  refine ⟨h.1, ?_⟩
  rcases h.2 with hn | ⟨g, cap, cur, hv, hbg, hg, rest⟩
  · exact .inl hn
  · exact .inr ⟨g, cap, cur, hv, hbg, (hs g _ _ _ hg hne).trans hg, rest⟩

set_option maxHeartbeats 2000000 in
set_option maxRecDepth 100000 in
theorem puts10 (w0 w : World) (b off len cap k : Nat) (x : It) (hx : ItAt w0 b (off + k * 4) x) (hk : k < len) (hW : Below w0.heap.size w0 w)
    {Q : Exit → Act → World → Prop} {A : Act} (hsz : A.tmps.size = 117) (hdf : A.defers = []) (s0 : A.tmps.getD 0 undef = .slice (some ⟨b, off, none⟩) len cap) (s9 : A.tmps.getD 9 undef = .int .i64 (k : Nat))
    (hend : ∀ (u : Nat → Value) w', Below w0.heap.size w0 w' → Q .normal (((((((((((((A).put (some 38) (u 38)).put (some 39) (u 39)).put (some 40) (u 40)).put (some 41) (u 41)).put (some 44) (u 44)).put (some 45) (u 45)).put (some 46) (u 46)).put (some 47) (u 47)).put (some 42) (u 42)).put (some 43) (u 43)).put (some 48) (u 48)).put (some 49) (.bool false)) w') :
    (Code.region 10 (Pl.find 10 ((Try.f3.body).getD .skip)) true).wp Try.prog Q A w := by
  have hS0 : Below w0.heap.size w0 w.drew := hW.drew
  have hA := Pl.At.same (v := .int .i64 (k : Nat)) (d := 9) (Pl.At.same (v := .slice (some ⟨b, off, none⟩) len cap) (d := 0) (Pl.At.here hsz hdf) s0) s9
  refine Pl.H.start (S := fun w' => Below w0.heap.size w0 w') (by kernel_rfl) hA hS0 ?_
  rw [show (Pl.find 10 ((Try.f3.body).getD .skip)).size = 12 by kernel_rfl]
  refine Pl.H.take 0 38 (.slice (some ⟨b, off, none⟩) len cap) (by kernel_rfl) (by kernel_rfl) (by kernel_rfl) (Pl.free 0 (by kernel_rfl)) (Pl.move 0 (.tmp 0) (by kernel_rfl) (by decide)) hS0 ?_
  refine Pl.H.take 1 39 (.int .i64 (k : Nat)) (by kernel_rfl) (by kernel_rfl) (by kernel_rfl) (Pl.free 1 (by kernel_rfl)) (Pl.move 1 (.tmp 9) (by kernel_rfl) (by decide)) hS0 ?_
  refine Pl.H.take 2 40 (.pointer (some ⟨b, off + k * 4, none⟩)) (by kernel_rfl) (by kernel_rfl) (by kernel_rfl) (Pl.free 2 (by kernel_rfl)) (Pl.index 2 22 (.tmp 38) (.tmp 39) _ (by kernel_rfl) (by decide) (by decide) (index_item b off len cap k hk)) hS0 ?_
  refine Pl.H.take 3 41 (x.val) (by kernel_rfl) (by kernel_rfl) (by kernel_rfl) (Pl.free 3 (by kernel_rfl)) (Pl.load 3 35 (.tmp 40) _ (by kernel_rfl) (by decide) (fun w' hS => load_item b (off + k * 4) x w' (keep_item hx hS))) hS0 ?_
  refine Pl.H.take 6 44 (.slice (some ⟨b, off, none⟩) len cap) (by kernel_rfl) (by kernel_rfl) (by kernel_rfl) (Pl.free 6 (by kernel_rfl)) (Pl.move 6 (.tmp 0) (by kernel_rfl) (by decide)) hS0 ?_
  refine Pl.H.take 7 45 (.int .i64 (k : Nat)) (by kernel_rfl) (by kernel_rfl) (by kernel_rfl) (Pl.free 7 (by kernel_rfl)) (Pl.move 7 (.tmp 9) (by kernel_rfl) (by decide)) hS0 ?_
  refine Pl.H.take 8 46 (.pointer (some ⟨b, off + k * 4, none⟩)) (by kernel_rfl) (by kernel_rfl) (by kernel_rfl) (Pl.free 8 (by kernel_rfl)) (Pl.index 8 22 (.tmp 44) (.tmp 45) _ (by kernel_rfl) (by decide) (by decide) (index_item b off len cap k hk)) hS0 ?_
  refine Pl.H.take 9 47 (x.val) (by kernel_rfl) (by kernel_rfl) (by kernel_rfl) (Pl.free 9 (by kernel_rfl)) (Pl.load 9 35 (.tmp 46) _ (by kernel_rfl) (by decide) (fun w' hS => load_item b (off + k * 4) x w' (keep_item hx hS))) hS0 ?_
  refine Pl.H.call 4 42 11 [(.tmp 41)] #[35] (by kernel_rfl) (by kernel_rfl) (by kernel_rfl) (Pl.free 4 (by kernel_rfl)) (by kernel_rfl) (by decide) enters11 (Calls.mono (check_any x w.drew) ?_)
  rintro e w1 ⟨rfl, hb1⟩
  have hS1 := hS0.trans (hb1.mono hS0.size)
  refine ⟨.int .i64 (chk x.may), rfl, hS1, ?_⟩
  refine Pl.H.take 5 43 (.bool x.may) (by kernel_rfl) (by kernel_rfl) (by kernel_rfl) (Pl.free 5 (by kernel_rfl)) (Pl.binV 5 .eql 26 26 (.tmp 42) (.const (.int .i64 0)) (.int .i64 (chk x.may)) (.int .i64 0) _ (by kernel_rfl) (by decide) (by decide) rfl rfl (fun w => by simp [go_sem, eqGuard, chk_eq])) hS1 ?_
  refine Pl.H.call 10 48 12 [(.tmp 47)] #[35] (by kernel_rfl) (by kernel_rfl) (by kernel_rfl) (Pl.free 10 (by kernel_rfl)) (by kernel_rfl) (by decide) enters12 (Calls.mono (refMay_any x w1) ?_)
  rintro e w2 ⟨rfl, hb2⟩
  have hS2 := hS1.trans (hb2.mono hS1.size)
  refine ⟨.bool x.may, rfl, hS2, ?_⟩
  refine Pl.H.take 11 49 (.bool false) (by kernel_rfl) (by kernel_rfl) (by kernel_rfl) (Pl.free 11 (by kernel_rfl)) (Pl.binV 11 .neq 4 4 (.tmp 43) (.tmp 48) (.bool x.may) (.bool x.may) _ (by kernel_rfl) (by decide) (by decide) rfl rfl (fun w => by simp [go_sem, eqGuard])) hS2 ?_
  refine Pl.H.done (by kernel_rfl) (fun A' hA' => ?_)
  rw [Pl.At.ext hA' ((((((((((((hA.put 38 _).put 39 _).put 40 _).put 41 _).put 44 _).put 45 _).put 46 _).put 47 _).put 42 _).put 43 _).put 48 _).put 49 _)]
  exact hend (fun d => if d = 38 then .slice (some ⟨b, off, none⟩) len cap else if d = 39 then .int .i64 (k : Nat) else if d = 40 then .pointer (some ⟨b, off + k * 4, none⟩) else if d = 41 then x.val else if d = 44 then .slice (some ⟨b, off, none⟩) len cap else if d = 45 then .int .i64 (k : Nat) else if d = 46 then .pointer (some ⟨b, off + k * 4, none⟩) else if d = 47 then x.val else if d = 42 then .int .i64 (chk x.may) else if d = 43 then .bool x.may else if d = 48 then .bool x.may else undef) _ hS2

set_option maxHeartbeats 2000000 in
theorem packPuts_dark (a0 : Option Addr) (len0 cap0 : Nat) (la : List It) (w : World) (h0 : Is w a0 len0 la) (m0 : len0 ≤ 9223372036854775807) (hd : lightB la = false) :
    Calls Try.prog 3 #[.slice a0 len0 cap0] w fun e w' => e = .returned (.bool true) ∧ Below w.heap.size w w' := by
  have HA := hide (awake_any w)
  have HL0 := hide (light_any a0 len0 cap0 la w h0 m0)
  rw [hd] at HL0
  clear h0
  go_enter Try.func3, Try.ntmps3
  go_wp2_with fail
  refine HL0.out.mono ?_
  rintro e w' ⟨rfl, hw⟩
  obtain rfl := hw.symm
  go_wp2_with fail
  refine HA.out.mono ?_
  rintro e w' ⟨rfl, hbw⟩
  go_wp2_with fail
  go_ret
  exact ⟨rfl, hbw⟩

set_option maxHeartbeats 4000000 in
set_option maxRecDepth 100000 in
theorem packPuts_walk (a0 : Option Addr) (len0 cap0 : Nat) (la : List It) (w : World) (h0 : Is w a0 len0 la) (n0 : a0 = none → cap0 = 0) (hla : lightB la = true) :
    Calls Try.prog 3 #[.slice a0 len0 cap0] w fun e w' => e = .returned (.bool true) ∧ Below w.heap.size w w' := by
  have hsf : ∀ (w : World) (a : Addr) (m : Mode) (x : Nat), (store a (.float .f64 x) m).run Try.prog w = stored Try.prog w a (.float .f64 x) m := fun w a m x => run_store Try.prog w a _ m rfl
  have m0 : len0 ≤ 60 := by rw [← h0.1]; exact light_len hla
  have HL0 := hide (light_any a0 len0 cap0 la w h0 (by omega))
  rw [hla] at HL0
  have HI0 := hide h0
  have HN0 := hide n0
  have HO := hide (OwnsI.new w)
  have HWN := hide (below_alloc w (.cells #[] 35))
  have HB0 := hide (h0.keep HWN.out (Nat.le_refl _))
  have HLL : Hid (([] : List It).length + len0 ≤ 1000000) := by show _ ≤ _; simp; omega
  have HLA := hide h0.1
  clear h0 n0 hla
  go_enter Try.func3, Try.ntmps3
  go_wp2_with fail
  refine HL0.out.mono ?_
  rintro e w' ⟨rfl, hw⟩
  obtain rfl := hw.symm
  go_wp2_with (at_builtin; refine wpList_append_items _ rfl (.tmp 19) (.tmp 20) rfl w.heap.size _ [] rfl HO.out _ _ _ la rfl HB0.out HN0.out HLL.out HWN.out.size ?_)
  intro v1 w1 ho1 hb1 _
  have HW1 := hide (HWN.out.trans hb1)
  obtain ⟨a1, c1, hv1, is1, _⟩ := OwnsI.is (l := la) ho1 (fun i hi => HI0.out.2.1 i hi)
  rw [HLA.out] at hv1 is1
  subst hv1
  have HP1 := hide (put_any a1 len0 c1 la w1 is1 (by omega))
  clear ho1 hb1 is1 HO HB0 HLL HWN HL0
  go_wp2_with fail
  refine HP1.out.mono ?_
  rintro e w2 ⟨v2, rfl, hb2, ho2, hn2⟩
  have HW2 := hide (HW1.out.trans (hb2.mono HW1.out.size))
  have HP2 := hide (refPut_any a0 len0 cap0 la w2 (HI0.out.keep HW2.out (Nat.le_refl _)) m0)
  have HO2 := hide ho2
  have HE2 := hide hn2
  clear hb2 ho2 hn2 HP1
  go_wp2_with fail
  refine HP2.out.mono ?_
  rintro e w3 ⟨v3, rfl, hb3, ho3, hn3⟩
  have HW3 := hide (HW2.out.trans (hb3.mono HW2.out.size))
  have HK3 := hide hb3
  have HO3 := hide ho3
  have HKV : Hid (OwnsV 3 ((w3.alloc (.cells #[] 3)).alloc (.cells #[] 35)) w3.heap.size (.slice (some ⟨w3.heap.size, 0, none⟩) 0 0) (kVals [])) :=
    (OwnsV.lit 3 w3 _ [] (Nat.le_refl _) (by simp)).keep (below_alloc _ _) (Nat.le_refl _)
  have HOI : Hid (OwnsI ((w3.alloc (.cells #[] 3)).alloc (.cells #[] 35)) w3.heap.size (.slice (some ⟨w3.heap.size + 1, 0, none⟩) 0 0) []) :=
    OwnsI.lower (own_two w3 (.cells #[] 3)) (by omega)
  have HWW := hide (below_two w3 (.cells #[] 3) (.cells #[] 35))
  have HII := hide (HI0.out.keep HW3.out (Nat.le_refl _))
  obtain ⟨M, hM⟩ : ∃ M, M = la.all It.may := ⟨_, rfl⟩
  rw [← hM]
  rw [← hM] at HO2 HE2 HO3
  have HM := hide hM
  clear hb3 ho3 hn3 HP2 hM
  go_wp2_with fail
  go_loopw [7, 8, 9] (fun kv v i wr => ∃ k : Nat, k ≤ len0 ∧ i = .int .i64 k ∧ Hid (OwnsV 3 wr w3.heap.size kv (kVals ((la.map It.kind).take k))) ∧ Hid (OwnsI wr w3.heap.size v ((la.map It.valued).take k)) ∧ Hid (Below w3.heap.size w3 wr)) (fun _ _ i _ => len0 - (intOf i).toNat)
  case atStart => exact ⟨0, by omega, rfl, HKV, HOI, HWW⟩
  case round =>
    obtain ⟨k, hk, rfl, hkv, hown, hWr⟩ := hrel
    rcases Nat.lt_or_ge k len0 with hlt | hge
    · obtain ⟨b, off, rfl, hit⟩ := (HII.out.keep hWr.out (Nat.le_refl _)).2.2 k hlt
      obtain ⟨x, hx⟩ : ∃ x, x = la.getD k itD := ⟨_, rfl⟩
      rw [← hx] at hit
      have HX := hide hx
      have HIT := hide hit
      have HFX : Hid x.fits := by rw [hx]; exact HI0.out.fitsAt k hlt
      clear hx hit
      go_wp2_with fail
      refine Pl.region_is (ops := Pl.find 10 ((Try.f3.body).getD .skip)) (by kernel_rfl) ?_
      refine puts10 wr wr b off len0 cap0 k x HIT.out hlt (Below.refl _ _) (by rfl) (by rfl) (by rfl) (by rfl) ?_
      intro u w4 hb4
      simp only [Act.put, List.setIfInBounds_toArray, List.set_cons_zero, List.set_cons_succ]
      have HW4 := hide (hWr.out.trans (hb4.mono hWr.out.size))
      obtain ⟨kd, hkd⟩ : ∃ kd, kd = x.kind := ⟨_, rfl⟩
      obtain ⟨c0, c1', c2, c3⟩ := keep_item HIT.out hb4
      rw [← hkd] at c0
      have HKD := hide hkd
      have HOk := hide ((hkv.out.keep hb4 (Nat.le_refl _)).keep (below_alloc w4 (.cells #[.int .i64 kd] 3)) (Nat.le_refl _))
      have HOI4 := hide ((hown.out.keep hb4 (Nat.le_refl _)).keep (below_alloc w4 (.cells #[.int .i64 kd] 3)) (Nat.le_refl _))
      have HWk := hide (HW4.out.trans ((below_alloc w4 (.cells #[.int .i64 kd] 3)).mono HW4.out.size))
      have HV := hide (vs_one 3 w4 (.int .i64 kd) rfl)
      have HLEN : Hid ((kVals ((la.map It.kind).take k)).length + 1 ≤ 1000000) := by show _ ≤ _; simp [kVals]; omega
      clear hkd hb4
      go_wp2_with (at_builtin; refine wpList_append_vals oneInt _ rfl (.tmp 50) (.tmp 56) rfl w3.heap.size _ _ rfl HOk.out _ _ _ [.int .i64 kd] rfl HV.out (fun h => by cases h) HLEN.out HWk.out.size ?_)
      intro v5 w5 ho5 hb5 hs5
      have HW5 := hide (HWk.out.trans hb5)
      have HO5 := hide ho5
      have HOI5 := hide (HOI4.out.stayV hs5 (by decide))
      obtain ⟨_, _, e5, d0, d1, d2, d3⟩ := (HII.out.keep HW5.out (Nat.le_refl _)).2.2 k hlt
      simp only [Option.some.injEq, Addr.mk.injEq, and_true] at e5
      obtain ⟨rfl, rfl⟩ := e5
      rw [← HX.out] at d0 d1 d2 d3
      rw [← HKD.out] at d0
      obtain ⟨xn, hxn⟩ : ∃ n, n = x.n := ⟨_, rfl⟩
      obtain ⟨xx, hxx⟩ : ∃ n, n = x.x := ⟨_, rfl⟩
      obtain ⟨xs, hxs⟩ : ∃ n, n = x.s := ⟨_, rfl⟩
      rw [← hxn] at d1
      rw [← hxx] at d2
      rw [← hxs] at d3
      have HRV : Hid (∀ w, Calls Try.prog 14 #[.float .f64 xx] w fun e w' => e = .returned (.int .u64 ((Fl.val xx : Nat) : Int)) ∧ w' = w) := refValue_any xx (by rw [hxx]; exact HFX.out.2.2.1)
      have HXN := hide hxn
      have HXX := hide hxx
      have HXS := hide hxs
      clear hxn hxx hxs ho5 hb5 hs5 c0 c1' c2 c3 HOk HOI4 HV
      go_wp2_with fail
      refine (HRV.out _).mono ?_
      rintro e w6 ⟨rfl, hw6⟩
      subst hw6
      have hfc := from_call ((Fl.val xx : Nat) : Int)
      have hyf : (⟨kd, xn, Fl.val xx, xs⟩ : It).fits := by
        rw [HKD.out, HXN.out, HXX.out, HXS.out]
        exact ⟨HFX.out.1, HFX.out.2.1, Fl.val_lt HFX.out.2.2.1, HFX.out.2.2.2⟩
      have HOI6 := hide ((HOI5.out.keep (below_alloc w5 (.cells #[.int .i64 kd, .int .i64 xn, .float .f64 (Fl.val xx), .string xs] 35)) (Nat.le_refl _)).keep (below_alloc (w5.alloc (.cells #[.int .i64 kd, .int .i64 xn, .float .f64 (Fl.val xx), .string xs] 35)) (.cells #[.int .i64 kd, .int .i64 xn, .float .f64 (Fl.val xx), .string xs] 35)) (Nat.le_refl _))
      have HO6 := hide ((HO5.out.keep (below_alloc w5 (.cells #[.int .i64 kd, .int .i64 xn, .float .f64 (Fl.val xx), .string xs] 35)) (Nat.le_refl _)).keep (below_alloc (w5.alloc (.cells #[.int .i64 kd, .int .i64 xn, .float .f64 (Fl.val xx), .string xs] 35)) (.cells #[.int .i64 kd, .int .i64 xn, .float .f64 (Fl.val xx), .string xs] 35)) (Nat.le_refl _))
      have HW6 := hide (HW5.out.trans ((below_two w5 (.cells #[.int .i64 kd, .int .i64 xn, .float .f64 (Fl.val xx), .string xs] 35) (.cells #[.int .i64 kd, .int .i64 xn, .float .f64 (Fl.val xx), .string xs] 35)).mono HW5.out.size))
      have HI6 : Hid (Is ((w5.alloc (.cells #[.int .i64 kd, .int .i64 xn, .float .f64 (Fl.val xx), .string xs] 35)).alloc (.cells #[.int .i64 kd, .int .i64 xn, .float .f64 (Fl.val xx), .string xs] 35)) (some ⟨w5.heap.size + 1, 0, none⟩) 1 [⟨kd, xn, Fl.val xx, xs⟩]) := by
        have := is_one (w5.alloc (.cells #[.int .i64 kd, .int .i64 xn, .float .f64 (Fl.val xx), .string xs] 35)) ⟨kd, xn, Fl.val xx, xs⟩ hyf
        exact hide (by simpa using this)
      have HLE6 : Hid (((la.map It.valued).take k).length + 1 ≤ 1000000) := by show _ ≤ _; simp; omega
      clear hyf HOI5 HO5
      go_wp2_with (at_builtin; refine wpList_append_items _ rfl (.tmp 67) (.tmp 69) rfl w3.heap.size _ _ rfl HOI6.out _ _ _ [⟨kd, xn, Fl.val xx, xs⟩] rfl HI6.out (fun h => by cases h) HLE6.out HW6.out.size ?_)
      intro v7 w7 ho7 hb7 hs7
      have HO7 := hide ho7
      have HK7 := hide (HO6.out.stayI hs7 (by decide))
      have HW7 := hide (HW6.out.trans hb7)
      clear ho7 hb7 hs7 HO6 HOI6 HI6 hfc hsf
      go_wp2
      go_roundw
      case rel =>
        have hk' : k < la.length := by rw [HLA.out]; exact hlt
        have hx' : x = la[k] := by rw [HX.out]; simp [List.getD, hk']
        refine ⟨k + 1, by omega, by go_num, ?_, ?_, HW7⟩
        · have e : kVals ((la.map It.kind).take (k + 1)) = kVals ((la.map It.kind).take k) ++ [.int .i64 kd] := by
            rw [List.take_succ_eq_append_getElem (by simpa using hk'), HKD.out, hx']
            simp [kVals]
          rw [e]
          exact HK7
        · have e : (la.map It.valued).take (k + 1) = (la.map It.valued).take k ++ [⟨kd, xn, Fl.val xx, xs⟩] := by
            rw [List.take_succ_eq_append_getElem (by simpa using hk'), HKD.out, HXN.out, HXX.out, HXS.out, hx']
            simp [It.valued]
          rw [e]
          exact HO7
      case measure => simp only [intOf]; omega
    · have htk : (la.map It.kind).take k = la.map It.kind := List.take_of_length_le (by rw [List.length_map, HLA.out]; omega)
      have htv : (la.map It.valued).take k = la.map It.valued := List.take_of_length_le (by rw [List.length_map, HLA.out]; omega)
      rw [htk] at hkv
      rw [htv] at hown
      have HAW := hide (awake_any wr)
      have HWr := hide (HW3.out.trans (hWr.out.mono HW3.out.size))
      cases M
      · obtain rfl := HE2.out rfl
        unfold chk
        clear HO3 HO2 HE2 htk htv
        go_wp2_with fail
        refine HAW.out.mono ?_
        rintro e w8 ⟨rfl, hb8⟩
        have HW8 := hide (HWr.out.trans (hb8.mono HWr.out.size))
        go_wp2_with fail
        go_ret
        exact ⟨by simp, HW8.out⟩
      · have hmA : ∀ i ∈ la, i.may = true := List.all_eq_true.1 HM.out.symm
        have xA := putB_len hmA
        have oA := HO2.out rfl
        have oB := HO3.out rfl
        have HT := hide (takeOut_put hmA HI0.out.2.1 [])
        rw [List.append_nil] at HT
        obtain ⟨sA, hsA⟩ : ∃ s, s = putB la := ⟨_, rfl⟩
        rw [← hsA] at xA oA oB HT
        obtain ⟨nA, hnA⟩ : ∃ n, sA.length = n := ⟨_, rfl⟩
        have bA : nA ≤ 20000 := by rw [← hnA]; have := xA.1; rw [HLA.out] at this; omega
        obtain ⟨pA, qA, rfl, cA⟩ := oA.cameN xA.2 hnA (by omega)
        obtain ⟨pB, qB, rfl, cB⟩ := oB.cameN xA.2 hnA (by omega)
        have HCA := hide ((cA.keep HK3.out (Nat.le_refl _)).keep hWr.out (Nat.le_refl _))
        have HCB := hide (cB.keep hWr.out (Nat.le_refl _))
        rw [hnA] at HT
        obtain ⟨ka, kc, hkv', hvs, _⟩ := hkv.out.vs (kVals_one _)
        have hkl : (kVals (la.map It.kind)).length = len0 := by simp [kVals, HLA.out]
        rw [hkl] at hkv' hvs
        subst hkv'
        have HTK := hide (take_any pA nA qA sA ka len0 kc (la.map It.kind) wr HCA.out (ks_of_vs hvs) (by omega) (by omega))
        unfold Told at HTK
        rw [HT.out] at HTK
        unfold chk
        clear htk htv hvs hkl hkv HO3 HO2 HE2 hmA xA oA oB cA cB hsA hnA
        have bA' := hide bA
        clear bA
        go_wp2_with fail
        refine HTK.out.mono ?_
        rintro e w7 ⟨v7, rfl, hb7, ho7, hf7⟩
        have HW7 := hide (HWr.out.trans (hb7.mono HWr.out.size))
        obtain ⟨p7, q7, hv7, is7, _⟩ := ho7.is hf7
        obtain ⟨p8, q8, hv8, is8, _⟩ := (hown.out.keep hb7 (Nat.le_refl _)).is hf7
        have hll : (la.map It.valued).length = len0 := by simp [HLA.out]
        rw [hll] at hv7 is7 hv8 is8
        subst hv7
        subst hv8
        have HL := hide (refList_any p7 p8 len0 q7 q8 _ _ w7 is7 is8 (by omega) (fun j _ => same_self _))
        have hcA : (convert 25 9 (.slice pA nA qA)).run Try.prog w7 = .ok (.string (bstr sA)) w7 := run_string_of qA (HCA.out.bs.keep hb7 (Nat.le_refl _))
        have hcB : (convert 25 9 (.slice pB nA qB)).run Try.prog w7 = .ok (.string (bstr sA)) w7 := run_string_of qB (HCB.out.bs.keep hb7 (Nat.le_refl _))
        clear hb7 ho7 hf7 is7 is8 hll hown
        go_wp2_with fail
        refine HL.out.mono ?_
        rintro e w8 ⟨rfl, hb8⟩
        have HW8 := hide (HW7.out.trans (hb8.mono HW7.out.size))
        have HAW8 := hide (awake_any w8)
        clear hb8
        go_wp2_with fail
        refine HAW8.out.mono ?_
        rintro e w9 ⟨rfl, hb9⟩
        have HW9 := hide (HW8.out.trans (hb9.mono HW8.out.size))
        clear hb9
        go_wp2_with fail
        go_ret
        exact ⟨by simp, HW9.out⟩

end Go.Proofs.Ytkgdnmffponnjaa
