/-
  The walk of the law on how many bytes a stream takes.
-/
import Derived.Test.YtokdeilcfkobfaaLdN
namespace Go.Proofs.Ytokdeilcfkobfaa
open Go.RowKit

theorem came_made (w : World) (n : Nat) (hn : n ≤ 1000000) : Came (w.alloc (.cells (vals (List.replicate n 0)).toArray 5)) (some ⟨w.heap.size, 0, none⟩) n n (List.replicate n 0) :=
  (own_made w n (by omega) (List.replicate n 0) (by simp)).came (bytes_zero n)

/-- A device whose stream alone was written, its power never armed. -/
structure Ds.Plain (D : Ds) : Prop where
  sp : D.sp.length = 512 * 1
  armed : D.armed = false
  gone : D.gone = false
  tr : D.tr = []
  sb : D.sb = 0
theorem Ds.Plain.append {D : Ds} (h : D.Plain) (b : List Nat) : (D.append b).Plain ∧ (D.append b).ss = D.ss ++ b ∧ (D.append b).ap = D.ap ++ b := by
  have e : D.append b = { D with ss := D.ss ++ b, ap := D.ap ++ b } := by
    unfold Ds.append Ds.spend Ds.spent
    simp [h.gone, h.armed]
  rw [e]
  exact ⟨⟨h.sp, h.armed, h.gone, h.tr, h.sb⟩, rfl, rfl⟩
theorem Ds.Plain.trim {D : Ds} (h : D.Plain) (pl : Nat) : (D.trim pl).ss = D.ss.drop pl ∧ (D.trim pl).sb = pl ∧ (D.trim pl).sp = D.sp := by
  have e : D.trim pl = { D with ss := D.ss.drop pl, sb := pl, tr := D.tr ++ [⟨D.units, pl⟩] } := by
    unfold Ds.trim Ds.trim0 Ds.spend Ds.spent
    simp [h.gone, h.armed, h.sb]
  rw [e]
  exact ⟨rfl, rfl, rfl⟩
theorem Ds.new_plain : (Ds.new 1).Plain := ⟨List.length_replicate, rfl, rfl, rfl, rfl⟩

/-- What is appended fits. -/
theorem app_plain (w : World) (p : Nat) (D : Ds) (L : Dl) (h : DevM w p D L) (hp : D.Plain) (a : Option Addr) (len cap : Nat) (ys : List Nat) (hy : Came w a len cap ys) (hoff : Off (L.F p) a len) (hm : D.ap.length ≤ 100000) (hs : D.ss.length + len ≤ 65536) :
    Calls Try.prog 16 #[at0 p, .slice a len cap] w fun e w' => e = .returned (.int .i64 0) ∧ ∃ L', Turned w p L w' (D.append ys) L' :=
  append_ok w p D L h 1 hp.sp (by omega) (by omega) a len cap ys hy hoff (fun e => by rw [hp.armed] at e; cases e) (by omega) hs

theorem stream_len (w : World) (p : Nat) (D : Ds) (L : Dl) (h : DevM w p D L) (hsp : D.sp.length = 512 * 1) (b n : Nat) (hb : D.sb = b) (hn : D.ss.length = n) (hn2 : n ≤ 100000) : Calls Try.prog 27 #[at0 p] w fun e w' => Below w.heap.size w w' ∧ ∃ a c, e = .returned (.tuple #[.int .i64 ((b : Nat) : Int), .slice a n c]) := by
  refine (stream_any w p D L h 1 hsp (by omega) (by omega) (by omega)).mono ?_
  rintro e w' ⟨hb', s, rfl, _, hl, _⟩
  refine ⟨hb', s.a, s.cap, ?_⟩
  rw [hb, hn.symm, ← hl]
  rfl

set_option maxHeartbeats 8000000 in
set_option maxRecDepth 100000 in
theorem full_walk (w : World) (n m t : Nat) (hn : n ≤ 65535) (hm : m ≤ 65535) (ht : t ≤ 65535) :
    Calls Try.prog 4 #[.int .u16 ((n : Nat) : Int), .int .u16 ((m : Nat) : Int), .int .u16 ((t : Nat) : Int)] w fun e w' => e = .returned (.bool true) ∧ Below w.heap.size w w' := by
  have HN := hide (new_any w 1 (by omega) (by omega))
  have HAW : Hid (∀ w', Calls Try.prog 9 #[] w' fun e w2 => e = .returned (.bool true) ∧ Below w'.heap.size w' w2) := awake_any
  have hc1 : IntKind.i64.wrap ((n : Nat) : Int) = ((n : Nat) : Int) := by rw [IntKind.wrap_i64]; omega
  have hc2 : IntKind.i64.wrap ((m : Nat) : Int) = ((m : Nat) : Int) := by rw [IntKind.wrap_i64]; omega
  have hc3 : IntKind.i64.wrap ((t : Nat) : Int) = ((t : Nat) : Int) := by rw [IntKind.wrap_i64]; omega
  have hadd : IntKind.i64.wrap (((n : Nat) : Int) + ((m : Nat) : Int)) = ((n : Nat) : Int) + ((m : Nat) : Int) := by rw [IntKind.wrap_i64]; omega
  unfold at0 at *
  go_enter Try.func4, Try.ntmps4
  go_wp2_with fail
  refine HN.out.mono ?_
  rintro e w1 ⟨hb1, p, L1, rfl, hd1, hf1⟩
  have M1 := hide (Mine.mk hd1 hf1 hb1 hb1.size)
  clear hb1 hd1 hf1
  have hnil : ∀ w : World, (binOp .eql 23 (.pointer (some ⟨p, 0, none⟩)) (.pointer none)).run Try.prog w = .ok (.bool false) w := fun _ => rfl
  have hmk1 := make_bytes n (by omega) w1
  have hcm1 := came_made w1 n (by omega)
  have hA1 := below_alloc w1 (.cells (vals (List.replicate n 0)).toArray 5)
  have hoff1 := M1.out.dev.offNew (o := 0) (len := n) (Nat.le_refl w1.heap.size)
  generalize (.cells (vals (List.replicate n 0)).toArray 5 : Obj) = C1 at hmk1 hcm1 hA1
  have HM1 := hide hmk1
  have M2 := hide (M1.out.keep hA1)
  have HAP1 := hide (app_plain (w1.alloc C1) p _ L1 M2.out.dev Ds.new_plain _ n n _ hcm1 hoff1 (by simp [Ds.new]) (by simp [Ds.new]; omega))
  obtain ⟨P1, S1, A1⟩ := Ds.new_plain.append (List.replicate n 0)
  have S1' : ((Ds.new 1).append (List.replicate n 0)).ss.length = n := by rw [S1]; simp [Ds.new]
  have A1' : ((Ds.new 1).append (List.replicate n 0)).ap.length = n := by rw [A1]; simp [Ds.new]
  generalize (Ds.new 1).append (List.replicate n 0) = D1 at *
  have HP1 := hide P1
  have HS1 := hide S1'
  have HA1 := hide A1'
  clear hmk1 hcm1 hA1 hoff1 P1 S1 A1 S1' A1'
  go_wp2_with (refine wpList_make _ rfl 30 (.tmp 28) (.tmp 28) rfl (.int .i64 ((n : Nat) : Int)) (.int .i64 ((n : Nat) : Int)) (.slice (some ⟨w1.heap.size, 0, none⟩) n n) rfl rfl (w1.alloc C1) HM1.out ?_)
  refine HAP1.out.mono ?_
  rintro e w3 ⟨rfl, L3, hT3⟩
  have M3 := hide (M2.out.turn hT3)
  clear hT3
  have hmk2 := make_bytes m (by omega) w3
  have hcm2 := came_made w3 m (by omega)
  have hA2 := below_alloc w3 (.cells (vals (List.replicate m 0)).toArray 5)
  have hoff2 := M3.out.dev.offNew (o := 0) (len := m) (Nat.le_refl w3.heap.size)
  generalize (.cells (vals (List.replicate m 0)).toArray 5 : Obj) = C2 at hmk2 hcm2 hA2
  have HM2 := hide hmk2
  have M4 := hide (M3.out.keep hA2)
  have HCM2 := hide hcm2
  have HOFF2 := hide hoff2
  clear hmk2 hcm2 hA2 hoff2 HM1 HN HAP1
  by_cases hov : n + m ≤ 65536
  · have HAP2 := hide (app_plain (w3.alloc C2) p _ L3 M4.out.dev HP1.out _ m m _ HCM2.out HOFF2.out (by rw [HA1.out]; omega) (by rw [HS1.out]; omega))
    obtain ⟨P2, S2, A2⟩ := HP1.out.append (List.replicate m 0)
    have A2' : (D1.append (List.replicate m 0)).ap.length = n + m := by rw [A2, List.length_append, HA1.out, List.length_replicate]
    have S2' : (D1.append (List.replicate m 0)).ss.length = n + m := by rw [S2, List.length_append, HS1.out, List.length_replicate]
    generalize D1.append (List.replicate m 0) = D2 at *
    have HP2 := hide P2
    have HS2 := hide S2'
    have HA2 := hide A2'
    have i1 : ¬ 65536 < ((n : Nat) : Int) + ((m : Nat) : Int) := by omega
    have i2 : ((n : Nat) : Int) + ((m : Nat) : Int) ≤ 65536 := by omega
    have hdb : decide (65536 < ((n : Nat) : Int) + ((m : Nat) : Int)) = false := decide_eq_false i1
    clear P2 S2 S2' A2 A2' HCM2 HOFF2
    go_wp2_with (refine wpList_make _ rfl 30 (.tmp 33) (.tmp 33) rfl (.int .i64 ((m : Nat) : Int)) (.int .i64 ((m : Nat) : Int)) (.slice (some ⟨w3.heap.size, 0, none⟩) m m) rfl rfl (w3.alloc C2) HM2.out ?_)
    refine HAP2.out.mono ?_
    rintro e w5 ⟨rfl, L5, hT5⟩
    have M5 := hide (M4.out.turn hT5)
    clear hT5
    have HTB : Hid ((((n : Nat) : Int) + ((m : Nat) : Int) : Int) < ((t : Nat) : Int) → Calls Try.prog 18 #[at0 p, .int .i64 ((t : Nat) : Int)] w5 fun e w' => e = .returned (.int .i64 1) ∧ Below w5.heap.size w5 w') := fun ht2 => trim_bad w5 p D2 L5 M5.out.dev 1 HP2.out.sp (by omega) (by omega) _ (.inr (by rw [HP2.out.sb, HS2.out]; omega)) (by rw [HP2.out.sb, HS2.out]; omega)
    have HTO : Hid (((t : Nat) : Int) ≤ (((n : Nat) : Int) + ((m : Nat) : Int) : Int) → Calls Try.prog 18 #[at0 p, .int .i64 ((t : Nat) : Int)] w5 fun e w' => e = .returned (.int .i64 0) ∧ ∃ L', Turned w5 p L5 w' (D2.trim t) L') := fun ht2 => trim_ok w5 p D2 L5 M5.out.dev 1 HP2.out.sp (by omega) (by omega) t (by rw [HP2.out.sb]; omega) (by rw [HP2.out.sb, HS2.out]; omega) (by rw [HP2.out.sb, HS2.out]; omega) (fun e => by rw [HP2.out.armed] at e; cases e) (by unfold Ds.units; rw [HP2.out.tr]; have := HA2.out; simp; omega) (by rw [HP2.out.tr]; simp)
    unfold at0 at HTB HTO
    by_cases ht2 : (((n : Nat) : Int) + ((m : Nat) : Int) : Int) < ((t : Nat) : Int)
    · have HTR := hide (HTB.out ht2)
      have ht3 : ¬ ((t : Nat) : Int) ≤ (((n : Nat) : Int) + ((m : Nat) : Int) : Int) := by omega
      clear HTB HTO
      go_wp2_with fail
      refine HTR.out.mono ?_
      rintro e w6 ⟨rfl, hb6⟩
      have M6 := hide (M5.out.keep hb6)
      clear hb6
      have HSR := hide (stream_len w6 p _ _ M6.out.dev HP2.out.sp 0 _ HP2.out.sb HS2.out (by omega))
      unfold at0 at HSR
      go_wp2_with fail
      refine HSR.out.mono ?_
      rintro e w7 ⟨hb7, a7, c7, rfl⟩
      have M7 := hide (M6.out.keep hb7)
      clear hb7
      go_wp2_with fail
      refine (HAW.out w7).mono ?_
      rintro e w8 ⟨rfl, hb8⟩
      have HB8 := hide (M7.out.keep hb8).below
      clear hb8
      go_wp2_with fail
      go_ret
      exact ⟨rfl, HB8.out⟩
    · have ht3 : ((t : Nat) : Int) ≤ (((n : Nat) : Int) + ((m : Nat) : Int) : Int) := by omega
      have HTR := hide (HTO.out ht3)
      clear HTB HTO
      go_wp2_with fail
      refine HTR.out.mono ?_
      rintro e w6 ⟨rfl, L6, hT6⟩
      have M6 := hide (M5.out.turn hT6)
      clear hT6
      obtain ⟨q1, q2, q3⟩ := HP2.out.trim t
      have HSR := hide (stream_len w6 p _ _ M6.out.dev (by rw [q3]; exact HP2.out.sp) t ((n + m) - t) q2 (by rw [q1, List.length_drop, HS2.out]) (by omega))
      clear q1 q2 q3
      unfold at0 at HSR
      obtain ⟨lz, hlz⟩ : ∃ lz, lz = (n + m) - t := ⟨_, rfl⟩
      rw [← hlz] at HSR
      have hsub : IntKind.i64.wrap ((((n : Nat) : Int) + ((m : Nat) : Int) : Int) - ((t : Nat) : Int)) = ((lz : Nat) : Int) := by rw [IntKind.wrap_i64]; omega
      clear hlz
      go_wp2_with fail
      refine HSR.out.mono ?_
      rintro e w7 ⟨hb7, a7, c7, rfl⟩
      have M7 := hide (M6.out.keep hb7)
      clear hb7
      go_wp2_with fail
      refine (HAW.out w7).mono ?_
      rintro e w8 ⟨rfl, hb8⟩
      have HB8 := hide (M7.out.keep hb8).below
      clear hb8
      go_wp2_with fail
      go_ret
      exact ⟨rfl, HB8.out⟩
  · have HAF := hide (append_full (w3.alloc C2) p _ L3 M4.out.dev 1 HP1.out.sp (by omega) (by omega) (some ⟨w3.heap.size, 0, none⟩) m m (by rw [HS1.out]; omega) (by rw [HS1.out]; omega))
    have i1 : 65536 < ((n : Nat) : Int) + ((m : Nat) : Int) := by omega
    have hdb : decide (65536 < ((n : Nat) : Int) + ((m : Nat) : Int)) = true := decide_eq_true i1
    unfold at0 at HAF
    clear HCM2 HOFF2
    go_wp2_with (refine wpList_make _ rfl 30 (.tmp 33) (.tmp 33) rfl (.int .i64 ((m : Nat) : Int)) (.int .i64 ((m : Nat) : Int)) (.slice (some ⟨w3.heap.size, 0, none⟩) m m) rfl rfl (w3.alloc C2) HM2.out ?_)
    refine HAF.out.mono ?_
    rintro e w5 ⟨rfl, hw⟩
    obtain rfl := hw
    have HTB : Hid ((((n : Nat) : Int) : Int) < ((t : Nat) : Int) → Calls Try.prog 18 #[at0 p, .int .i64 ((t : Nat) : Int)] (w3.alloc C2) fun e w' => e = .returned (.int .i64 1) ∧ Below (w3.alloc C2).heap.size (w3.alloc C2) w') := fun ht2 => trim_bad (w3.alloc C2) p D1 L3 M4.out.dev 1 HP1.out.sp (by omega) (by omega) _ (.inr (by rw [HP1.out.sb, HS1.out]; omega)) (by rw [HP1.out.sb, HS1.out]; omega)
    have HTO : Hid (((t : Nat) : Int) ≤ (((n : Nat) : Int) : Int) → Calls Try.prog 18 #[at0 p, .int .i64 ((t : Nat) : Int)] (w3.alloc C2) fun e w' => e = .returned (.int .i64 0) ∧ ∃ L', Turned (w3.alloc C2) p L3 w' (D1.trim t) L') := fun ht2 => trim_ok (w3.alloc C2) p D1 L3 M4.out.dev 1 HP1.out.sp (by omega) (by omega) t (by rw [HP1.out.sb]; omega) (by rw [HP1.out.sb, HS1.out]; omega) (by rw [HP1.out.sb, HS1.out]; omega) (fun e => by rw [HP1.out.armed] at e; cases e) (by unfold Ds.units; rw [HP1.out.tr]; have := HA1.out; simp; omega) (by rw [HP1.out.tr]; simp)
    unfold at0 at HTB HTO
    by_cases ht2 : (((n : Nat) : Int) : Int) < ((t : Nat) : Int)
    · have HTR := hide (HTB.out ht2)
      have ht3 : ¬ ((t : Nat) : Int) ≤ (((n : Nat) : Int) : Int) := by omega
      clear HTB HTO
      go_wp2_with fail
      refine HTR.out.mono ?_
      rintro e w6 ⟨rfl, hb6⟩
      have M6 := hide (M4.out.keep hb6)
      clear hb6
      have HSR := hide (stream_len w6 p _ _ M6.out.dev HP1.out.sp 0 _ HP1.out.sb HS1.out (by omega))
      unfold at0 at HSR
      go_wp2_with fail
      refine HSR.out.mono ?_
      rintro e w7 ⟨hb7, a7, c7, rfl⟩
      have M7 := hide (M6.out.keep hb7)
      clear hb7
      go_wp2_with fail
      refine (HAW.out w7).mono ?_
      rintro e w8 ⟨rfl, hb8⟩
      have HB8 := hide (M7.out.keep hb8).below
      clear hb8
      go_wp2_with fail
      go_ret
      exact ⟨rfl, HB8.out⟩
    · have ht3 : ((t : Nat) : Int) ≤ (((n : Nat) : Int) : Int) := by omega
      have HTR := hide (HTO.out ht3)
      clear HTB HTO
      go_wp2_with fail
      refine HTR.out.mono ?_
      rintro e w6 ⟨rfl, L6, hT6⟩
      have M6 := hide (M4.out.turn hT6)
      clear hT6
      obtain ⟨q1, q2, q3⟩ := HP1.out.trim t
      have HSR := hide (stream_len w6 p _ _ M6.out.dev (by rw [q3]; exact HP1.out.sp) t (n - t) q2 (by rw [q1, List.length_drop, HS1.out]) (by omega))
      clear q1 q2 q3
      unfold at0 at HSR
      obtain ⟨lz, hlz⟩ : ∃ lz, lz = n - t := ⟨_, rfl⟩
      rw [← hlz] at HSR
      have hsub : IntKind.i64.wrap ((((n : Nat) : Int) : Int) - ((t : Nat) : Int)) = ((lz : Nat) : Int) := by rw [IntKind.wrap_i64]; omega
      clear hlz
      go_wp2_with fail
      refine HSR.out.mono ?_
      rintro e w7 ⟨hb7, a7, c7, rfl⟩
      have M7 := hide (M6.out.keep hb7)
      clear hb7
      go_wp2_with fail
      refine (HAW.out w7).mono ?_
      rintro e w8 ⟨rfl, hb8⟩
      have HB8 := hide (M7.out.keep hb8).below
      clear hb8
      go_wp2_with fail
      go_ret
      exact ⟨rfl, HB8.out⟩

end Go.Proofs.Ytokdeilcfkobfaa
