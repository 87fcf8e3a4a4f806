/-
  The walk of the law on torn streams.
-/
import Derived.Test.YtokdeilcfkobfaaLdO
namespace Go.Proofs.Ytokdeilcfkobfaa
open Go.RowKit

theorem entAwake : ∀ args w, (callFunc 9 args).run Try.prog w = .ok (.enter 9 args) w := Pl.enters Try.func9 (by kernel_rfl) (by kernel_rfl)
theorem bstr_join (xs ys : List Nat) : bstr xs ++ bstr ys = bstr (xs ++ ys) := by
  have h : (bstr xs ++ bstr ys).data = (bstr (xs ++ ys)).data := by
    apply Array.toList_inj.1
    rw [ByteArray.data_append, Array.toList_append]
    unfold bstr
    rw [strOfNums_data, strOfNums_data, strOfNums_data, List.map_append, List.map_append]
  cases h1 : bstr xs ++ bstr ys
  cases h2 : bstr (xs ++ ys)
  rw [h1, h2] at h
  simp only at h
  rw [h]
theorem bstr_size (xs : List Nat) : (bstr xs).size = xs.length := by unfold bstr; rw [strOfNums_size, List.length_map]
theorem add_str (a b : ByteArray) (hs : a.size + b.size ≤ 9223372036854775807) (w : World) : (binOp .add 9 (.string a) (.string b)).run Try.prog w = .ok (.string (a ++ b)) w := by simp [go_sem, hs]

set_option maxHeartbeats 2000000 in
set_option maxRecDepth 100000 in
theorem torn15 (w : World) (a0 : Option Addr) (len0 cap0 : Nat) (a1 : Option Addr) (len1 cap1 : Nat) (sa : Option Addr) (sl sc k : Nat) (xs ys : List Nat) (h1 : Bs w sa sl (xs ++ ys.take k)) (h2 : Bs w a0 len0 xs) (h3 : Bs w a1 len1 ys) (hk : k ≤ len1) (hc : len1 ≤ cap1) (hz : xs.length + ys.length ≤ 1000000)
    {Q : Exit → Act → World → Prop} {A : Act} (hsz : A.tmps.size = 96) (hdf : A.defers = []) (s0 : A.tmps.getD 0 undef = .slice a0 len0 cap0) (s1 : A.tmps.getD 1 undef = .slice a1 len1 cap1) (s10 : A.tmps.getD 10 undef = .int .i64 ((len1 : Nat) : Int)) (s11 : A.tmps.getD 11 undef = .int .i64 ((k : Nat) : Int)) (s12 : A.tmps.getD 12 undef = .int .i64 0) (s13 : A.tmps.getD 13 undef = .slice sa sl sc)
    (hend : ∀ (u : Nat → Value) w', Below w.heap.size w w' → Q .normal (((((((((((((((((((((((((A).put (some 73) (u 73)).put (some 74) (u 74)).put (some 75) (u 75)).put (some 76) (u 76)).put (some 77) (u 77)).put (some 78) (u 78)).put (some 79) (u 79)).put (some 80) (u 80)).put (some 81) (u 81)).put (some 82) (u 82)).put (some 83) (u 83)).put (some 84) (u 84)).put (some 85) (u 85)).put (some 86) (u 86)).put (some 87) (u 87)).put (some 88) (u 88)).put (some 89) (u 89)).put (some 90) (u 90)).put (some 91) (u 91)).put (some 92) (u 92)).put (some 93) (u 93)).put (some 94) (u 94)).put (some 95) (u 95)).put (some 6) (.bool true)) w') :
    (Code.region 15 (Pl.find 15 ((Try.f7.body).getD .skip)) true).wp Try.prog Q A w := by
  have hA := Pl.At.same (v := .slice sa sl sc) (d := 13) (Pl.At.same (v := .int .i64 0) (d := 12) (Pl.At.same (v := .int .i64 ((k : Nat) : Int)) (d := 11) (Pl.At.same (v := .int .i64 ((len1 : Nat) : Int)) (d := 10) (Pl.At.same (v := .slice a1 len1 cap1) (d := 1) (Pl.At.same (v := .slice a0 len0 cap0) (d := 0) (Pl.At.here hsz hdf) s0) s1) s10) s11) s12) s13
  refine Pl.H.start (S := fun w' => Bs w' sa sl (xs ++ ys.take k) ∧ Bs w' a0 len0 xs ∧ Bs w' a1 len1 ys) (by kernel_rfl) hA (show (fun (w' : World) => Bs w' sa sl (xs ++ ys.take k) ∧ Bs w' a0 len0 xs ∧ Bs w' a1 len1 ys) w.drew from ⟨h1, h2, h3⟩) ?_
  rw [show (Pl.find 15 ((Try.f7.body).getD .skip)).size = 24 by kernel_rfl]
  refine Pl.H.take 0 73 (.int .i64 ((len1 : Nat) : Int)) (by kernel_rfl) (by kernel_rfl) (by kernel_rfl) (Pl.free 0 (by kernel_rfl)) (Pl.move 0 (.tmp 10) (by kernel_rfl) (by decide)) (show (fun (w' : World) => Bs w' sa sl (xs ++ ys.take k) ∧ Bs w' a0 len0 xs ∧ Bs w' a1 len1 ys) w.drew from ⟨h1, h2, h3⟩) ?_
  refine Pl.H.take 1 74 (.slice a1 len1 cap1) (by kernel_rfl) (by kernel_rfl) (by kernel_rfl) (Pl.free 1 (by kernel_rfl)) (Pl.move 1 (.tmp 1) (by kernel_rfl) (by decide)) (show (fun (w' : World) => Bs w' sa sl (xs ++ ys.take k) ∧ Bs w' a0 len0 xs ∧ Bs w' a1 len1 ys) w.drew from ⟨h1, h2, h3⟩) ?_
  refine Pl.H.take 2 75 (.int .i64 ((len1 : Nat) : Int)) (by kernel_rfl) (by kernel_rfl) (by kernel_rfl) (Pl.free 2 (by kernel_rfl)) (Pl.lenOf 2 30 (.tmp 74) _ (by kernel_rfl) (by decide) (fun _ _ => rfl)) (show (fun (w' : World) => Bs w' sa sl (xs ++ ys.take k) ∧ Bs w' a0 len0 xs ∧ Bs w' a1 len1 ys) w.drew from ⟨h1, h2, h3⟩) ?_
  refine Pl.H.take 3 76 (.bool true) (by kernel_rfl) (by kernel_rfl) (by kernel_rfl) (Pl.free 3 (by kernel_rfl)) (Pl.eqlSame 3 3 3 (.tmp 73) (.tmp 75) _ _ (by kernel_rfl) (by decide) (by decide) rfl rfl) (show (fun (w' : World) => Bs w' sa sl (xs ++ ys.take k) ∧ Bs w' a0 len0 xs ∧ Bs w' a1 len1 ys) w.drew from ⟨h1, h2, h3⟩) ?_
  refine Pl.H.take 4 77 (.bool true) (by kernel_rfl) (by kernel_rfl) (by kernel_rfl) (Pl.free 4 (by kernel_rfl)) (Pl.move 4 (.tmp 76) (by kernel_rfl) (by decide)) (show (fun (w' : World) => Bs w' sa sl (xs ++ ys.take k) ∧ Bs w' a0 len0 xs ∧ Bs w' a1 len1 ys) w.drew from ⟨h1, h2, h3⟩) ?_
  refine Pl.H.take 5 78 (.int .i64 0) (by kernel_rfl) (by kernel_rfl) (by kernel_rfl) (Pl.guarded 5 4 77 true (by kernel_rfl) (by kernel_rfl) (by decide) rfl) (Pl.move 5 (.tmp 12) (by kernel_rfl) (by decide)) (show (fun (w' : World) => Bs w' sa sl (xs ++ ys.take k) ∧ Bs w' a0 len0 xs ∧ Bs w' a1 len1 ys) w.drew from ⟨h1, h2, h3⟩) ?_
  refine Pl.H.take 6 79 (.bool true) (by kernel_rfl) (by kernel_rfl) (by kernel_rfl) (Pl.guarded 6 4 77 true (by kernel_rfl) (by kernel_rfl) (by decide) rfl) (Pl.eqlSame 6 3 3 (.tmp 78) (.const (.int .i64 0)) _ _ (by kernel_rfl) (by decide) (by decide) rfl rfl) (show (fun (w' : World) => Bs w' sa sl (xs ++ ys.take k) ∧ Bs w' a0 len0 xs ∧ Bs w' a1 len1 ys) w.drew from ⟨h1, h2, h3⟩) ?_
  refine Pl.H.take 7 80 (.bool true) (by kernel_rfl) (by kernel_rfl) (by kernel_rfl) (Pl.free 7 (by kernel_rfl)) (Pl.pick 7 (.tmp 77) (.tmp 79) (.const (.bool false)) (by kernel_rfl) (by decide) (by decide) rfl) (show (fun (w' : World) => Bs w' sa sl (xs ++ ys.take k) ∧ Bs w' a0 len0 xs ∧ Bs w' a1 len1 ys) w.drew from ⟨h1, h2, h3⟩) ?_
  refine Pl.H.take 8 81 (.bool true) (by kernel_rfl) (by kernel_rfl) (by kernel_rfl) (Pl.free 8 (by kernel_rfl)) (Pl.move 8 (.tmp 80) (by kernel_rfl) (by decide)) (show (fun (w' : World) => Bs w' sa sl (xs ++ ys.take k) ∧ Bs w' a0 len0 xs ∧ Bs w' a1 len1 ys) w.drew from ⟨h1, h2, h3⟩) ?_
  refine Pl.H.take 9 82 (.slice sa sl sc) (by kernel_rfl) (by kernel_rfl) (by kernel_rfl) (Pl.guarded 9 8 81 true (by kernel_rfl) (by kernel_rfl) (by decide) rfl) (Pl.move 9 (.tmp 13) (by kernel_rfl) (by decide)) (show (fun (w' : World) => Bs w' sa sl (xs ++ ys.take k) ∧ Bs w' a0 len0 xs ∧ Bs w' a1 len1 ys) w.drew from ⟨h1, h2, h3⟩) ?_
  refine Pl.H.take 10 83 (.string (bstr (xs ++ ys.take k))) (by kernel_rfl) (by kernel_rfl) (by kernel_rfl) (Pl.guarded 10 8 81 true (by kernel_rfl) (by kernel_rfl) (by decide) rfl) (Pl.convV 10 30 9 (.tmp 82) (.slice sa sl sc) _ (by kernel_rfl) (by decide) rfl (fun w' hS => run_string_of _ hS.1)) (show (fun (w' : World) => Bs w' sa sl (xs ++ ys.take k) ∧ Bs w' a0 len0 xs ∧ Bs w' a1 len1 ys) w.drew from ⟨h1, h2, h3⟩) ?_
  refine Pl.H.take 11 84 (.slice a0 len0 cap0) (by kernel_rfl) (by kernel_rfl) (by kernel_rfl) (Pl.guarded 11 8 81 true (by kernel_rfl) (by kernel_rfl) (by decide) rfl) (Pl.move 11 (.tmp 0) (by kernel_rfl) (by decide)) (show (fun (w' : World) => Bs w' sa sl (xs ++ ys.take k) ∧ Bs w' a0 len0 xs ∧ Bs w' a1 len1 ys) w.drew from ⟨h1, h2, h3⟩) ?_
  refine Pl.H.take 12 85 (.string (bstr xs)) (by kernel_rfl) (by kernel_rfl) (by kernel_rfl) (Pl.guarded 12 8 81 true (by kernel_rfl) (by kernel_rfl) (by decide) rfl) (Pl.convV 12 30 9 (.tmp 84) (.slice a0 len0 cap0) _ (by kernel_rfl) (by decide) rfl (fun w' hS => run_string_of _ hS.2.1)) (show (fun (w' : World) => Bs w' sa sl (xs ++ ys.take k) ∧ Bs w' a0 len0 xs ∧ Bs w' a1 len1 ys) w.drew from ⟨h1, h2, h3⟩) ?_
  refine Pl.H.take 13 86 (.slice a1 len1 cap1) (by kernel_rfl) (by kernel_rfl) (by kernel_rfl) (Pl.guarded 13 8 81 true (by kernel_rfl) (by kernel_rfl) (by decide) rfl) (Pl.move 13 (.tmp 1) (by kernel_rfl) (by decide)) (show (fun (w' : World) => Bs w' sa sl (xs ++ ys.take k) ∧ Bs w' a0 len0 xs ∧ Bs w' a1 len1 ys) w.drew from ⟨h1, h2, h3⟩) ?_
  refine Pl.H.take 14 87 (.int .i64 ((k : Nat) : Int)) (by kernel_rfl) (by kernel_rfl) (by kernel_rfl) (Pl.guarded 14 8 81 true (by kernel_rfl) (by kernel_rfl) (by decide) rfl) (Pl.move 14 (.tmp 11) (by kernel_rfl) (by decide)) (show (fun (w' : World) => Bs w' sa sl (xs ++ ys.take k) ∧ Bs w' a0 len0 xs ∧ Bs w' a1 len1 ys) w.drew from ⟨h1, h2, h3⟩) ?_
  refine Pl.H.take 15 88 (.slice (fromA a1 cap1 0) k cap1) (by kernel_rfl) (by kernel_rfl) (by kernel_rfl) (Pl.guarded 15 8 81 true (by kernel_rfl) (by kernel_rfl) (by decide) rfl) (Pl.slice 15 30 (.tmp 86) none (some (.tmp 87)) _ (by kernel_rfl) (by decide) (by decide) (by decide) (fun w => slice_upto a1 len1 cap1 k (by omega) w)) (show (fun (w' : World) => Bs w' sa sl (xs ++ ys.take k) ∧ Bs w' a0 len0 xs ∧ Bs w' a1 len1 ys) w.drew from ⟨h1, h2, h3⟩) ?_
  refine Pl.H.take 16 89 (.string (bstr (ys.take k))) (by kernel_rfl) (by kernel_rfl) (by kernel_rfl) (Pl.guarded 16 8 81 true (by kernel_rfl) (by kernel_rfl) (by decide) rfl) (Pl.convV 16 30 9 (.tmp 88) (.slice (fromA a1 cap1 0) k cap1) _ (by kernel_rfl) (by decide) rfl (fun w' hS => run_string_of _ (hS.2.2.upto (cap := cap1) hk))) (show (fun (w' : World) => Bs w' sa sl (xs ++ ys.take k) ∧ Bs w' a0 len0 xs ∧ Bs w' a1 len1 ys) w.drew from ⟨h1, h2, h3⟩) ?_
  refine Pl.H.take 17 90 (.string (bstr (xs ++ ys.take k))) (by kernel_rfl) (by kernel_rfl) (by kernel_rfl) (Pl.guarded 17 8 81 true (by kernel_rfl) (by kernel_rfl) (by decide) rfl) (Pl.binV 17 .add 9 9 (.tmp 85) (.tmp 89) (.string (bstr xs)) (.string (bstr (ys.take k))) _ (by kernel_rfl) (by decide) (by decide) rfl rfl (fun w => by rw [← bstr_join]; simp only [eqGuard]; exact add_str _ _ (by rw [bstr_size, bstr_size, List.length_take]; omega) w)) (show (fun (w' : World) => Bs w' sa sl (xs ++ ys.take k) ∧ Bs w' a0 len0 xs ∧ Bs w' a1 len1 ys) w.drew from ⟨h1, h2, h3⟩) ?_
  refine Pl.H.take 18 91 (.bool true) (by kernel_rfl) (by kernel_rfl) (by kernel_rfl) (Pl.guarded 18 8 81 true (by kernel_rfl) (by kernel_rfl) (by decide) rfl) (Pl.eqlStr 18 9 9 (.tmp 83) (.tmp 90) _ (by kernel_rfl) (by decide) (by decide) rfl rfl) (show (fun (w' : World) => Bs w' sa sl (xs ++ ys.take k) ∧ Bs w' a0 len0 xs ∧ Bs w' a1 len1 ys) w.drew from ⟨h1, h2, h3⟩) ?_
  refine Pl.H.take 19 92 (.bool true) (by kernel_rfl) (by kernel_rfl) (by kernel_rfl) (Pl.free 19 (by kernel_rfl)) (Pl.pick 19 (.tmp 81) (.tmp 91) (.const (.bool false)) (by kernel_rfl) (by decide) (by decide) rfl) (show (fun (w' : World) => Bs w' sa sl (xs ++ ys.take k) ∧ Bs w' a0 len0 xs ∧ Bs w' a1 len1 ys) w.drew from ⟨h1, h2, h3⟩) ?_
  refine Pl.H.take 20 93 (.bool true) (by kernel_rfl) (by kernel_rfl) (by kernel_rfl) (Pl.free 20 (by kernel_rfl)) (Pl.move 20 (.tmp 92) (by kernel_rfl) (by decide)) (show (fun (w' : World) => Bs w' sa sl (xs ++ ys.take k) ∧ Bs w' a0 len0 xs ∧ Bs w' a1 len1 ys) w.drew from ⟨h1, h2, h3⟩) ?_
  refine Pl.H.call 21 94 9 [] #[] (by kernel_rfl) (by kernel_rfl) (by kernel_rfl) (Pl.guarded 21 20 93 true (by kernel_rfl) (by kernel_rfl) (by decide) rfl) (by kernel_rfl) (by decide) entAwake (Calls.mono (awake_any w.drew) ?_)
  rintro e w2 ⟨rfl, hb2⟩
  have hS2 : (fun (w' : World) => Bs w' sa sl (xs ++ ys.take k) ∧ Bs w' a0 len0 xs ∧ Bs w' a1 len1 ys) w2 := ⟨h1.keep ((below_drew w).trans hb2) (Nat.le_refl _), h2.keep ((below_drew w).trans hb2) (Nat.le_refl _), h3.keep ((below_drew w).trans hb2) (Nat.le_refl _)⟩
  refine ⟨.bool true, rfl, hS2, ?_⟩
  refine Pl.H.take 22 95 (.bool true) (by kernel_rfl) (by kernel_rfl) (by kernel_rfl) (Pl.free 22 (by kernel_rfl)) (Pl.pick 22 (.tmp 93) (.tmp 94) (.const (.bool false)) (by kernel_rfl) (by decide) (by decide) rfl) hS2 ?_
  refine Pl.H.take 23 6 (.bool true) (by kernel_rfl) (by kernel_rfl) (by kernel_rfl) (Pl.free 23 (by kernel_rfl)) (Pl.assign 23 (.tmp 95) (by kernel_rfl) (by decide)) hS2 ?_
  refine Pl.H.done (by kernel_rfl) (fun A' hA' => ?_)
  rw [Pl.At.ext hA' ((((((((((((((((((((((((hA.put 73 _).put 74 _).put 75 _).put 76 _).put 77 _).put 78 _).put 79 _).put 80 _).put 81 _).put 82 _).put 83 _).put 84 _).put 85 _).put 86 _).put 87 _).put 88 _).put 89 _).put 90 _).put 91 _).put 92 _).put 93 _).put 94 _).put 95 _).put 6 _)]
  exact hend (fun d => if d = 73 then .int .i64 ((len1 : Nat) : Int) else if d = 74 then .slice a1 len1 cap1 else if d = 75 then .int .i64 ((len1 : Nat) : Int) else if d = 76 then .bool true else if d = 77 then .bool true else if d = 78 then .int .i64 0 else if d = 79 then .bool true else if d = 80 then .bool true else if d = 81 then .bool true else if d = 82 then .slice sa sl sc else if d = 83 then .string (bstr (xs ++ ys.take k)) else if d = 84 then .slice a0 len0 cap0 else if d = 85 then .string (bstr xs) else if d = 86 then .slice a1 len1 cap1 else if d = 87 then .int .i64 ((k : Nat) : Int) else if d = 88 then .slice (fromA a1 cap1 0) k cap1 else if d = 89 then .string (bstr (ys.take k)) else if d = 90 then .string (bstr (xs ++ ys.take k)) else if d = 91 then .bool true else if d = 92 then .bool true else if d = 93 then .bool true else if d = 94 then .bool true else if d = 95 then .bool true else undef) _ ((below_drew w).trans hb2)

theorem Ds.Plain.app_eq {D : Ds} (h : D.Plain) (b : List Nat) : D.append b = { D with ss := D.ss ++ b, ap := D.ap ++ b } := by
  unfold Ds.append Ds.spend Ds.spent
  simp [h.gone, h.armed]
theorem Ds.Plain.sync_eq {D : Ds} (h : D.Plain) : D.sync = { D with ks := D.ks ++ D.ap, kp := keepW [true] 0 D.wr D.kp, wr := [], ap := [], tr := [] } := by
  unfold Ds.sync
  rw [if_neg (by rw [h.gone]; decide)]
  unfold Ds.keep Ds.keepU
  rw [show D.tr.length = 0 by rw [h.tr]; rfl, if_pos rfl]
  simp only [Ds.mk.injEq, true_and, and_true]
  unfold Ds.units
  rw [h.tr]
  simp
/-- The device behind appended bytes, a sync, and appended bytes. -/
def tornD (xs ys : List Nat) : Ds := ⟨List.replicate (512 * 1) 0, 0, xs ++ ys, List.replicate (512 * 1) 0, 0, xs, [], ys, [], false, 0, false⟩
def tornD1 (xs : List Nat) : Ds := ⟨List.replicate (512 * 1) 0, 0, xs, List.replicate (512 * 1) 0, 0, [], [], xs, [], false, 0, false⟩
theorem tornD1_eq (xs : List Nat) : (Ds.new 1).append xs = tornD1 xs := by rw [Ds.new_plain.app_eq]; rfl
theorem tornD1_plain (xs : List Nat) : (tornD1 xs).Plain := ⟨List.length_replicate, rfl, rfl, rfl, rfl⟩
theorem tornD2_eq (xs : List Nat) : (tornD1 xs).sync = tornD xs [] := by
  rw [(tornD1_plain xs).sync_eq]
  simp only [tornD1, tornD, keepW, List.append_nil, List.nil_append]
theorem tornD_plain (xs ys : List Nat) : (tornD xs ys).Plain := ⟨List.length_replicate, rfl, rfl, rfl, rfl⟩
theorem tornD3_eq (xs ys : List Nat) : (tornD xs []).append ys = tornD xs ys := by
  rw [(tornD_plain xs []).app_eq]
  simp only [tornD, List.append_nil, List.nil_append]
theorem tornD_sane (xs ys : List Nat) (h : xs.length + ys.length ≤ 1000000) : (tornD xs ys).Sane 1 := ⟨List.length_replicate, List.length_replicate, by omega, by omega, (fun x hx => by cases hx), by show ([] : List Sw).length ≤ _; simp, h, by show ([] : List Tm).length ≤ _; simp⟩
theorem tornD1_sane (xs : List Nat) (h : xs.length ≤ 1000000) : (tornD1 xs).Sane 1 := ⟨List.length_replicate, List.length_replicate, by omega, by omega, (fun x hx => by cases hx), by show ([] : List Sw).length ≤ _; simp, by show ([] : List Nat).length + xs.length ≤ _; simpa using h, by show ([] : List Tm).length ≤ _; simp⟩

set_option maxHeartbeats 8000000 in
set_option maxRecDepth 100000 in
theorem torn_far (w : World) (a0 : Option Addr) (len0 cap0 : Nat) (a1 : Option Addr) (len1 cap1 : Nat) (u : Int) (hf : 500 < len0 ∨ 500 < len1) :
    Calls Try.prog 7 #[.slice a0 len0 cap0, .slice a1 len1 cap1, .int .i64 u] w fun e w' => e = .returned (.bool true) ∧ Below w.heap.size w w' := by
  have HN := hide (new_any w 1 (by omega) (by omega))
  have HAW : Hid (∀ w', Calls Try.prog 9 #[] w' fun e w2 => e = .returned (.bool true) ∧ Below w'.heap.size w' w2) := awake_any
  unfold at0 at *
  by_cases h0 : 500 < len0
  · have i0 : (500 : Int) < ((len0 : Nat) : Int) := by omega
    clear hf
    go_enter Try.func7, Try.ntmps7
    go_wp2_with fail
    refine HN.out.mono ?_
    rintro e w1 ⟨hb1, p, L1, rfl, hd1, hf1⟩
    have HB1 := hide hb1
    clear hb1 hd1 hf1
    have hnil : ∀ w : World, (binOp .eql 23 (.pointer (some ⟨p, 0, none⟩)) (.pointer none)).run Try.prog w = .ok (.bool false) w := fun _ => rfl
    have hnil2 : ∀ w : World, (binOp .neq 23 (.pointer (some ⟨p, 0, none⟩)) (.pointer none)).run Try.prog w = .ok (.bool true) w := fun _ => rfl
    go_wp2_with fail
    refine (HAW.out w1).mono ?_
    rintro e w2 ⟨rfl, hb2⟩
    have HB2 := hide (rBelow HB1.out hb2)
    clear hb2
    go_wp2_with fail
    go_ret
    exact ⟨rfl, HB2.out⟩
  · have i0 : ¬ (500 : Int) < ((len0 : Nat) : Int) := by omega
    have i1 : (500 : Int) < ((len1 : Nat) : Int) := by omega
    have i1' : 500 < len1 := by omega
    clear hf
    go_enter Try.func7, Try.ntmps7
    go_wp2_with fail
    refine HN.out.mono ?_
    rintro e w1 ⟨hb1, p, L1, rfl, hd1, hf1⟩
    have HB1 := hide hb1
    clear hb1 hd1 hf1
    have hnil : ∀ w : World, (binOp .eql 23 (.pointer (some ⟨p, 0, none⟩)) (.pointer none)).run Try.prog w = .ok (.bool false) w := fun _ => rfl
    have hnil2 : ∀ w : World, (binOp .neq 23 (.pointer (some ⟨p, 0, none⟩)) (.pointer none)).run Try.prog w = .ok (.bool true) w := fun _ => rfl
    go_wp2_with fail
    refine (HAW.out w1).mono ?_
    rintro e w2 ⟨rfl, hb2⟩
    have HB2 := hide (rBelow HB1.out hb2)
    clear hb2
    go_wp2_with fail
    go_ret
    exact ⟨rfl, HB2.out⟩

set_option maxHeartbeats 8000000 in
set_option maxRecDepth 100000 in
theorem torn_near (w : World) (a0 : Option Addr) (len0 cap0 : Nat) (a1 : Option Addr) (len1 cap1 : Nat) (u : Int) (xs ys : List Nat) (hx : Came w a0 len0 cap0 xs) (hy : Came w a1 len1 cap1 ys) (h0 : len0 ≤ 500) (h1 : len1 ≤ 500) :
    Calls Try.prog 7 #[.slice a0 len0 cap0, .slice a1 len1 cap1, .int .i64 u] w fun e w' => e = .returned (.bool true) ∧ Below w.heap.size w w' := by
  have HN := hide (new_any w 1 (by omega) (by omega))
  have hxl := hx.bs.1
  have hyl := hy.bs.1
  have hlt : ∀ {a : Option Addr} {len cap : Nat} {zs : List Nat}, Came w a len cap zs → ∀ ad, a = some ad → 0 < len → ad.block < w.heap.size := by
    intro a len cap zs hc ad e hl
    obtain ⟨b, off, e', hcell⟩ := hc.bs.2.2 0 hl
    rw [e] at e'
    obtain rfl := Option.some.inj e'
    exact World.block_lt_of_cell? w _ hcell
  have HA1 : Hid (∀ w' p L, Mine w.heap.size w w' p (Ds.new 1) L → Calls Try.prog 16 #[at0 p, .slice a0 len0 cap0] w' fun e w2 => e = .returned (.int .i64 0) ∧ ∃ L', Turned w' p L w2 (tornD1 xs) L') := fun w' p L M => by
    rw [← tornD1_eq]
    exact app_plain w' p _ L M.dev Ds.new_plain a0 len0 cap0 xs ⟨hx.bs.keep M.below (Nat.le_refl _), hx.nil, hx.le, hx.big⟩ (M.off (hlt hx)) (by simp [Ds.new]) (by simp [Ds.new]; omega)
  have HS : Hid (∀ w' p L, Mine w.heap.size w w' p (tornD1 xs) L → Calls Try.prog 20 #[at0 p] w' fun e w2 => e = .returned (.tuple #[]) ∧ ∃ L', Turned w' p L w2 (tornD xs []) L') := fun w' p L M => by
    rw [← tornD2_eq]
    exact sync_any w' p _ L M.dev 1 (tornD1_sane xs (by omega)) (fun _ => (tornD1 xs).fit0 rfl _ (Nat.le_refl _))
  have HA2 : Hid (∀ w' p L, Mine w.heap.size w w' p (tornD xs []) L → Calls Try.prog 16 #[at0 p, .slice a1 len1 cap1] w' fun e w2 => e = .returned (.int .i64 0) ∧ ∃ L', Turned w' p L w2 (tornD xs ys) L') := fun w' p L M => by
    rw [← tornD3_eq]
    exact app_plain w' p _ L M.dev (tornD_plain _ _) a1 len1 cap1 ys ⟨hy.bs.keep M.below (Nat.le_refl _), hy.nil, hy.le, hy.big⟩ (M.off (hlt hy)) (by show ([] : List Nat).length ≤ _; simp) (by show (xs ++ []).length + _ ≤ _; simp; omega)
  have HPD : Hid (∀ w' p L, Mine w.heap.size w w' p (tornD xs ys) L → Calls Try.prog 30 #[at0 p] w' fun e w2 => Below w'.heap.size w' w2 ∧ e = .returned (.tuple #[.int .i64 0, .int .i64 ((len1 : Nat) : Int)])) := fun w' p L M => by
    have := pending_any w' p _ L M.dev 1 (tornD_plain xs ys).sp (by omega) (by omega) (by show ys.length + 0 ≤ _; omega) (fun x hx => by cases hx)
    rw [← hyl]
    exact this
  obtain ⟨k, hk⟩ : ∃ k, k = (tornD xs ys).count u := ⟨_, rfl⟩
  have hkc : (u < 0 ∧ k = 0) ∨ (0 ≤ u ∧ u ≤ ((len1 : Nat) : Int) ∧ u = ((k : Nat) : Int)) ∨ (0 ≤ u ∧ ((len1 : Nat) : Int) < u ∧ k = len1) := by
    have hun : (tornD xs ys).units = len1 := by show ys.length + 0 = _; omega
    rw [hk]
    unfold Ds.count
    rw [hun]
    split
    · exact .inl ⟨by assumption, rfl⟩
    · split
      · exact .inr (.inl ⟨by omega, by assumption, by omega⟩)
      · exact .inr (.inr ⟨by omega, by omega, rfl⟩)
  have hkl : k ≤ len1 := by omega
  have HCR : Hid (∀ w' p L, Mine w.heap.size w w' p (tornD xs ys) L → Calls Try.prog 24 #[at0 p, .slice none 0 0, .int .i64 u] w' fun e w2 => e = .returned (.tuple #[]) ∧ ∃ L', Turned w' p L w2 ((tornD xs ys).crash [] k 0) L') := fun w' p L M =>
    crash_any w' p _ L M.dev 1 (tornD_sane xs ys (by omega)) none 0 0 [] ⟨rfl, fun i hi => by omega⟩ (fun ad e => by cases e) (by omega) u k 0 hk ((tornD xs ys).fit0 rfl k (by show k ≤ ys.length; omega))
  have HSR : Hid (∀ w' p L, Mine w.heap.size w w' p ((tornD xs ys).crash [] k 0) L → Calls Try.prog 27 #[at0 p] w' fun e w2 => Below w'.heap.size w' w2 ∧ ∃ a l c, e = .returned (.tuple #[.int .i64 0, .slice a l c]) ∧ Bs w2 a l (xs ++ ys.take k)) := fun w' p L M => by
    refine (stream_any w' p _ L M.dev 1 (by show (keepW [] 0 [] (List.replicate (512 * 1) 0)).length = _; simp [keepW]) (by omega) (by omega) (by show (xs ++ ys.take k).length ≤ _; simp; omega)).mono ?_
    rintro e w2 ⟨hb, s, rfl, ho, _, _⟩
    refine ⟨hb, s.a, s.len, s.cap, rfl, (ho.came (M.dev.byt .ss)).bs⟩
  have HX := hide hx
  have HY := hide hy
  have HZ : Hid (xs.length + ys.length ≤ 1000000) := by show _ ≤ _; omega
  generalize (tornD xs ys).crash [] k 0 = D4 at *
  generalize tornD xs ys = D3 at *
  generalize tornD xs [] = D2 at *
  generalize tornD1 xs = D1 at *
  clear hx hy hlt hk hxl hyl
  unfold at0 at *
  have i0 : ¬ (500 : Int) < ((len0 : Nat) : Int) := by omega
  have i1 : ¬ (500 : Int) < ((len1 : Nat) : Int) := by omega
  have i0' : ¬ 500 < len0 := by omega
  have i1' : ¬ 500 < len1 := by omega
  go_enter Try.func7, Try.ntmps7
  go_wp2_with fail
  refine HN.out.mono ?_
  rintro e w1 ⟨hb1, p, L1, rfl, hd1, hf1⟩
  have M1 := hide (Mine.mk hd1 hf1 hb1 hb1.size)
  clear hb1 hd1 hf1
  have hnil : ∀ w : World, (binOp .eql 23 (.pointer (some ⟨p, 0, none⟩)) (.pointer none)).run Try.prog w = .ok (.bool false) w := fun _ => rfl
  go_wp2_with fail
  refine (HA1.out w1 p L1 M1.out).mono ?_
  rintro e w2 ⟨rfl, L2, hT2⟩
  have M2 := hide (M1.out.turn hT2)
  clear hT2
  go_wp2_with fail
  refine (HS.out w2 p L2 M2.out).mono ?_
  rintro e w3 ⟨rfl, L3, hT3⟩
  have M3 := hide (M2.out.turn hT3)
  clear hT3
  go_wp2_with fail
  refine (HA2.out w3 p L3 M3.out).mono ?_
  rintro e w4 ⟨rfl, L4, hT4⟩
  have M4 := hide (M3.out.turn hT4)
  clear hT4
  go_wp2_with fail
  refine (HPD.out w4 p L4 M4.out).mono ?_
  rintro e w5 ⟨hb5, rfl⟩
  have M5 := hide (M4.out.keep hb5)
  clear hb5
  go_wp2_with fail
  refine (HCR.out w5 p L4 M5.out).mono ?_
  rintro e w6 ⟨rfl, L6, hT6⟩
  have M6 := hide (M5.out.turn hT6)
  clear hT6
  have HSR2 := hide (HSR.out w6 p L6 M6.out)
  clear HN HA1 HS HA2 HPD HCR HSR M1 M2 M3 M4 M5
  rcases hkc with ⟨q1, q2⟩ | ⟨q1, q2, q3⟩ | ⟨q1, q2, q3⟩
  · subst q2
    have r1 : ¬ ((len1 : Nat) : Int) < 0 := by omega
    go_wp2_with fail
    refine HSR2.out.mono ?_
    rintro e w7 ⟨hb7, sa, sl, sc, rfl, hs7⟩
    have M7 := hide (M6.out.keep hb7)
    have HS7 := hide hs7
    clear hb7 hs7
    go_wp2_with fail
    refine Pl.region_is (ops := Pl.find 15 ((Try.f7.body).getD .skip)) (by kernel_rfl) ?_
    refine torn15 w7 a0 len0 cap0 a1 len1 cap1 sa sl sc 0 xs ys HS7.out (HX.out.bs.keep M7.out.below (Nat.le_refl _)) (HY.out.bs.keep M7.out.below (Nat.le_refl _)) (by omega) HY.out.le HZ.out (by rfl) rfl (by rfl) (by rfl) (by rfl) (by rfl) (by rfl) (by rfl) ?_
    intro uu w8 hb8
    have HB8 := hide (M7.out.keep hb8).below
    clear hb8
    simp only [Act.put, List.setIfInBounds_toArray, List.set_cons_zero, List.set_cons_succ]
    go_wp2_with fail
    go_ret
    exact ⟨rfl, HB8.out⟩
  · subst q3
    have r1 : ¬ ((k : Nat) : Int) < 0 := by omega
    have r2 : ¬ ((len1 : Nat) : Int) < ((k : Nat) : Int) := by omega
    have r3 : ¬ len1 < k := by omega
    go_wp2_with fail
    refine HSR2.out.mono ?_
    rintro e w7 ⟨hb7, sa, sl, sc, rfl, hs7⟩
    have M7 := hide (M6.out.keep hb7)
    have HS7 := hide hs7
    clear hb7 hs7
    go_wp2_with fail
    refine Pl.region_is (ops := Pl.find 15 ((Try.f7.body).getD .skip)) (by kernel_rfl) ?_
    refine torn15 w7 a0 len0 cap0 a1 len1 cap1 sa sl sc k xs ys HS7.out (HX.out.bs.keep M7.out.below (Nat.le_refl _)) (HY.out.bs.keep M7.out.below (Nat.le_refl _)) (by omega) HY.out.le HZ.out (by rfl) rfl (by rfl) (by rfl) (by rfl) (by rfl) (by rfl) (by rfl) ?_
    intro uu w8 hb8
    have HB8 := hide (M7.out.keep hb8).below
    clear hb8
    simp only [Act.put, List.setIfInBounds_toArray, List.set_cons_zero, List.set_cons_succ]
    go_wp2_with fail
    go_ret
    exact ⟨rfl, HB8.out⟩
  · subst q3
    have r1 : ¬ u < 0 := by omega
    go_wp2_with fail
    refine HSR2.out.mono ?_
    rintro e w7 ⟨hb7, sa, sl, sc, rfl, hs7⟩
    have M7 := hide (M6.out.keep hb7)
    have HS7 := hide hs7
    clear hb7 hs7
    go_wp2_with fail
    refine Pl.region_is (ops := Pl.find 15 ((Try.f7.body).getD .skip)) (by kernel_rfl) ?_
    refine torn15 w7 a0 len0 cap0 a1 k cap1 sa sl sc k xs ys HS7.out (HX.out.bs.keep M7.out.below (Nat.le_refl _)) (HY.out.bs.keep M7.out.below (Nat.le_refl _)) (by omega) HY.out.le HZ.out (by rfl) rfl (by rfl) (by rfl) (by rfl) (by rfl) (by rfl) (by rfl) ?_
    intro uu w8 hb8
    have HB8 := hide (M7.out.keep hb8).below
    clear hb8
    simp only [Act.put, List.setIfInBounds_toArray, List.set_cons_zero, List.set_cons_succ]
    go_wp2_with fail
    go_ret
    exact ⟨rfl, HB8.out⟩
end Go.Proofs.Ytokdeilcfkobfaa
