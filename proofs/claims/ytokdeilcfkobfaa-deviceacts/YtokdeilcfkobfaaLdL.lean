/-
  The landed device: Write, whole.
-/
import Derived.Test.YtokdeilcfkobfaaLdK
namespace Go.Proofs.Ytokdeilcfkobfaa
open Go.RowKit

/-- The first sectors of a page. -/
def secs (at_ : Nat) (b : List Nat) (k : Nat) : List Sw := (List.range k).map fun i => ⟨at_ + 128 * i, (b.drop (128 * i)).take 128⟩
theorem secs_succ (at_ : Nat) (b : List Nat) (k : Nat) : secs at_ b (k + 1) = secs at_ b k ++ [⟨at_ + 128 * k, (b.drop (128 * k)).take 128⟩] := by simp [secs, List.range_succ]
theorem secs_ok (at_ : Nat) (b : List Nat) (k m : Nat) (hb : b.length = 512) (hx : Bytes b) (hk : k ≤ 4) (hm : at_ + 512 ≤ m) : ∀ x ∈ secs at_ b k, x.Ok m := by
  intro x hx'
  obtain ⟨i, hi, rfl⟩ := List.mem_map.1 hx'
  have hi' := List.mem_range.1 hi
  refine ⟨?_, (hx.drop _).take _, ?_⟩
  · simp only [List.length_take, List.length_drop]; omega
  · show at_ + 128 * i + 128 ≤ m; omega
/-- A device behind a page that is written. -/
def Ds.write0 (D : Ds) (k : Nat) (b : List Nat) : Ds := { D with sp := splice D.sp (512 * k) b }
def Ds.write (D : Ds) (k : Nat) (b : List Nat) : Ds := { (D.write0 k b).spend 4 with wr := D.wr ++ secs (512 * k) b ((D.write0 k b).spent 4) }

set_option maxHeartbeats 8000000 in
set_option maxRecDepth 100000 in
theorem write_ok (w : World) (p : Nat) (D : Ds) (L : Dl) (h : DevM w p D L) (n : Nat) (hn : D.sp.length = 512 * n) (hn2 : n ≤ 64) (hw : ∀ x ∈ D.wr, x.b.length = 128) (hm : D.wr.length ≤ 10000) (hl : D.armed = true → 0 ≤ D.left ∧ D.left ≤ 9223372036854775807)
    (k : Nat) (hk : k < n) (a : Option Addr) (cap : Nat) (ys : List Nat) (hy : Came w a 512 cap ys) (hoff : Off (L.F p) a 512) :
    Calls Try.prog 13 #[at0 p, .int .i64 ((k : Nat) : Int), .slice a 512 cap] w fun e w' => e = .returned (.int .i64 0) ∧ ∃ L', Turned w p L w' (D.write k ys) L' := by
  have HG := hide (has_any w p D L h n hn hn2 ((k : Nat) : Int))
  rw [decide_eq_true (show 0 ≤ ((k : Nat) : Int) ∧ ((k : Nat) : Int) < ((n : Nat) : Int) by omega)] at HG
  have hyl := hy.bs.1
  have hsl : D.sp.length = L.sp.len := h.len .sp
  have c0 := h.c0
  have hfrom := slice_from L.sp.a L.sp.len L.sp.cap (512 * k) (by omega)
  obtain ⟨n1, w1, hr1, ho1, hf1, _⟩ := own_copy w L.sp D.sp (h.own .sp) (512 * k) a 512 cap ys ys hy (by rw [List.take_of_length_le]; omega) (by omega) 3
  have hT1 := h.over .sp _ hf1 ho1 ((h.byt .sp).splice hy.bs.2.1 _) (D.write0 k ys) (by rfl) rfl (fun f hf => by cases f <;> first | rfl | exact absurd rfl hf) rfl rfl
  have HRC : Hid (∀ ty, (Builtin.copy_ #[30, 30] ty #[.slice (fromA L.sp.a L.sp.cap (512 * k)) (L.sp.len - 512 * k) (L.sp.cap - 512 * k), .slice a 512 cap]).run Try.prog w = .ok n1 w1) := fun ty => hr1
  have HSP := hide (spend_any w1 p _ L hT1.dev 4 hl (by omega))
  have hle4 := (D.write0 k ys).spent_le 4
  have HT1 := hide hT1
  have HY := hide hy
  have HOFF := hide hoff
  have HYL := hide hyl
  have HW := hide hw
  have hw1 : IntKind.i64.wrap (((k : Nat) : Int) * 512) = 512 * ((k : Nat) : Int) := by rw [IntKind.wrap_i64]; omega
  have HE : Hid (D.write k ys = { (D.write0 k ys).spend 4 with wr := D.wr ++ secs (512 * k) ys ((D.write0 k ys).spent 4) }) := rfl
  have HWR : Hid (((D.write0 k ys).spend 4).wr = D.wr) := (D.write0 k ys).spend_wr 4
  rw [show (((512 * k : Nat)) : Int) = 512 * ((k : Nat) : Int) by omega] at hfrom
  clear h hn hy hoff hyl hw hT1 ho1 hf1 hr1 hsl hl
  unfold at0 at *
  generalize hE : (D.write0 k ys).spend 4 = E at *
  generalize (D.write0 k ys).spent 4 = m at *
  clear hE
  go_enter Try.func13, Try.ntmps13
  go_wp2_with fail
  refine HG.out.mono ?_
  rintro e w' ⟨rfl, hw⟩
  obtain rfl := hw.symm
  go_wp2_with (refine wpList_copy _ rfl 30 (.tmp 25) (.tmp 26) rfl _ _ HRC.out ?_)
  refine HSP.out.mono ?_
  rintro e w2 ⟨rfl, hd2, hf2, _⟩
  have HT2 := hide (HT1.out.trans (Turned.cell hd2 hf2))
  clear hd2 hf2
  go_wp2_with fail
  go_loopw [30] (fun i wr => ∃ (j : Nat) (L' : Dl), j ≤ m ∧ i = .int .i64 j ∧ Hid (Turned w p L wr { E with wr := D.wr ++ secs (512 * k) ys j } L')) (fun i _ => m - (intOf i).toNat)
  case atStart =>
    refine ⟨0, L, by omega, rfl, ?_⟩
    have e : ({ E with wr := D.wr ++ secs (512 * k) ys 0 } : Ds) = E := by
      have : D.wr ++ secs (512 * k) ys 0 = E.wr := by rw [HWR.out]; simp [secs]
      rw [this]
    show Turned _ _ _ _ _ _
    rw [e]
    exact HT2.out
  case round =>
    obtain ⟨j, L', hj, rfl, hT⟩ := hrel
    rcases Nat.lt_or_ge j m with hlt | hge
    · have i1 : ((j : Nat) : Int) < ((m : Nat) : Int) := by omega
      have hmul : IntKind.i64.wrap (((j : Nat) : Int) * 128) = 128 * ((j : Nat) : Int) := by rw [IntKind.wrap_i64]; omega
      have hadd : IntKind.i64.wrap (512 * ((k : Nat) : Int) + 128 * ((j : Nat) : Int)) = 512 * ((k : Nat) : Int) + 128 * ((j : Nat) : Int) := by rw [IntKind.wrap_i64]; omega
      have hbld := sw_build (512 * ((k : Nat) : Int) + 128 * ((j : Nat) : Int))
      obtain ⟨x0, hx0⟩ : ∃ x0, x0 = 512 * k + 128 * j := ⟨_, rfl⟩
      have e0 : 512 * ((k : Nat) : Int) + 128 * ((j : Nat) : Int) = ((x0 : Nat) : Int) := by omega
      have hz := sw_zero x0
      rw [← e0] at hz
      rw [hz] at hbld
      obtain ⟨xz, hxz⟩ : ∃ xz : Sw, xz = ⟨x0, List.replicate 128 0⟩ := ⟨_, rfl⟩
      rw [← hxz] at hbld
      have HBL := hide hbld
      have HAL := hide (sw_alloc wr)
      have HST := hide (sw_store xz (by rw [hxz]; simp) wr)
      have hqn : ¬ L'.F p wr.heap.size := fun hk => by have := hT.out.dev.lt hk; omega
      obtain ⟨C, hC⟩ : ∃ C, C = (.cells xz.cells.toArray 78 : Obj) := ⟨_, rfl⟩
      rw [← hC] at HST
      have HTA := hide (hT.out.trans (Turned.same hT.out.dev (below_alloc wr C)))
      have HQ : Hid (SwBlk (wr.alloc C) wr.heap.size ⟨x0, List.replicate 128 0⟩) := by
        show SwBlk _ _ _
        rw [hC, hxz]
        exact heap_alloc_new wr _
      have HY2 := hide (HY.out.turned HOFF.out HTA.out)
      have HQN := hide hqn
      have HX0 := hide hx0
      clear hC hx0 e0 hz hbld hqn hxz
      go_wp2_with (first | refine wpList_build78 _ rfl 78 (.tmp 36) rfl (.int .i64 (512 * ((k : Nat) : Int) + 128 * ((j : Nat) : Int))) (.agg xz.cells.toArray) rfl HBL.out ?_ | refine wpList_alloc _ rfl 78 rfl (.pointer (some ⟨wr.heap.size, 0, none⟩)) _ HAL.out ?_ | refine wpList_store _ rfl rfl 78 (.tmp 9) (.tmp 37) rfl (.pointer (some ⟨wr.heap.size, 0, none⟩)) (.agg xz.cells.toArray) rfl rfl (wr.alloc C) HST.out ?_)
      simp only [Act.put, List.setIfInBounds_toArray, List.set_cons_zero, List.set_cons_succ]
      refine Pl.region_is (ops := Pl.find 11 ((Try.f13.body).getD .skip)) (by kernel_rfl) ?_
      refine write11 (wr.alloc C) wr.heap.size x0 j a 512 cap ys HY2.out rfl (by omega) HQ.out (by rfl) rfl (by rfl) (by rfl) (by rfl) ?_
      intro u11 w3 hq3 hf3
      have hfb : Frm (fun _ => False) wr w3 := ⟨hf3.os, hf3.tape, hf3.output, Nat.le_trans (below_alloc wr C).size hf3.size, fun k hk _ => (hf3.block k (Nat.lt_of_lt_of_le hk (below_alloc wr C).size) (fun e => by omega)).trans ((below_alloc wr C).block k hk)⟩
      have hd3 := hT.out.dev.frm hfb (fun _ _ e => e)
      have HT3 := hide (hT.out.trans ⟨hd3, hfb.mono (fun _ _ e => e.elim), fun k hk => .inl hk⟩)
      have HQ3 := hide hq3
      have HF3 := hide hf3
      clear hq3 hf3 hfb hd3
      simp only [Act.put, List.setIfInBounds_toArray, List.set_cons_zero, List.set_cons_succ]
      go_wp2_with fail
      refine Pl.region_is (ops := Pl.find 12 ((Try.f13.body).getD .skip)) (by kernel_rfl) ?_
      have hlen : ∀ x ∈ D.wr ++ secs (512 * k) ys j, x.b.length = 128 := by
        intro x hx
        rcases List.mem_append.1 hx with h1 | h1
        · exact HW.out x h1
        · exact (secs_ok (512 * k) ys j (512 * k + 512) HYL.out HY.out.bs.2.1 (by omega) (Nat.le_refl _) x h1).len
      refine write12 w3 p _ L' HT3.out.dev wr.heap.size _ HQ3.out (by
        have := HYL.out
        simp only [List.length_take, List.length_drop]; omega) hlen HQN.out (by
        show (D.wr ++ secs (512 * k) ys j).length ≤ _
        simp only [secs, List.length_append, List.length_map, List.length_range]; omega) (by rfl) rfl (by rfl) (by rfl) ?_
      rintro u12 w4 ⟨L4, hT4⟩
      have HT4 := hide (HT3.out.trans hT4)
      clear hT4 hlen
      simp only [Act.put, List.setIfInBounds_toArray, List.set_cons_zero, List.set_cons_succ]
      go_wp2_with fail
      go_roundw
      case rel =>
        refine ⟨j + 1, L4, by omega, by go_num, ?_⟩
        have e := HT4.out
        rw [HX0.out] at e
        show Turned _ _ _ _ _ _
        rw [secs_succ, ← List.append_assoc]
        exact e
      case measure => simp only [intOf]; omega
    · obtain rfl : j = m := by omega
      have i1 : ¬ ((j : Nat) : Int) < ((j : Nat) : Int) := by omega
      go_wp2_with fail
      go_ret
      rw [HE.out]
      exact ⟨rfl, L', hT.out⟩

end Go.Proofs.Ytokdeilcfkobfaa
