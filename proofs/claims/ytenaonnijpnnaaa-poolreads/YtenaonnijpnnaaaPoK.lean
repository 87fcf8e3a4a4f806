/-
  The walk of the law of reading, over what the landed pool says.
-/
import Derived.Test.YtenaonnijpnnaaaPoJ
namespace Go.Proofs.Ytenaonnijpnnaaa
open Go.RowKit
set_option maxRecDepth 100000
set_option linter.unusedVariables false

theorem new_con (f k : Nat) (hk : k < 6) : (Po.new (Ds.new 6) f).con k = List.replicate 512 0 := by
  show ((List.replicate (512 * 6) 0).drop (512 * k)).take 512 = _
  rw [List.drop_replicate, List.take_replicate]
  congr 1
  omega
theorem Po.Wet.con_bytes {P : Po} {n c : Nat} (h : P.Wet n c) (k : Nat) : Bytes (P.con k) := by
  unfold Po.con
  cases hm : P.m k with
  | none => exact h.dev.page_bytes k
  | some s => exact (h.sh k s hm).2.2
def BothG (g q k : Nat) : Prop := k = g ∨ k = q
/-- What stands between two rounds. -/
def ReadI (M : PoM) (w : World) (p d g j : Nat) (wr : World) : Prop := ∃ (P : Po) (ss : List ByteArray), Oug M w (fun k => k = g) wr p d P ∧ P.Fine 6 (32 * j) ∧ WasB wr g ss ∧ ∀ k, k < 6 → ss.getD k ByteArray.empty = bstr (P.con k)
/-- The strings while they are laid. -/
def WasI (M : PoM) (w : World) (p d g j : Nat) (P : Po) (wr : World) : Prop := ∃ ss : List ByteArray, Oug M w (fun k => k = g) wr p d P ∧ WasB wr g ss ∧ ∀ k, k < j → ss.getD k ByteArray.empty = bstr (List.replicate 512 0)
theorem getD_set_same (ss : List ByteArray) (k : Nat) (x : ByteArray) (h : k < ss.length) : (ss.set k x).getD k ByteArray.empty = x := by simp [List.getD, h]
theorem getD_set_other (ss : List ByteArray) {k j : Nat} (x : ByteArray) (h : j ≠ k) : (ss.set k x).getD j ByteArray.empty = ss.getD j ByteArray.empty := by simp [List.getD, Ne.symm h]
theorem WasB.keep {G : Nat → Prop} {w w' : World} {g : Nat} {ss : List ByteArray} (h : WasB w g ss) (hk : KeptG G w w') (hg : G g) : WasB w' g ss := ⟨h.1, (hk g hg).trans h.2⟩
def zeroWas : Array Value := #[.string ByteArray.empty, .string ByteArray.empty, .string ByteArray.empty, .string ByteArray.empty, .string ByteArray.empty, .string ByteArray.empty]
section
variable {ops : Array Oper} {rest : List Oper} {o : Oper} {a : Act} {Q : Exit → Act → World → Prop}
theorem wpList_buildP (w : World) (hgd : o.guard = none) (t : TypeId) (parts : Array (Nat × Operand)) (ho : o.op = .build t parts) (v : Value) (hrun : (Instr.build t (parts.map fun p => (p.1, a.eval p.2))).run Try.prog w = .ok v w) (hK : wpList Try.prog ops Q rest (a.put o.dst v) w) : wpList Try.prog ops Q (o :: rest) a w := by
  refine wpList_val w hgd v w ?_ hK
  have e : execOp a.eval o = (do pure (.value (← Instr.build t (parts.map fun p => (p.1, a.eval p.2))))) := by
    unfold execOp
    rw [ho]
  rw [e]
  simp [hrun]
end
theorem build_was (w : World) : (Instr.build 32 #[]).run Try.prog w = .ok (.agg zeroWas) w := by kernel_rfl
theorem alloc_was (w : World) : (Instr.alloc 32 true (.tuple #[])).run Try.prog w = .ok (.pointer (some ⟨w.heap.size, 0, none⟩)) (w.alloc (.cells zeroWas 32)) := by
  simp [go_sem, Instr.alloc]
  rfl
theorem store_was (w : World) : (Instr.storeAt 32 (.pointer (some ⟨w.heap.size, 0, none⟩)) (.agg zeroWas)).run Try.prog (w.alloc (.cells zeroWas 32)) = .ok () (w.alloc (.cells zeroWas 32)) :=
  run_storeAt_new w 32 zeroWas zeroWas (by kernel_rfl) rfl (by simp [zeroWas, Value.oneCell'])

set_option maxHeartbeats 16000000 in
set_option maxRecDepth 100000 in
theorem reads_walk {M : PoM} (S : PoolS M) (w : World) (fr : Nat) (hfr : fr ≤ 255) (a : Option Addr) (len cap : Nat) (l : List Ao) (hA : Acs w a len l) :
    Calls Try.prog 3 #[.int .u8 ((fr : Nat) : Int), .slice a len cap] w fun e w' => e = .returned (.bool true) ∧ Below w.heap.size w w' := by
  obtain ⟨k0, hk0⟩ : ∃ k, k = fr % 6 := ⟨_, rfl⟩
  obtain ⟨f, hf⟩ : ∃ f, f = k0 + 1 := ⟨_, rfl⟩
  have hf1 : 1 ≤ f := by omega
  have hf6 : f ≤ 6 := by omega
  have HN := hide (new_any w 6 (by omega) (by omega))
  have HPN : Hid (∀ w1 d L, Below w.heap.size w w1 → DevM w1 d (Ds.new 6) L → (∀ k, L.F d k → w.heap.size ≤ k) → Calls Try.prog 8 #[at0 d, .int .i64 ((f : Nat) : Int)] w1 fun e w' => ∃ p, e = .returned (.tuple #[at0 p, .int .i64 0]) ∧ Our M w w' p d (Po.new (Ds.new 6) f)) := fun w1 d L hb hd hf => our_new S (n := 6) w f (by omega) (by omega) hf1 (by omega) d w1 L hb hd hf
  have HFN := hide (Po.Fine.new (n := 6) (f := f) (by omega) (by omega) hf1 (by omega))
  have HCN := hide (new_con f)
  have HAW : Hid (∀ w', Calls Try.prog 10 #[] w' fun e w2 => e = .returned (.bool true) ∧ Below w'.heap.size w' w2) := fun w' => awakeP_any S w'
  have HS := hide S
  have HA := hide hA
  have hbig := hA.big
  have HNK : Hid ((1 : Int) + ((k0 : Nat) : Int) = ((f : Nat) : Int)) := by show _ = _; omega
  have hcv : ∀ w : World, (convert 5 3 (.int .u8 (((fr : Nat) : Int) % 6))).run Try.prog w = .ok (.int .i64 ((k0 : Nat) : Int)) w := by
    intro w
    have e1 : ((fr : Nat) : Int) % 6 = ((k0 : Nat) : Int) := by omega
    have e2 : IntKind.i64.wrap ((k0 : Nat) : Int) = ((k0 : Nat) : Int) := by rw [IntKind.wrap_i64]; omega
    simp [go_sem, e1, e2]
  have hk06 : k0 < 6 := by omega
  clear hk0 hf hA S
  unfold at0 at *
  go_enter Try.func3, Try.ntmps3
  go_wp2_with fail
  refine HN.out.mono ?_
  rintro e w1 ⟨hb1, d, L1, rfl, hd1, hf1'⟩
  have HPN1 := hide (HPN.out w1 d L1 hb1 hd1 hf1')
  clear hb1 hd1 hf1' HPN HN
  go_wp2_with fail
  simp only [HNK.out]
  refine HPN1.out.mono ?_
  rintro e w2 ⟨p, rfl, ho⟩
  have O2 := hide ho
  clear ho HPN1 HNK hcv
  have hnil : ∀ w : World, (binOp .eql 27 (.pointer (some ⟨p, 0, none⟩)) (.pointer none)).run Try.prog w = .ok (.bool false) w := fun _ => rfl
  have hnil2 : ∀ w : World, (binOp .neq 27 (.pointer (some ⟨p, 0, none⟩)) (.pointer none)).run Try.prog w = .ok (.bool true) w := fun _ => rfl
  have HLI := hide (light_any w2 a len cap l (HA.out.keep O2.out.below))
  go_wp2_with fail
  refine HLI.out.mono ?_
  rintro e w2' ⟨rfl, r, rfl, hr⟩
  clear hr HLI
  cases r
  · go_wp2_with fail
    refine (HAW.out _).mono ?_
    rintro e w3 ⟨rfl, hb3⟩
    have HB3 := hide (O2.out.below.trans (hb3.mono O2.out.below.size))
    clear hb3
    go_wp2_with fail
    go_ret
    exact ⟨rfl, HB3.out⟩
  have HAl := hide (alloc_was w2')
  have HSt := hide (store_was w2')
  have HBu := hide build_was
  have hba := below_alloc w2' (.cells zeroWas 32)
  have hnw : (w2'.alloc (.cells zeroWas 32)).heap[w2'.heap.size]? = some (.cells zeroWas 32 (0, 0)) := heap_alloc_new w2' _
  have HGW : Hid (w.heap.size ≤ w2'.heap.size) := hide O2.out.below.size
  generalize hP0 : Po.new (Ds.new 6) f = P0 at *
  have HWI : Hid (WasI M w p d w2'.heap.size 0 P0 (w2'.alloc (.cells zeroWas 32))) := by
    refine hide ⟨List.replicate 6 ByteArray.empty, ?_, ⟨rfl, hnw.trans rfl⟩, fun k hk => by omega⟩
    exact ((O2.out.oug).more HS.out hba (Nat.le_refl _) (by have := (Array.getElem?_eq_some_iff.1 hnw).1; exact this)).mono (fun k hk => .inr hk)
  obtain ⟨W3, hW3⟩ : ∃ W3, W3 = w2'.alloc (.cells zeroWas 32) := ⟨_, rfl⟩
  rw [← hW3] at HAl HSt HWI
  clear hba hnw hW3 hP0 O2
  obtain ⟨g, hg⟩ : ∃ g, g = w2'.heap.size := ⟨_, rfl⟩
  rw [← hg] at HAl HSt HWI HGW
  clear hg
  go_wp2_with (first | refine wpList_buildP _ rfl 32 #[] rfl _ (HBu.out _) ?_ | refine wpList_alloc _ rfl 32 rfl _ _ HAl.out ?_ | refine wpList_store _ rfl rfl 32 (.tmp 9) (.tmp 56) rfl (.pointer (some ⟨g, 0, none⟩)) (.agg zeroWas) rfl rfl _ HSt.out ?_)
  clear HAl HSt HBu
  go_loopw [10] (fun i wr => ∃ j : Nat, j ≤ 6 ∧ i = .int .i64 j ∧ Hid (WasI M w p d g j P0 wr)) (fun i _ => 6 - (intOf i).toNat)
  case atStart => exact ⟨0, by omega, rfl, HWI⟩
  case round =>
    obtain ⟨j, hj, rfl, hWI⟩ := hrel
    clear HWI
    by_cases hlt : j < 6
    · have i5 : ((j : Nat) : Int) < 6 := by omega
      obtain ⟨ss, hou, hwb, hall⟩ := hWI.out
      have HM1 := hide (make_bytes 512 (by omega) wr)
      have hb1 := below_alloc wr (.cells (vals (List.replicate 512 0)).toArray 5)
      have HC1 := hide (run_string_of 512 ((own_made wr 512 (by omega) (List.replicate 512 0) (by simp)).came (bytes_zero 512)).bs)
      obtain ⟨ou1, kp1⟩ := hou.keep HS.out hb1
      have hwb1 := hwb.keep kp1 rfl
      have HS1 := hide (stStr hwb1 j hlt (bstr (List.replicate 512 0)))
      have HWI2 : Hid (WasI M w p d g (j + 1) P0 ((wr.alloc (.cells (vals (List.replicate 512 0)).toArray 5)).setCell ⟨g, j, none⟩ (.string (bstr (List.replicate 512 0))))) := by
        refine hide ⟨ss.set j (bstr (List.replicate 512 0)), ou1.store HS.out rfl HGW.out _, hwb1.set j _, fun k hk => ?_⟩
        by_cases e : k = j
        · rw [e]; exact getD_set_same _ _ _ (by rw [hwb.1]; exact hlt)
        · rw [getD_set_other _ _ e]; exact hall k (by omega)
      have hix := ixWas g j hlt
      generalize (.cells (vals (List.replicate 512 0)).toArray 5 : Obj) = C1 at *
      generalize bstr (List.replicate 512 0) = zz at *
      clear hou hwb hall hb1 ou1 kp1 hwb1 hWI
      go_wp2_with (first | refine wpList_make _ rfl 33 (.const (.int .i64 512)) (.const (.int .i64 512)) rfl (.int .i64 512) (.int .i64 512) (.slice (some ⟨wr.heap.size, 0, none⟩) 512 512) rfl rfl (wr.alloc C1) HM1.out ?_ | refine wpList_convP _ rfl 33 9 (.tmp 62) rfl (.slice (some ⟨wr.heap.size, 0, none⟩) 512 512) (.string zz) rfl _ HC1.out ?_ | refine wpList_store _ rfl rfl 9 (.tmp 64) (.tmp 63) rfl (.pointer (some ⟨g, j, none⟩)) (.string zz) rfl rfl _ HS1.out ?_)
      go_roundw
      case rel => exact ⟨j + 1, by omega, by go_num, HWI2⟩
      case measure => simp only [intOf]; omega
    · have i5 : ¬ ((j : Nat) : Int) < 6 := by omega
      have HRI : Hid (ReadI M w p d g 0 wr) := by
        obtain rfl : j = 6 := by omega
        obtain ⟨ss, hou, hwb, hall⟩ := hWI.out
        exact hide ⟨P0, ss, hou, HFN.out, hwb, fun k hk => by rw [hall k hk, HCN.out k hk]⟩
      clear hWI HFN HCN hlt hj
      generalize ((j : Nat) : Int) = z6 at *
      go_wp2_with fail
      go_loopw [11] (fun i wr => ∃ j : Nat, j ≤ len ∧ j ≤ 80 ∧ i = .int .i64 j ∧ Hid (ReadI M w p d g j wr)) (fun i _ => len - (intOf i).toNat)
      case atStart => exact ⟨0, by omega, by omega, rfl, HRI⟩
      case round =>
        obtain ⟨j, hj, hj4, rfl, hSt⟩ := hrel
        clear HRI
        by_cases hgo : j < len ∧ j < 80
        · obtain ⟨hlt, hlt4⟩ := hgo
          have i5 : ((j : Nat) : Int) < ((len : Nat) : Int) := by omega
          have i6 : ((j : Nat) : Int) < 80 := by omega
          obtain ⟨P, ss, ho, hfi, hwb, hss⟩ := hSt.out
          obtain ⟨b, off, ha, hat⟩ := (HA.out.keep ho.below).at_ j hlt
          obtain ⟨t, ht⟩ : ∃ t, t = l.getD j aoD := ⟨_, rfl⟩
          rw [← ht] at hat
          have HIN := hide hat.inn
          have HQN : Hid (wr.heap.size ≠ g) := hide (fun e => by have := (Array.getElem?_eq_some_iff.1 hwb.2).1; omega)
          have HCW : Hid (∀ w4, Below w.heap.size w w4 → Came w4 t.b.a t.b.len t.b.cap t.bs) := by
            obtain ⟨b', off', ha', hat'⟩ := HA.out.at_ j hlt
            rw [← ht] at hat'
            exact hide (fun w4 hb4 => (hat'.inn.keep hb4).b)
          have HLD := hide (load_ao b (off + j * 5) t wr hat)
          have HSA := hide (store_acNew t.x t.b t.q wr)
          have hba := below_alloc wr (.cells (t.x.cells t.b t.q) 36)
          have hbx : AcBlk (wr.alloc (.cells (t.x.cells t.b t.q) 36)) wr.heap.size t.x t.b t.q := heap_alloc_new wr _
          have hlt' := (Array.getElem?_eq_some_iff.1 hbx).1
          have O3 := hide ((ho.more HS.out hba (Nat.le_refl _) hlt').mono (G' := BothG g wr.heap.size) (fun k hk => hk))
          have WB3 := hide (hwb.keep (ho.keep HS.out hba).2 rfl)
          have BX3 := hide hbx
          have F3 := hide hfi
          have SS3 := hide hss
          have e0 := hbx.c0
          have e1 := hbx.c1
          have e2 := hbx.c2
          have HINW := hide (HIN.out.keep hba)
          have HRS : Hid (∀ w4, Below (wr.alloc (.cells (t.x.cells t.b t.q) 36)).heap.size (wr.alloc (.cells (t.x.cells t.b t.q) 36)) w4 → ReadI M w p d g (j + 1) w4) := by
            refine hide (fun w4 hb4 => ⟨P, ss, ?_, hfi.more (by omega) (by omega), ?_, hss⟩)
            · exact ((O3.out.keep HS.out hb4).1).mono (fun k hk => .inl hk)
            · exact WB3.out.keep (O3.out.keep HS.out hb4).2 (.inl rfl)
          obtain ⟨W1, hW1⟩ : ∃ W1, W1 = wr.alloc (.cells (t.x.cells t.b t.q) 36) := ⟨_, rfl⟩
          rw [← hW1] at HSA O3 WB3 BX3 e0 e1 e2 HINW HRS
          clear hat ht ho hfi hwb hss hSt hba hbx hlt' hW1
          subst ha
          have HGN := HQN
          by_cases hpg : 0 ≤ t.x.pg ∧ t.x.pg ≤ 5
          · obtain ⟨k, hk⟩ : ∃ k : Nat, t.x.pg = ((k : Nat) : Int) := ⟨t.x.pg.toNat, by omega⟩
            rw [hk] at e1 hpg
            have i7 : ¬ ((k : Nat) : Int) < 0 := by omega
            have i8 : ¬ (5 : Int) < ((k : Nat) : Int) := by omega
            have hk6 : k < 6 := by omega
            clear hpg HRS
            by_cases c1 : t.x.do_ = 1
            · rw [c1] at e0
              have hbd := below_drew W1
              obtain ⟨O3d, K3d⟩ := O3.out.keep HS.out hbd
              have HPAGE : Hid (Calls Try.prog 12 #[.slice t.b.a t.b.len t.b.cap] W1.drew fun e w2 => e = .returned (.slice (some ⟨W1.drew.heap.size, 0, none⟩) 512 512) ∧ (Below W1.drew.heap.size W1.drew w2 ∧ Came w2 (some ⟨W1.drew.heap.size, 0, none⟩) 512 512 (pageOf t.bs))) := hide ((page_any W1.drew t.b.a t.b.len t.b.cap t.bs ((HINW.out.keep hbd).b)).mono (by rintro e w2 ⟨x1, x2, x3⟩; exact ⟨x2, x1, x3⟩))
              have HPB := hide (pageOf_bytes t.bs HIN.out.b.bs.2.1)
              have hB3d : AcBlk W1.drew wr.heap.size t.x t.b t.q := BX3.out.keepG K3d (.inr rfl)
              have HR17 : Hid (∀ {Q : Exit → Act → World → Prop} {A0 : Act}, _) := fun {Q A0} => reads17 W1 p wr.heap.size ((k : Nat) : Int) t.b.a t.b.len t.b.cap (some ⟨W1.drew.heap.size, 0, none⟩)
                (fun w2 => Below W1.drew.heap.size W1.drew w2 ∧ Came w2 (some ⟨W1.drew.heap.size, 0, none⟩) 512 512 (pageOf t.bs))
                (fun w3 => Oug M w (BothG g wr.heap.size) w3 p d (P.set k (pageOf t.bs) 0) ∧ KeptG (BothG g wr.heap.size) W1.drew w3)
                ⟨e1, e2⟩ HPAGE.out
                (fun w2 hw2 => by
                  have hb := hB3d.keepG (O3d.keep HS.out hw2.1).2 (.inr rfl)
                  exact ⟨by rw [← hk]; exact hb.c1, hb.c2⟩)
                (fun w2 hw2 => oug_put HS.out O3d F3.out k hk6 w2 hw2.1 _ 512 (Nat.le_refl _) _ hw2.2 0 (by decide))
                (fun w3 hw3 => by
                  have hb := hB3d.keepG hw3.2 (.inr rfl)
                  exact ⟨by rw [← hk]; exact hb.c1, hb.c2⟩) (Q := Q) (A := A0)
              clear hbd
              go_wp2_with (first | refine wpList_load _ rfl 36 (.tmp 77) rfl (.pointer (some ⟨b, off + j * 5, none⟩)) (.agg (t.x.cells t.b t.q)) rfl HLD.out ?_ | refine wpList_store _ rfl rfl 36 (.tmp 12) (.tmp 78) rfl (.pointer (some ⟨wr.heap.size, 0, none⟩)) (.agg (t.x.cells t.b t.q)) rfl rfl _ HSA.out ?_)
              refine Pl.region_is (ops := Pl.find 17 ((Try.f3.body).getD .skip)) (by kernel_rfl) ?_
              refine HR17.out (by rfl) rfl (by rfl) (by rfl) ?_
              rintro uu w3 ⟨ho3, hk3⟩
              simp only [Act.put, List.setIfInBounds_toArray, List.set_cons_zero, List.set_cons_succ]
              have F4 : Hid ((P.set k (pageOf t.bs) 0).Fine 6 (32 * j + 28)) := hide ((F3.out.set (by omega) hk6 (pageOf_length _) HPB.out 0).more (by omega) (by omega))
              have HC4 := hide (F3.out.ok.set hk6 (pageOf_length t.bs) 0).2.1
              have BXb := hide (hB3d.keepG hk3 (.inr rfl))
              have WBb := hide (((WB3.out.keep K3d (.inl rfl)).keep hk3 (.inl rfl)))
              have hbd3 := below_drew w3
              obtain ⟨O3e, K3e⟩ := ho3.keep HS.out hbd3
              have HPAGE2 : Hid (Calls Try.prog 12 #[.slice t.b.a t.b.len t.b.cap] w3.drew fun e w2 => e = .returned (.slice (some ⟨w3.drew.heap.size, 0, none⟩) 512 512) ∧ (Below w3.drew.heap.size w3.drew w2 ∧ Came w2 (some ⟨w3.drew.heap.size, 0, none⟩) 512 512 (pageOf t.bs))) := hide ((page_any w3.drew t.b.a t.b.len t.b.cap t.bs (HCW.out w3.drew O3e.below)).mono (by rintro e w2 ⟨x1, x2, x3⟩; exact ⟨x2, x1, x3⟩))
              have HR19 : Hid (∀ {Q : Exit → Act → World → Prop} {A0 : Act}, _) := fun {Q A0} => reads19 w3 g wr.heap.size k hk6 t.b.a t.b.len t.b.cap (some ⟨w3.drew.heap.size, 0, none⟩) (pageOf t.bs) ss
                (fun w2 => Below w3.drew.heap.size w3.drew w2 ∧ Came w2 (some ⟨w3.drew.heap.size, 0, none⟩) 512 512 (pageOf t.bs))
                ⟨by rw [← hk]; exact BXb.out.c1, BXb.out.c2⟩ HPAGE2.out
                (fun w2 hw2 => by
                  have hb : AcBlk w2 wr.heap.size t.x t.b t.q := (BXb.out.keepG K3e (.inr rfl)).keepG (O3e.keep HS.out hw2.1).2 (.inr rfl)
                  have hwb : WasB w2 g ss := (WBb.out.keep K3e (.inl rfl)).keep (O3e.keep HS.out hw2.1).2 (.inl rfl)
                  have hb2 : AcBlk (w2.setCell ⟨g, k, none⟩ (.string (bstr (pageOf t.bs)))) wr.heap.size t.x t.b t.q := (Below.heap_setCell w2 ⟨g, k, none⟩ _ wr.heap.size HGN.out).trans hb
                  exact ⟨⟨by rw [← hk]; exact hb.c1, hb.c2⟩, ⟨by rw [← hk]; exact hb2.c1, hb2.c2⟩, hw2.2.bs, hwb⟩) (Q := Q) (A := A0)
              have HO3E := hide O3e
              have HK3E := hide K3e
              clear hB3d ho3 hk3 hbd3 O3d K3d O3e K3e HR17 HPAGE
              go_wp2_with fail
              refine Pl.region_is (ops := Pl.find 19 ((Try.f3.body).getD .skip)) (by kernel_rfl) ?_
              refine HR19.out (by rfl) rfl (by rfl) (by rfl) ?_
              rintro uu3 w4 w2b ⟨hw4, hb2b, _⟩
              obtain ⟨O4a, K4a⟩ := HO3E.out.keep HS.out hb2b
              have O4 : Hid (Oug M w (BothG g wr.heap.size) w4 p d (P.set k (pageOf t.bs) 0)) := by rw [hw4]; exact hide (O4a.store HS.out (.inl rfl) HGW.out _)
              have BX4 : Hid (AcBlk w4 wr.heap.size t.x t.b t.q) := by rw [hw4]; exact hide ((Below.heap_setCell w2b ⟨g, k, none⟩ _ wr.heap.size HGN.out).trans ((BXb.out.keepG HK3E.out (.inr rfl)).keepG K4a (.inr rfl)))
              obtain ⟨ss4, hss4⟩ : ∃ ss4, ss4 = ss.set k (bstr (pageOf t.bs)) := ⟨_, rfl⟩
              have WB4 : Hid (WasB w4 g ss4) := by rw [hw4, hss4]; exact hide (((WBb.out.keep HK3E.out (.inl rfl)).keep K4a (.inl rfl)).set k _)
              have SS4 : Hid (∀ i, i < 6 → ss4.getD i ByteArray.empty = bstr ((P.set k (pageOf t.bs) 0).con i)) := by
                refine hide (fun i hi => ?_)
                rw [hss4, HC4.out i hi]
                by_cases e : i = k
                · rw [e, if_pos rfl]; exact getD_set_same _ _ _ (by rw [WB3.out.1]; exact hk6)
                · rw [if_neg e, getD_set_other _ _ e]; exact SS3.out i hi
              generalize P.set k (pageOf t.bs) 0 = P4 at *
              clear hw4 hb2b O4a K4a hss4 HR19 HPAGE2 HPB HO3E HK3E BXb WBb HC4 O3 WB3 BX3 SS3 F3 e0 e1 e2
              have HR := hide (oug_read HS.out O4.out F4.out k hk6)
              have F5 := hide ((F4.out.letIn (by omega) hk6).more (c' := 32 * (j + 1)) (by omega) (by omega))
              have HL5 := hide (F4.out.ok.letIn hk6).con
              have z1 := BX4.out.c1
              rw [hk] at z1
              unfold at0 at HR
              simp only [Act.put, List.setIfInBounds_toArray, List.set_cons_zero, List.set_cons_succ]
              go_wp2_with fail
              refine HR.out.mono ?_
              rintro e w5 ⟨⟨ho5, hk5⟩, s5, rfl, hown5, hl5⟩
              have hcm := hown5.came (F5.out.wet.con_bytes k)
              have hcg := (WB4.out.keep hk5 (.inl rfl)).at_ k hk6
              rw [SS4.out k hk6, ← HL5.out k hk6] at hcg
              have hcq := (BX4.out.keepG hk5 (.inr rfl)).c1
              rw [hk] at hcq
              obtain ⟨a5, l5, c5⟩ := s5
              simp only at hl5
              subst hl5
              have H25 : Hid (∀ {Q : Exit → Act → World → Prop} {A : Act}, _) := fun {Q A} => reads25 w5 g wr.heap.size k hk6 a5 c5 _ hcq hcm.bs hcg (Q := Q) (A := A)
              have HRI2 : Hid (ReadI M w p d g (j + 1) w5.drew) := by
                have ob := ho5.keep HS.out (below_drew w5)
                refine hide ⟨_, ss4, ob.1.mono (fun k hk => .inl hk), F5.out, (WB4.out.keep hk5 (.inl rfl)).keep ob.2 (.inl rfl), fun i hi => ?_⟩
                rw [SS4.out i hi, ← HL5.out i hi]
              clear ho5 hk5 hown5 hcm hcg hcq HR z1
              unfold Sl.val
              go_wp2_with fail
              refine Pl.region_is (ops := Pl.find 25 ((Try.f3.body).getD .skip)) (by kernel_rfl) ?_
              refine H25.out (by rfl) rfl (by rfl) (by rfl) (by rfl) (by rfl) ?_
              intro uu2 w' hw'
              subst hw'
              simp only [Act.put, List.setIfInBounds_toArray, List.set_cons_zero, List.set_cons_succ]
              go_wp2_with fail
              go_roundw
              case rel => exact ⟨j + 1, by omega, by omega, by go_num, HRI2⟩
              case measure => simp only [intOf]; omega
            by_cases c3 : t.x.do_ = 3
            · rw [c3] at e0
              have HRa := hide (oug_flush HS.out O3.out F3.out)
              have F4 : Hid ((P.flush 6).Fine 6 (32 * j + 28)) := hide ((F3.out.flush (by omega)).more (by omega) (by omega))
              have SS4 : Hid (∀ i, i < 6 → ss.getD i ByteArray.empty = bstr ((P.flush 6).con i)) := hide (fun i hi => by rw [F3.out.ok.flush.1.con i hi]; exact SS3.out i hi)
              unfold at0 at HRa
              go_wp2_with (first | refine wpList_load _ rfl 36 (.tmp 77) rfl (.pointer (some ⟨b, off + j * 5, none⟩)) (.agg (t.x.cells t.b t.q)) rfl HLD.out ?_ | refine wpList_store _ rfl rfl 36 (.tmp 12) (.tmp 78) rfl (.pointer (some ⟨wr.heap.size, 0, none⟩)) (.agg (t.x.cells t.b t.q)) rfl rfl _ HSA.out ?_)
              refine HRa.out.mono ?_
              rintro e w4 ⟨⟨ho4, hk4⟩, r4, rfl⟩
              have O4 := hide ho4
              have BX4 := hide (BX3.out.keepG hk4 (.inr rfl))
              have WB4 := hide (WB3.out.keep hk4 (.inl rfl))
              obtain ⟨ss4, hss4⟩ : ∃ ss4, ss4 = ss := ⟨_, rfl⟩
              rw [← hss4] at WB4 SS4
              generalize P.flush 6 = P4 at *
              clear ho4 hk4 hss4 HRa O3 WB3 BX3 SS3 F3 e0 e1 e2
              have HR := hide (oug_read HS.out O4.out F4.out k hk6)
              have F5 := hide ((F4.out.letIn (by omega) hk6).more (c' := 32 * (j + 1)) (by omega) (by omega))
              have HL5 := hide (F4.out.ok.letIn hk6).con
              have z1 := BX4.out.c1
              rw [hk] at z1
              unfold at0 at HR
              go_wp2_with fail
              refine HR.out.mono ?_
              rintro e w5 ⟨⟨ho5, hk5⟩, s5, rfl, hown5, hl5⟩
              have hcm := hown5.came (F5.out.wet.con_bytes k)
              have hcg := (WB4.out.keep hk5 (.inl rfl)).at_ k hk6
              rw [SS4.out k hk6, ← HL5.out k hk6] at hcg
              have hcq := (BX4.out.keepG hk5 (.inr rfl)).c1
              rw [hk] at hcq
              obtain ⟨a5, l5, c5⟩ := s5
              simp only at hl5
              subst hl5
              have H25 : Hid (∀ {Q : Exit → Act → World → Prop} {A : Act}, _) := fun {Q A} => reads25 w5 g wr.heap.size k hk6 a5 c5 _ hcq hcm.bs hcg (Q := Q) (A := A)
              have HRI2 : Hid (ReadI M w p d g (j + 1) w5.drew) := by
                have ob := ho5.keep HS.out (below_drew w5)
                refine hide ⟨_, ss4, ob.1.mono (fun k hk => .inl hk), F5.out, (WB4.out.keep hk5 (.inl rfl)).keep ob.2 (.inl rfl), fun i hi => ?_⟩
                rw [SS4.out i hi, ← HL5.out i hi]
              clear ho5 hk5 hown5 hcm hcg hcq HR z1
              unfold Sl.val
              go_wp2_with fail
              refine Pl.region_is (ops := Pl.find 25 ((Try.f3.body).getD .skip)) (by kernel_rfl) ?_
              refine H25.out (by rfl) rfl (by rfl) (by rfl) (by rfl) (by rfl) ?_
              intro uu2 w' hw'
              subst hw'
              simp only [Act.put, List.setIfInBounds_toArray, List.set_cons_zero, List.set_cons_succ]
              go_wp2_with fail
              go_roundw
              case rel => exact ⟨j + 1, by omega, by omega, by go_num, HRI2⟩
              case measure => simp only [intOf]; omega
            by_cases c4 : t.x.do_ = 4
            · rw [c4] at e0
              have HRa := hide (oug_evict HS.out O3.out F3.out ((k : Nat) : Int) (wf_page k (by omega)))
              obtain ⟨v1, v2, _⟩ := F3.out.evictAny (by omega) ((k : Nat) : Int)
              have F4 : Hid ((P.evictAny ((k : Nat) : Int)).Fine 6 (32 * j + 28)) := hide (v1.more (by omega) (by omega))
              have SS4 : Hid (∀ i, i < 6 → ss.getD i ByteArray.empty = bstr ((P.evictAny ((k : Nat) : Int)).con i)) := hide (fun i hi => by rw [v2 i hi]; exact SS3.out i hi)
              clear v1 v2
              unfold at0 at HRa
              go_wp2_with (first | refine wpList_load _ rfl 36 (.tmp 77) rfl (.pointer (some ⟨b, off + j * 5, none⟩)) (.agg (t.x.cells t.b t.q)) rfl HLD.out ?_ | refine wpList_store _ rfl rfl 36 (.tmp 12) (.tmp 78) rfl (.pointer (some ⟨wr.heap.size, 0, none⟩)) (.agg (t.x.cells t.b t.q)) rfl rfl _ HSA.out ?_)
              refine HRa.out.mono ?_
              rintro e w4 ⟨⟨ho4, hk4⟩, r4, rfl⟩
              have O4 := hide ho4
              have BX4 := hide (BX3.out.keepG hk4 (.inr rfl))
              have WB4 := hide (WB3.out.keep hk4 (.inl rfl))
              obtain ⟨ss4, hss4⟩ : ∃ ss4, ss4 = ss := ⟨_, rfl⟩
              rw [← hss4] at WB4 SS4
              generalize P.evictAny ((k : Nat) : Int) = P4 at *
              clear ho4 hk4 hss4 HRa O3 WB3 BX3 SS3 F3 e0 e1 e2
              have HR := hide (oug_read HS.out O4.out F4.out k hk6)
              have F5 := hide ((F4.out.letIn (by omega) hk6).more (c' := 32 * (j + 1)) (by omega) (by omega))
              have HL5 := hide (F4.out.ok.letIn hk6).con
              have z1 := BX4.out.c1
              rw [hk] at z1
              unfold at0 at HR
              go_wp2_with fail
              refine HR.out.mono ?_
              rintro e w5 ⟨⟨ho5, hk5⟩, s5, rfl, hown5, hl5⟩
              have hcm := hown5.came (F5.out.wet.con_bytes k)
              have hcg := (WB4.out.keep hk5 (.inl rfl)).at_ k hk6
              rw [SS4.out k hk6, ← HL5.out k hk6] at hcg
              have hcq := (BX4.out.keepG hk5 (.inr rfl)).c1
              rw [hk] at hcq
              obtain ⟨a5, l5, c5⟩ := s5
              simp only at hl5
              subst hl5
              have H25 : Hid (∀ {Q : Exit → Act → World → Prop} {A : Act}, _) := fun {Q A} => reads25 w5 g wr.heap.size k hk6 a5 c5 _ hcq hcm.bs hcg (Q := Q) (A := A)
              have HRI2 : Hid (ReadI M w p d g (j + 1) w5.drew) := by
                have ob := ho5.keep HS.out (below_drew w5)
                refine hide ⟨_, ss4, ob.1.mono (fun k hk => .inl hk), F5.out, (WB4.out.keep hk5 (.inl rfl)).keep ob.2 (.inl rfl), fun i hi => ?_⟩
                rw [SS4.out i hi, ← HL5.out i hi]
              clear ho5 hk5 hown5 hcm hcg hcq HR z1
              unfold Sl.val
              go_wp2_with fail
              refine Pl.region_is (ops := Pl.find 25 ((Try.f3.body).getD .skip)) (by kernel_rfl) ?_
              refine H25.out (by rfl) rfl (by rfl) (by rfl) (by rfl) (by rfl) ?_
              intro uu2 w' hw'
              subst hw'
              simp only [Act.put, List.setIfInBounds_toArray, List.set_cons_zero, List.set_cons_succ]
              go_wp2_with fail
              go_roundw
              case rel => exact ⟨j + 1, by omega, by omega, by go_num, HRI2⟩
              case measure => simp only [intOf]; omega
            have F4 : Hid (P.Fine 6 (32 * j + 28)) := hide (F3.out.more (by omega) (by omega))
            have HRd := hide (oug_read HS.out O3.out F4.out k hk6)
            have O4 := O3
            have BX4 := BX3
            have WB4 := WB3
            have SS4 := SS3
            obtain ⟨ss4, hss4⟩ : ∃ ss4, ss4 = ss := ⟨_, rfl⟩
            rw [← hss4] at WB4 SS4
            generalize P = P4 at *
            clear hss4 HRd
            have HR := hide (oug_read HS.out O4.out F4.out k hk6)
            have F5 := hide ((F4.out.letIn (by omega) hk6).more (c' := 32 * (j + 1)) (by omega) (by omega))
            have HL5 := hide (F4.out.ok.letIn hk6).con
            have z1 := BX4.out.c1
            rw [hk] at z1
            unfold at0 at HR
            go_wp2_with (first | refine wpList_load _ rfl 36 (.tmp 77) rfl (.pointer (some ⟨b, off + j * 5, none⟩)) (.agg (t.x.cells t.b t.q)) rfl HLD.out ?_ | refine wpList_store _ rfl rfl 36 (.tmp 12) (.tmp 78) rfl (.pointer (some ⟨wr.heap.size, 0, none⟩)) (.agg (t.x.cells t.b t.q)) rfl rfl _ HSA.out ?_)
            refine HR.out.mono ?_
            rintro e w5 ⟨⟨ho5, hk5⟩, s5, rfl, hown5, hl5⟩
            have hcm := hown5.came (F5.out.wet.con_bytes k)
            have hcg := (WB4.out.keep hk5 (.inl rfl)).at_ k hk6
            rw [SS4.out k hk6, ← HL5.out k hk6] at hcg
            have hcq := (BX4.out.keepG hk5 (.inr rfl)).c1
            rw [hk] at hcq
            obtain ⟨a5, l5, c5⟩ := s5
            simp only at hl5
            subst hl5
            have H25 : Hid (∀ {Q : Exit → Act → World → Prop} {A : Act}, _) := fun {Q A} => reads25 w5 g wr.heap.size k hk6 a5 c5 _ hcq hcm.bs hcg (Q := Q) (A := A)
            have HRI2 : Hid (ReadI M w p d g (j + 1) w5.drew) := by
              have ob := ho5.keep HS.out (below_drew w5)
              refine hide ⟨_, ss4, ob.1.mono (fun k hk => .inl hk), F5.out, (WB4.out.keep hk5 (.inl rfl)).keep ob.2 (.inl rfl), fun i hi => ?_⟩
              rw [SS4.out i hi, ← HL5.out i hi]
            clear ho5 hk5 hown5 hcm hcg hcq HR z1
            unfold Sl.val
            go_wp2_with fail
            refine Pl.region_is (ops := Pl.find 25 ((Try.f3.body).getD .skip)) (by kernel_rfl) ?_
            refine H25.out (by rfl) rfl (by rfl) (by rfl) (by rfl) (by rfl) ?_
            intro uu2 w' hw'
            subst hw'
            simp only [Act.put, List.setIfInBounds_toArray, List.set_cons_zero, List.set_cons_succ]
            go_wp2_with fail
            go_roundw
            case rel => exact ⟨j + 1, by omega, by omega, by go_num, HRI2⟩
            case measure => simp only [intOf]; omega
          · have HRS1 := hide (HRS.out W1 (Below.refl _ _))
            clear HRS
            by_cases i7 : t.x.pg < 0
            · go_wp2_with (first | refine wpList_load _ rfl 36 (.tmp 77) rfl (.pointer (some ⟨b, off + j * 5, none⟩)) (.agg (t.x.cells t.b t.q)) rfl HLD.out ?_ | refine wpList_store _ rfl rfl 36 (.tmp 12) (.tmp 78) rfl (.pointer (some ⟨wr.heap.size, 0, none⟩)) (.agg (t.x.cells t.b t.q)) rfl rfl _ HSA.out ?_)
              go_roundw
              case rel => exact ⟨j + 1, by omega, by omega, by go_num, HRS1⟩
              case measure => simp only [intOf]; omega
            · have i8 : (5 : Int) < t.x.pg := by omega
              go_wp2_with (first | refine wpList_load _ rfl 36 (.tmp 77) rfl (.pointer (some ⟨b, off + j * 5, none⟩)) (.agg (t.x.cells t.b t.q)) rfl HLD.out ?_ | refine wpList_store _ rfl rfl 36 (.tmp 12) (.tmp 78) rfl (.pointer (some ⟨wr.heap.size, 0, none⟩)) (.agg (t.x.cells t.b t.q)) rfl rfl _ HSA.out ?_)
              go_roundw
              case rel => exact ⟨j + 1, by omega, by omega, by go_num, HRS1⟩
              case measure => simp only [intOf]; omega
        · obtain ⟨P, ss, ho, hfi, hwb, hss⟩ := hSt.out
          have HB5 := hide ho.below
          clear ho hfi hwb hss hSt
          have hout : (((j : Nat) : Int) < ((len : Nat) : Int) ∧ j = 80) ∨ ¬ ((j : Nat) : Int) < ((len : Nat) : Int) := by omega
          rcases hout with ⟨i5, rfl⟩ | i5
          · have i6 : ¬ (((80 : Nat) : Int) < 80) := by omega
            go_wp2_with fail
            refine (HAW.out _).mono ?_
            rintro e w8 ⟨rfl, hb8⟩
            have HB8 := hide (HB5.out.trans (hb8.mono HB5.out.size))
            clear hb8
            go_wp2_with fail
            go_ret
            exact ⟨rfl, HB8.out⟩
          · have HI5 := hide i5
            go_wp2_with fail
            refine (HAW.out _).mono ?_
            rintro e w8 ⟨rfl, hb8⟩
            have HB8 := hide (HB5.out.trans (hb8.mono HB5.out.size))
            clear hb8
            go_wp2_with fail
            go_ret
            exact ⟨rfl, HB8.out⟩

end Go.Proofs.Ytenaonnijpnnaaa
