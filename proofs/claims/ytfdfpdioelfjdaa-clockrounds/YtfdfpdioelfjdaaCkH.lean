/-
  Layer 7: the document's set; how a frame is found.
-/
import Derived.Test.YtfdfpdioelfjdaaCkG
namespace Go.Proofs.Ytfdfpdioelfjdaa
open Go.RowKit

/-- What a store leaves, without its words. -/
theorem st_row (w : World) (p : Nat) (v0 : Value) (h0 : Int) (k : CkBlk w p v0 h0) (v : Sl) : ∃ W, (Instr.storeAt 22 (.pointer (some ⟨p, 0, none⟩)) v.val).run Try.prog w = .ok () W ∧ CkBlk W p v.val h0 ∧ Frm (fun k => k = p) w W := by
  refine ⟨w.setCell ⟨p, 0, none⟩ v.val, ?_, k.row v.val, (Frm.refl (fun k => k = p) w).setCell (p := ⟨p, 0, none⟩) rfl _⟩
  have c0 := k.c0
  have f0 := k.fz 0
  unfold Sl.val
  simp [go_sem, Instr.storeAt, c0, f0]
theorem st_hand (w : World) (p : Nat) (v0 : Value) (h0 : Int) (k : CkBlk w p v0 h0) (h : Int) : ∃ W, (Instr.storeAt 3 (.pointer (some ⟨p, 1, none⟩)) (.int .i64 h)).run Try.prog w = .ok () W ∧ CkBlk W p v0 h ∧ Frm (fun k => k = p) w W := by
  refine ⟨w.setCell ⟨p, 1, none⟩ (.int .i64 h), ?_, k.hand h, (Frm.refl (fun k => k = p) w).setCell (p := ⟨p, 1, none⟩) rfl _⟩
  have c0 := k.c1
  have f0 := k.fz 1
  simp [go_sem, Instr.storeAt, c0, f0]
theorem st_ck (w : World) (p : Nat) (v0 : Value) (h0 : Int) (k : CkBlk w p v0 h0) (v : Sl) (h : Int) : ∃ W, (Instr.storeAt 24 (.pointer (some ⟨p, 0, none⟩)) (ckV v h)).run Try.prog w = .ok () W ∧ CkBlk W p v.val h ∧ Frm (fun k => k = p) w W :=
  ⟨_, store_ck p v h w k, k.set v.val h, setCk_frm w p v.val h⟩
theorem st_sp (w : World) (g off len cap : Nat) (l : List Sp) (o : OwnS w ⟨some ⟨g, off, none⟩, len, cap⟩ l) (i : Nat) (hi : i < len) (x : Sp) : ∃ W, (Instr.storeAt 38 (.pointer (some ⟨g, off + i * 3, none⟩)) x.val).run Try.prog w = .ok () W ∧ OwnS W ⟨some ⟨g, off, none⟩, len, cap⟩ (l.set i x) ∧ Frm (fun k => k = g) w W := by
  obtain ⟨k0, k1, k2⟩ := o.cells rfl hi
  exact ⟨_, store_sp g (off + i * 3) x w k0 k1 k2 (o.frozen rfl _) (o.frozen rfl _) (o.frozen rfl _), o.store rfl i x, setSp_frm w g _ x⟩
theorem st_use (w : World) (g off len cap : Nat) (l : List Sp) (o : OwnS w ⟨some ⟨g, off, none⟩, len, cap⟩ l) (i : Nat) (hi : i < len) (u : Bool) : ∃ W, (Instr.storeAt 4 (.pointer (some ⟨g, off + i * 3 + 1, none⟩)) (.bool u)).run Try.prog w = .ok () W ∧ OwnS W ⟨some ⟨g, off, none⟩, len, cap⟩ (l.set i ⟨(fr l i).page, u, (fr l i).pin⟩) ∧ Frm (fun k => k = g) w W := by
  obtain ⟨k0, k1, k2⟩ := o.cells rfl hi
  have f1 := o.frozen rfl (off + i * 3 + 1)
  refine ⟨w.setCell ⟨g, off + i * 3 + 1, none⟩ (.bool u), ?_, o.use rfl i u, (Frm.refl (fun k => k = g) w).setCell (p := ⟨g, off + i * 3 + 1, none⟩) rfl _⟩
  simp [go_sem, Instr.storeAt, k1, f1]
theorem st_pin (w : World) (g off len cap : Nat) (l : List Sp) (o : OwnS w ⟨some ⟨g, off, none⟩, len, cap⟩ l) (i : Nat) (hi : i < len) (u : Bool) : ∃ W, (Instr.storeAt 4 (.pointer (some ⟨g, off + i * 3 + 2, none⟩)) (.bool u)).run Try.prog w = .ok () W ∧ OwnS W ⟨some ⟨g, off, none⟩, len, cap⟩ (l.set i ⟨(fr l i).page, (fr l i).used, u⟩) ∧ Frm (fun k => k = g) w W := by
  obtain ⟨k0, k1, k2⟩ := o.cells rfl hi
  have f1 := o.frozen rfl (off + i * 3 + 2)
  refine ⟨w.setCell ⟨g, off + i * 3 + 2, none⟩ (.bool u), ?_, o.pinned rfl i u, (Frm.refl (fun k => k = g) w).setCell (p := ⟨g, off + i * 3 + 2, none⟩) rfl _⟩
  simp [go_sem, Instr.storeAt, k2, f1]
theorem OwnS.off {w W : World} {b o sl sc : Nat} {l : List Sp} (ho : OwnS w ⟨some ⟨b, o, none⟩, sl, sc⟩ l) {p : Nat} (hf : Frm (fun k => k = p) w W) (hne : b ≠ p) : OwnS W ⟨some ⟨b, o, none⟩, sl, sc⟩ l :=
  ho.frame (fun k hk => hf.block k (Own.lt ho hk) (by have e : some b = some k := hk; cases e; exact hne))
theorem CkBlk.off {w W : World} {p q : Nat} {v : Value} {h : Int} (k : CkBlk w p v h) (hf : Frm (fun k => k = q) w W) (hne : p ≠ q) : CkBlk W p v h := k.at (hf.block _ k.lt hne)
theorem SpBlk.off {w W : World} {p q : Nat} {x : Sp} (k : SpBlk w p x) (hf : Frm (fun k => k = q) w W) (hne : p ≠ q) : SpBlk W p x := (hf.block _ k.lt hne).trans k
theorem Below.more {B : Nat} {w w' W : World} {p : Nat} (h : Below B w w') (hf : Frm (fun k => k = p) w' W) (hB : B ≤ w'.heap.size) (hp : B ≤ p) : Below B w W := h.trans (hf.below hB (fun k hk => by rw [hk]; exact hp))

set_option maxHeartbeats 4000000 in
theorem rset_any {D : Nat → Prop} (w : World) (v : Sl) (h : Int) (l : List Sp) (hg : Gs D w v l) (i : Nat) (hi : i < v.len) (x : Sp) :
    Calls Try.prog 25 #[ckV v h, .int .i64 ((i : Nat) : Int), x.val] w fun e w' => Below w.heap.size w w' ∧ ∃ s : Sl, e = .returned (ckV s h) ∧ Gs (fun k => w.heap.size ≤ k) w' s (l.set i x) := by
  obtain ⟨a, len, cap⟩ := v
  have hlen : l.length = len := hg.len
  have hbig : len ≤ 1000000 := hg.big
  replace hi : i < len := hi
  have hA1 := below_alloc w (.cells #[.slice a len cap, .int .i64 h] 24)
  have hA2 := below_alloc (w.alloc (.cells #[.slice a len cap, .int .i64 h] 24)) (.cells #[.int .i64 x.page, .bool x.used, .bool x.pin] 38)
  have hA3 := below_alloc ((w.alloc (.cells #[.slice a len cap, .int .i64 h] 24)).alloc (.cells #[.int .i64 x.page, .bool x.used, .bool x.pin] 38)) (.cells #[.slice none 0 0, .int .i64 0] 24)
  have hk := ((ckBlk_new w (.slice a len cap) h).below hA2).below hA3
  have hs := (spBlk_new (w.alloc (.cells #[.slice a len cap, .int .i64 h] 24)) x).below hA3
  have hr := ckBlk_new ((w.alloc (.cells #[.slice a len cap, .int .i64 h] 24)).alloc (.cells #[.int .i64 x.page, .bool x.used, .bool x.pin] 38)) (.slice none 0 0) 0
  have hA := rBelow hA1 (rBelow hA2 hA3)
  have HG := hide (hg.below hA (Nat.le_refl _))
  rw [alloc_size] at hs
  rw [alloc_size, alloc_size] at hr
  have HSZ : Hid ((((w.alloc (.cells #[.slice a len cap, .int .i64 h] 24)).alloc (.cells #[.int .i64 x.page, .bool x.used, .bool x.pin] 38)).alloc (.cells #[.slice none 0 0, .int .i64 0] 24)).heap.size = w.heap.size + 1 + 1 + 1) := by
    show _ = _
    rw [alloc_size, alloc_size, alloc_size]
  have HK := hide hk
  have HS := hide hs
  have HR := hide hr
  have HA := hide hA
  have HLEN := hide hlen
  clear hg hA1 hA2 hA3 hA hk hs hr hlen
  unfold ckV Sl.val Sp.val
  simp only
  go_enter Try.func25, Try.ntmps25
  go_wp2_with (at_builtin; refine wpList_append_new _ rfl (.tmp 7) (.tmp 9) rfl ⟨a, len, cap⟩ l (by show Value.slice (some ⟨w.heap.size + 1 + 1 + 1, 0, none⟩) 0 0 = _; rw [HSZ.out]) rfl HG.out ?_)
  generalize ((w.alloc (.cells #[.slice a len cap, .int .i64 h] 24)).alloc (.cells #[.int .i64 x.page, .bool x.used, .bool x.pin] 38)).alloc (.cells #[.slice none 0 0, .int .i64 0] 24) = W at *
  intro v1 w1 ho hl1 hb1 hk1
  obtain ⟨b, o, ha⟩ := ho.pos (by rw [hl1]; show 0 < len; omega)
  obtain ⟨sa, sl, sc⟩ := v1
  replace ha : sa = some ⟨b, o, none⟩ := ha
  replace hl1 : len = sl := hl1.symm
  subst ha
  subst hl1
  have hbw : w.heap.size + 1 + 1 + 1 ≤ b := hk1 b rfl
  rw [← HSZ.out] at hb1
  have k1 := HK.out.below hb1
  have s1 := HS.out.below hb1
  have r1 := HR.out.below hb1
  have e1 : Below w.heap.size w w1 := HA.out.trans (hb1.mono HA.out.size)
  obtain ⟨W2, hst2, k2, fr2⟩ := st_row w1 _ _ _ k1 ⟨some ⟨b, o, none⟩, len, sc⟩
  have o2 := ho.off fr2 (by omega)
  have s2 := s1.off fr2 (by omega)
  have r2 := r1.off fr2 (by omega)
  have e2 := Below.more e1 fr2 e1.size (Nat.le_refl _)
  have hil : i < len := hi
  obtain ⟨W3, hst3, o3, fr3⟩ := st_sp W2 b o len sc l o2 i hil x
  have k3 := k2.off fr3 (by omega)
  have r3 := r2.off fr3 (by omega)
  have e3 := Below.more e2 fr3 e2.size (by omega)
  obtain ⟨W4, hst4, r4, fr4⟩ := st_ck W3 _ _ _ r3 ⟨some ⟨b, o, none⟩, len, sc⟩ h
  have o4 := o3.off fr4 (by omega)
  have HF := hide (Below.more e3 fr4 e3.size (by omega))
  have HST2 := hide hst2
  have HST3 := hide hst3
  have HST4 := hide hst4
  have g0 := k2.c0
  have q0 := s2.c0
  have q1 := s2.c1
  have q2 := s2.c2
  have m0 := k3.c0
  have m1 := k3.c1
  have HR4 := hide r4
  have HG4 := hide (o4.gs (D := fun k => w.heap.size ≤ k) (fun k hk => by have e : some b = some k := hk; cases e; omega) (by show len ≤ _; omega))
  clear ho hb1 hk1 k1 s1 r1 k2 fr2 o2 s2 r2 fr3 o3 k3 r3 r4 fr4 o4 HG HK HS HR HSZ HA e1 e2 e3 hst2 hst3 hst4
  unfold ckV Sl.val Sp.val at *
  simp only at *
  go_wp2_with (first | refine wpList_store _ rfl rfl 22 (.tmp 11) (.tmp 10) rfl (.pointer (some ⟨w.heap.size, 0, none⟩)) (.slice (some ⟨b, o, none⟩) len sc) rfl rfl W2 HST2.out ?_ | refine wpList_store _ rfl rfl 38 (.tmp 16) (.tmp 15) rfl (.pointer (some ⟨b, o + i * 3, none⟩)) (.agg #[.int .i64 x.page, .bool x.used, .bool x.pin]) rfl rfl W3 HST3.out ?_ | refine wpList_store _ rfl rfl 24 (.tmp 6) (.tmp 17) rfl (.pointer (some ⟨w.heap.size + 1 + 1, 0, none⟩)) (.agg #[.slice (some ⟨b, o, none⟩) len sc, .int .i64 h]) rfl rfl W4 HST4.out ?_)
  refine bodyPost_ret (ck_results (v := ⟨some ⟨b, o, none⟩, len, sc⟩) rfl HR4.out _ rfl) rfl ?_
  exact ⟨HF.out, _, rfl, HG4.out⟩
end Go.Proofs.Ytfdfpdioelfjdaa
