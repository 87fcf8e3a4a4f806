/-
  Layer 7: the theorem of pins: the pages that are pinned first.
-/
import Derived.Test.YtfdfpdioelfjdaaCkS
import Derived.Test.YtfdfpdioelfjdaaCkM
namespace Go.Proofs.Ytfdfpdioelfjdaa
open Go.RowKit Go.Maps

theorem mlaw : Keyed Try.prog 3 := int_keyed Try.underlying3
theorem zeroI (w : World) : (zeroValue 3).run Try.prog w = .ok (.int .i64 0) w := by kernel_rfl

theorem ownsMap_at {w w' : World} {g n : Nat} {D : (DataW Unit)} (h : w.ownsMap Try.prog 3 (plainElem Try.prog 3) g n D) (hb : w'.heap[g]? = w.heap[g]?) : w'.ownsMap Try.prog 3 (plainElem Try.prog 3) g n D := by
  obtain ⟨es, clock, h1, r⟩ := h
  exact ⟨es, clock, hb.trans h1, r⟩

/-- The law's clock and its map. -/
structure Wl (w wr : World) (gC gM : Nat) (s : Sl) (h : Int) (l : List Sp) (D : (DataW Unit)) (m : Nat) : Prop where
  k : CkBlk wr gC s.val h
  sp : Gs (fun k => k ≠ gC ∧ k ≠ gM) wr s l
  mp : wr.ownsMap Try.prog 3 (plainElem Try.prog 3) gM m D
  e : Below w.heap.size w wr
  le : w.heap.size ≤ gC
  le2 : w.heap.size ≤ gM
  ne : gC ≠ gM
theorem Wl.below {w wr w' : World} {gC gM : Nat} {s : Sl} {h : Int} {l : List Sp} {D : (DataW Unit)} {m : Nat} (x : Wl w wr gC gM s h l D m) (hb : Below wr.heap.size wr w') : Wl w w' gC gM s h l D m :=
  ⟨x.k.below hb, x.sp.below hb (Nat.le_refl _), ownsMap_at x.mp (hb.block gM x.mp.lt), rBelow x.e hb, x.le, x.le2, x.ne⟩
theorem Wl.start {w w1 : World} {s : Sl} {l : List Sp} (hb : Below w.heap.size w w1) (hg : Gs (fun k => w.heap.size ≤ k) w1 s l) : Wl w ((w1.alloc (.cells #[s.val, .int .i64 0] 24)).alloc (.map #[] 0)) w1.heap.size (w1.heap.size + 1) s 0 l (.map []) 0 := by
  have hA1 := below_alloc w1 (.cells #[s.val, .int .i64 0] 24)
  have hA2 := below_alloc (w1.alloc (.cells #[s.val, .int .i64 0] 24)) (.map #[] 0)
  have hm := World.ownsMap_made (H := Unit) (w1.alloc (.cells #[s.val, .int .i64 0] 24)) Try.prog 3 (plainElem Try.prog 3)
  rw [alloc_size] at hm
  exact ⟨(ckBlk_new w1 s.val 0).below hA2, (hg.mono (fun k _ hl => (⟨by omega, by omega⟩ : k ≠ w1.heap.size ∧ k ≠ w1.heap.size + 1))).below (rBelow hA1 hA2) (Nat.le_refl _), hm, rBelow hb (rBelow hA1 hA2), hb.size, Nat.le_succ_of_le hb.size, by omega⟩
/-- Another clock is laid there. -/
theorem Wl.store {w wr w' : World} {gC gM : Nat} {s : Sl} {h : Int} {l : List Sp} {D : (DataW Unit)} {m : Nat} (x : Wl w wr gC gM s h l D m) (hb : Below wr.heap.size wr w') {s' : Sl} {l' : List Sp} (hg : Gs (fun k => wr.heap.size ≤ k) w' s' l') (h' : Int) : ∃ W, (Instr.storeAt 24 (.pointer (some ⟨gC, 0, none⟩)) (ckV s' h')).run Try.prog w' = .ok () W ∧ Wl w W gC gM s' h' l' D m := by
  have x1 := x.below hb
  have hlt := x.k.lt
  have hlm := x.mp.lt
  have f := setCk_frm w' gC s'.val h'
  refine ⟨_, store_ck gC s' h' w' x1.k, ⟨x1.k.set s'.val h', ?_, ownsMap_at x1.mp (f.block gM x1.mp.lt (fun e => x.ne e.symm)), Below.more x1.e f x1.e.size x.le, x.le, x.le2, x.ne⟩⟩
  exact (hg.off f hlt).mono (fun k hk _ => ⟨by omega, by omega⟩)
/-- The map has one more. -/
theorem Wl.put {w wr w' : World} {gC gM : Nat} {s : Sl} {h : Int} {l : List Sp} {D D' : (DataW Unit)} {m m' : Nat} (x : Wl w wr gC gM s h l D m) (hg : wr.grownBy w' (some gM)) (hm : w'.ownsMap Try.prog 3 (plainElem Try.prog 3) gM m' D') : Wl w w' gC gM s h l D' m' := by
  have f : Frm (fun k => k = gM) wr w' := ⟨hg.os, hg.tape, hg.output, hg.size, fun k hk hne => hg.block k hk (fun e => hne (by cases e; rfl))⟩
  exact ⟨x.k.off f x.ne, x.sp.keep (Kept.frm f (fun k hk e => hk.2 e)), hm, Below.more x.e f x.e.size x.le2, x.le, x.le2, x.ne⟩

/-- What the loops hold to. -/
structure Hl (w wr : World) (gC gM n m : Nat) (s : Sl) (h : Int) (l : List Sp) (D : (DataW Unit)) : Prop where
  wl : Wl w wr gC gM s h l D m
  hd : Hd l D
  may : may l h = true
  len : l.length = n
theorem bytes_at {w wr : World} {a : Option Addr} {len cap : Nat} {xs : List Nat} (h : Came w a len cap xs) (hb : Below w.heap.size w wr) {i : Nat} (hi : i < len) : ∃ b o x, a = some ⟨b, o, none⟩ ∧ wr.cell? ⟨b, o + i, none⟩ = some (.int .u8 ((x : Nat) : Int)) ∧ x < 256 := by
  obtain ⟨b, o, ha, hc⟩ := (h.bs.keep hb (Nat.le_refl _)).2.2 i hi
  exact ⟨b, o, _, ha, hc, getD_lt h.bs.2.1 i⟩
theorem conv_page (x q : Nat) (hq : q = x % 64) (w : World) : (convert 5 3 (.int .u8 (((x : Nat) : Int) % 64))).run Try.prog w = .ok (.int .i64 ((q : Nat) : Int)) w := by
  have e1 : ((x : Nat) : Int) % 64 = ((q : Nat) : Int) := by omega
  have e2 : IntKind.i64.wrap ((q : Nat) : Int) = ((q : Nat) : Int) := by rw [IntKind.wrap_i64]; omega
  simp [go_sem, e1, e2]

theorem gs_at {D : Nat → Prop} {w : World} {b o len cap : Nat} {l : List Sp} (h : Gs D w ⟨some ⟨b, o, none⟩, len, cap⟩ l) {i : Nat} (hi : i < len) : Cell3 w b (o + i * 3) (fr l i) := by
  obtain ⟨b', o', ha, c0, c1, c2⟩ := h.cell i hi
  simp only [Option.some.injEq, Addr.mk.injEq, and_true] at ha
  obtain ⟨rfl, rfl⟩ := ha
  exact ⟨c0, c1, c2⟩
theorem gs_some {D : Nat → Prop} {w : World} {s : Sl} {l : List Sp} (h : Gs D w s l) (hp : 0 < s.len) : ∃ b o, s.a = some ⟨b, o, none⟩ := by
  obtain ⟨b, o, ha, _⟩ := h.cell 0 hp
  exact ⟨b, o, ha⟩
theorem tk_was {l : List Sp} {h p : Int} {t : Tc} {k : Nat} (hm : may l h = true) (T : Tk l h p t k) : -1 ≤ t.was ∧ t.was < 64 := by
  obtain ⟨_, _, _, _, mg⟩ := may_iff.1 hm
  rcases T.was with ⟨_, e⟩ | ⟨_, e, _⟩
  · rw [e]; omega
  · rw [e]; exact (mg k T.lt).bound

theorem wpList_look {ops : Array Oper} {rest : List Oper} {o : Oper} {a : Act} {Q : Exit → Act → World → Prop} (w : World) (hg : o.guard = none) (m x : Operand) (hop : o.op = Op.lookup 41 m x true) (b n : Nat) (D : (DataW Unit)) (hm : a.eval m = .map (some b)) (hown : w.ownsMap Try.prog 3 (plainElem Try.prog 3) b n D) (q c : Int) (y : Bool) (hx : a.eval x = .int .i64 q) (hkey : keyOf Try.prog 3 (.int .i64 q) = some (kI q)) (hc : D.atKey (kI q) (dI 0) = dI c) (hy : Maps.has D (kI q) = y)
    (hK : wpList Try.prog ops Q rest (a.put o.dst (.tuple #[.int .i64 c, .bool y])) w) : wpList Try.prog ops Q (o :: rest) a w := by
  refine wpList_lookup_own_ok_int w hg m x 41 hop 3 3 .i64 mlaw Try.underlying41 Try.underlying3 (zeroI _) b n D hm hown _ _ hx hkey ?_
  intro c' hat _
  have e : dI c' = dI c := hat.symm.trans hc
  unfold dI at e
  injection e with e
  injection e with _ e
  subst e
  rw [hy]
  exact hK

set_option maxHeartbeats 8000000 in
set_option maxRecDepth 100000 in
theorem holds_walk (f : Nat) (hf : f ≤ 255) (w : World) (pa : Option Addr) (pl pc : Nat) (ps : List Nat) (hps : Came w pa pl pc ps) (ga : Option Addr) (gl gc : Nat) (gs : List Nat) (hgs : Came w ga gl gc gs) :
    Calls Try.prog 5 #[.int .u8 ((f : Nat) : Int), .slice pa pl pc, .slice ga gl gc] w fun e w' => e = .returned (.bool true) ∧ Below w.heap.size w w' := by
  obtain ⟨k, hk⟩ : ∃ k, k = f % 8 := ⟨_, rfl⟩
  obtain ⟨n, hn⟩ : ∃ n, n = k + 1 := ⟨_, rfl⟩
  have hk8 : k < 8 := by omega
  have hn1 : 1 ≤ n := by omega
  have hn8 : n ≤ 8 := by omega
  have HA := hide awake_any
  have HN := hide (new_ok n hn1 (by omega) w)
  have HNK : Hid ((1 : Int) + ((k : Nat) : Int) = ((n : Nat) : Int)) := by show _ = _; omega
  have hcv : ∀ w : World, (convert 5 3 (.int .u8 (((f : Nat) : Int) % 8))).run Try.prog w = .ok (.int .i64 ((k : Nat) : Int)) w := by
    intro w
    have e1 : ((f : Nat) : Int) % 8 = ((k : Nat) : Int) := by omega
    have e2 : IntKind.i64.wrap ((k : Nat) : Int) = ((k : Nat) : Int) := by rw [IntKind.wrap_i64]; omega
    simp [go_sem, e1, e2]
  have hmm := @run_makeMap Try.prog
  have HPS := hide hps
  have HGS := hide hgs
  have hplb := hps.big
  have hglb := hgs.big
  clear hk hn hps hgs
  go_enter Try.func5, Try.ntmps5
  go_wp2_with fail
  rw [HNK.out]
  clear HNK hcv
  refine HN.out.mono ?_
  rintro e w1 ⟨hb1, s1, rfl, hg1⟩
  have hW := Wl.start hb1 hg1
  have HH : Hid (Hl w _ w1.heap.size (w1.heap.size + 1) n 0 s1 0 (List.replicate n Sp.none) (.map [])) := ⟨hW, Hd.start n, may_new n hn1 (by omega), by simp⟩
  obtain ⟨a1, l1, p1⟩ := s1
  clear hb1 hg1 HN hW
  unfold ckV Sl.val at *
  simp only at *
  go_wp2_with fail
  generalize (w1.alloc (.cells #[.slice a1 l1 p1, .int .i64 0] 24)).alloc (.map #[] 0) = V1 at *
  go_loopw [11] (fun iv wr => ∃ i : Nat, i ≤ n ∧ i ≤ pl ∧ iv = .int .i64 (i : Nat) ∧ ∃ s h l D, Hid (Hl w wr w1.heap.size (w1.heap.size + 1) n i s h l D)) (fun iv _ => n - (intOf iv).toNat)
  case atStart => exact ⟨0, Nat.zero_le _, Nat.zero_le _, rfl, _, _, _, _, HH⟩
  case round =>
    obtain ⟨i, hi, hip, rfl, s, h, l, D, hh⟩ := hrel
    by_cases hgo : i < pl ∧ i < n
    · obtain ⟨hlp, hln⟩ := hgo
      have i1 : ((i : Nat) : Int) < ((pl : Nat) : Int) := by omega
      have i2 : ((i : Nat) : Int) < ((n : Nat) : Int) := by omega
      obtain ⟨pb, po, x, ha, hcx, hx⟩ := bytes_at HPS.out hh.out.wl.e hlp
      subst ha
      obtain ⟨q, hq⟩ : ∃ q, q = x % 64 := ⟨_, rfl⟩
      have hcv := conv_page x q hq
      have hq64 : q < 64 := by omega
      have hpg : isPg ((q : Nat) : Int) = true := isPg_iff.2 ⟨by omega, by omega⟩
      have hsz := hh.out.wl.mp.size_le
      rcases touch_keeps hh.out.may hpg with ⟨_, hall, _⟩ | ⟨kk, T⟩
      · exact absurd hall (hh.out.hd.room (by rw [hh.out.len]; omega))
      have HT := hide (touch_any wr s h l hh.out.wl.sp ((q : Nat) : Int) hh.out.may)
      have hHd := hh.out.hd.touch T
      rw [T.at_, T.e] at HT
      have hkn : kk < n := by rw [← hh.out.len]; exact T.lt
      generalize touch l h ((q : Nat) : Int) = t at *
      have HTK := hide T
      have HHD := hide hHd
      have c0 := hh.out.wl.k.c0
      have c1 := hh.out.wl.k.c1
      clear T hHd hsz hpg hq hx hi hip
      obtain ⟨sa, sl, sc⟩ := s
      unfold ckV Sl.val at *
      simp only at *
      go_wp2_with fail
      refine HT.out.mono ?_
      rintro e w2 ⟨hb2, s2, rfl, hg2⟩
      have hA2 := below_alloc w2 (.cells #[s2.val, .int .i64 t.h] 24)
      have hb2' := rBelow hb2 hA2
      have hg2' := hg2.below hA2 (Nat.le_refl _)
      have HP := hide (pin_any _ s2 t.h t.l hg2' ((q : Nat) : Int) true HTK.out.may)
      rw [pinC_at HTK.out.may (by omega) (by rw [HTK.out.len]; exact HTK.out.lt) HTK.out.page] at HP
      have HB2 := hide hb2'
      clear hb2 hA2 hb2' hg2 hg2' HT
      obtain ⟨a2, l2, p2⟩ := s2
      unfold ckV Sl.val at *
      simp only at *
      go_wp2_with fail
      generalize w2.alloc (.cells #[.slice a2 l2 p2, .int .i64 t.h] 24) = V2 at *
      refine HP.out.mono ?_
      rintro e w3 ⟨hb3, s3, rfl, hg3⟩
      have hA3 := below_alloc w3 (.cells #[s3.val, .int .i64 t.h] 24)
      have hb3' := rBelow (rBelow HB2.out hb3) hA3
      have hg3' := (hg3.below hA3 (Nat.le_refl _)).mono (fun k hk _ => (by have := HB2.out.size; omega : wr.heap.size ≤ k))
      obtain ⟨W4, hst4, hW4⟩ := hh.out.wl.store hb3' hg3' t.h
      have HST4 := hide hst4
      have HW4 := hide hW4
      have HM4 := hide hW4.mp
      have HKEY : Hid (keyOf Try.prog 3 (.int .i64 ((q : Nat) : Int)) = some (kI ((q : Nat) : Int))) := keyOf_int_mk Try.underlying3 (WalkArith.wf_i64 (by omega))
      have HVAL : Hid (plainElem (H := Unit) Try.prog 3 (.int .i64 ((kk : Nat) : Int)) = some (dI ((kk : Nat) : Int), [])) := plainElem_int Try.underlying3 (WalkArith.wf_i64 (by omega))
      have i3 : ¬ ((n : Nat) : Int) ≤ ((kk : Nat) : Int) := by omega
      clear hb3 hA3 hb3' hg3 hg3' hst4 hW4 HP
      obtain ⟨a3, l3, p3⟩ := s3
      unfold ckV Sl.val at *
      simp only at *
      have c3 : (w3.alloc (.cells #[.slice a3 l3 p3, .int .i64 t.h] 24)).cell? ⟨w3.heap.size, 0, none⟩ = some (.slice a3 l3 p3) := (ckBlk_new w3 (.slice a3 l3 p3) t.h).c0
      have c4 : (w3.alloc (.cells #[.slice a3 l3 p3, .int .i64 t.h] 24)).cell? ⟨w3.heap.size, 1, none⟩ = some (.int .i64 t.h) := (ckBlk_new w3 (.slice a3 l3 p3) t.h).c1
      go_wp2_with (first | refine wpList_store _ rfl rfl 24 (.tmp 8) (.tmp 90) rfl (.pointer (some ⟨w1.heap.size, 0, none⟩)) (.agg #[.slice a3 l3 p3, .int .i64 t.h]) rfl rfl W4 HST4.out ?_ | (at_mapUpdate; refine wpList_mapUpdate_own W4 rfl (.tmp 91) (.tmp 92) (.tmp 93) 41 rfl 3 3 mlaw Try.underlying41 _ (w1.heap.size + 1) i D rfl HM4.out (by unfold maxLen; omega) (.int .i64 ((q : Nat) : Int)) (.int .i64 ((kk : Nat) : Int)) (kI ((q : Nat) : Int)) rfl rfl HKEY.out (dI ((kk : Nat) : Int)) [] HVAL.out ?_; intro w5 hown5 hgrow5))
      have HH5 : Hid (Hl w w5 w1.heap.size (w1.heap.size + 1) n (i + 1) ⟨a3, l3, p3⟩ t.h (pinAt t.l kk) (D.put (kI ((q : Nat) : Int)) (dI ((kk : Nat) : Int)))) := by
        have hlt : kk < t.l.length := by rw [HTK.out.len]; exact HTK.out.lt
        have h0 : 0 ≤ (fr t.l kk).page := by rw [HTK.out.page]; omega
        exact ⟨HW4.out.put hgrow5 hown5, HHD.out.pin HTK.out.may (by omega) hlt HTK.out.page, pinAt_may HTK.out.may hlt h0, by rw [pinAt_length, HTK.out.len]; exact hh.out.len⟩
      clear hown5 hgrow5
      go_roundw
      case rel => exact ⟨i + 1, by omega, by omega, by go_num, _, _, _, _, HH5⟩
      case measure => simp only [intOf]; omega
    · rcases Nat.lt_or_ge i pl with hlp | hlp
      · have i1 : ((i : Nat) : Int) < ((pl : Nat) : Int) := by omega
        have i2 : ¬ ((i : Nat) : Int) < ((n : Nat) : Int) := by omega
        clear hgo hi hip hlp
        go_wp2_with fail

        go_loopw [19] (fun iv wz => ∃ j : Nat, j ≤ 200 ∧ j ≤ gl ∧ iv = .int .i64 (j : Nat) ∧ ∃ s h l, Hid (Hl w wz w1.heap.size (w1.heap.size + 1) n i s h l D)) (fun iv _ => 200 - (intOf iv).toNat)
        case atStart => exact ⟨0, Nat.zero_le _, Nat.zero_le _, rfl, s, h, l, hh⟩
        case round =>
          clear hh i1
          rename World => wz
          obtain ⟨j, hj, hjg, rfl, s, h, l, hh⟩ := hrel
          by_cases hgo : j < gl ∧ j < 200
          · obtain ⟨hlp, hln⟩ := hgo
            have i1 : ((j : Nat) : Int) < ((gl : Nat) : Int) := by omega
            have i2 : ((j : Nat) : Int) < 200 := by omega
            obtain ⟨pb, po, x, ha, hcx, hx⟩ := bytes_at HGS.out hh.out.wl.e hlp
            subst ha
            obtain ⟨q, hq⟩ : ∃ q, q = x % 64 := ⟨_, rfl⟩
            have hcv := conv_page x q hq
            have hq64 : q < 64 := by omega
            have hpg : isPg ((q : Nat) : Int) = true := isPg_iff.2 ⟨by omega, by omega⟩
            have HM := hide hh.out.wl.mp
            have HKEY : Hid (keyOf Try.prog 3 (.int .i64 ((q : Nat) : Int)) = some (kI ((q : Nat) : Int))) := keyOf_int_mk Try.underlying3 (WalkArith.wf_i64 (by omega))
            have c0 := hh.out.wl.k.c0
            have c1 := hh.out.wl.k.c1
            have HT := hide (touch_any wz s h l hh.out.wl.sp ((q : Nat) : Int) hh.out.may)
            obtain ⟨sa, sl, sc⟩ := s
            rcases touch_keeps hh.out.may hpg with ⟨he, hall, hno⟩ | ⟨kk, T⟩
            · have hhas : Maps.has D (kI ((q : Nat) : Int)) = false := hh.out.hd.absent hno
              have HSZ : Hid (((Maps.size D : Nat) : Int) = ((n : Nat) : Int)) := by
                show _ = _
                rw [hh.out.hd.full hall, hh.out.len]
              rw [he] at HT
              generalize touch l h ((q : Nat) : Int) = t at *
              clear he hall hno hpg hq hx
              unfold ckV Sl.val at *
              simp only at *
              go_wp2_with (at_lookup; refine wpList_lookup_own_ok_int wz rfl (.tmp 111) (.tmp 112) 41 rfl 3 3 .i64 mlaw Try.underlying41 Try.underlying3 (zeroI _) (w1.heap.size + 1) i D rfl HM.out (.int .i64 ((q : Nat) : Int)) (kI ((q : Nat) : Int)) rfl HKEY.out ?_; intro c1v hat1 _)
              refine HT.out.mono ?_
              rintro e w2 ⟨hb2, s2, rfl, hg2⟩
              have hA2 := below_alloc w2 (.cells #[s2.val, .int .i64 t.h] 24)
              have hb2' := rBelow hb2 hA2
              have hW2 := hh.out.wl.below hb2'
              have HH2 : Hid (Hl w _ w1.heap.size (w1.heap.size + 1) n i ⟨sa, sl, sc⟩ h l D) := ⟨hW2, hh.out.hd, hh.out.may, hh.out.len⟩
              have hlen : ∀ ty, (Builtin.len_ #[41] ty #[.map (some (w1.heap.size + 1))]).run Try.prog (w2.alloc (.cells #[s2.val, .int .i64 t.h] 24)) = .ok (.int .i64 ((n : Nat) : Int)) (w2.alloc (.cells #[s2.val, .int .i64 t.h] 24)) := fun ty => by
                have := hW2.mp.len Try.underlying41 ty
                rwa [HSZ.out] at this
              clear hb2 hA2 hb2' hW2 hg2 HT HM
              obtain ⟨a2, l2, p2⟩ := s2
              unfold ckV Sl.val at *
              simp only at *
              go_wp2_with fail
              go_roundw
              case rel => exact ⟨j + 1, by omega, by omega, by go_num, _, _, _, HH2⟩
              case measure => simp only [intOf]; omega
            · have hHd := hh.out.hd.touch T
              have hlost := hh.out.hd.lost hh.out.may T
              have hwb := tk_was hh.out.may T
              rw [T.at_, T.e] at HT
              have hkn : kk < n := by rw [← hh.out.len]; exact T.lt
              have HTL : Hid ((touch l h ((q : Nat) : Int)).l.length = n) := T.len.trans hh.out.len
              generalize touch l h ((q : Nat) : Int) = t at *
              have HTK := hide T
              have HHD := hide hHd
              clear T hHd hpg hq hx
              unfold ckV Sl.val at *
              simp only at *
              go_wp2_with (at_lookup; refine wpList_lookup_own_ok_int wz rfl (.tmp 111) (.tmp 112) 41 rfl 3 3 .i64 mlaw Try.underlying41 Try.underlying3 (zeroI _) (w1.heap.size + 1) i D rfl HM.out (.int .i64 ((q : Nat) : Int)) (kI ((q : Nat) : Int)) rfl HKEY.out ?_; intro c1v hat1 _)
              refine HT.out.mono ?_
              rintro e w2 ⟨hb2, s2, rfl, hg2⟩
              have hs2 : n = s2.len := by rw [← HTL.out]; exact hg2.len
              obtain ⟨bb, oo, ha2⟩ := gs_some hg2 (by omega)
              obtain ⟨a2, l2, p2⟩ := s2
              replace ha2 : a2 = some ⟨bb, oo, none⟩ := ha2
              subst ha2
              obtain rfl : n = l2 := hs2
              have hA2 := below_alloc w2 (.cells #[.slice (some ⟨bb, oo, none⟩) n p2, .int .i64 t.h] 24)
              have hb2' := rBelow hb2 hA2
              have hg2' := hg2.below hA2 (Nat.le_refl _)
              have hW2 := hh.out.wl.below hb2'
              have HM2 := hide hW2.mp
              have hK2 := ckBlk_new w2 (.slice (some ⟨bb, oo, none⟩) n p2) t.h
              have d0 := hK2.c0
              have d1 := hK2.c1
              obtain ⟨W4, hst4, hW4⟩ := hh.out.wl.store hb2' hg2' t.h
              have HST4 := hide hst4
              have HH4 : Hid (Hl w W4 w1.heap.size (w1.heap.size + 1) n i ⟨some ⟨bb, oo, none⟩, n, p2⟩ t.h t.l D) := ⟨hW4, HHD.out, HTK.out.may, HTL.out⟩
              have HC3 := hide (fun i (hi : i < n) => gs_at hg2' hi)
              have e3 := HC3.out kk hkn
              obtain ⟨e0, _, _⟩ := e3
              rw [HTK.out.page] at e0
              have HKEY2 : Hid (keyOf Try.prog 3 (.int .i64 t.was) = some (kI t.was)) := keyOf_int_mk Try.underlying3 (WalkArith.wf_i64 (by omega))
              have i3 : ¬ ((n : Nat) : Int) ≤ ((kk : Nat) : Int) := by omega
              have i4 : ((kk : Nat) : Int) < ((n : Nat) : Int) := by omega
              clear hb2 hA2 hb2' hW2 hg2 hg2' HT HM hK2 hst4 hW4
              unfold ckV Sl.val at *
              simp only at *
              go_wp2_with (at_lookup; refine wpList_lookup_own_ok_int _ rfl (.tmp 138) (.tmp 139) 41 rfl 3 3 .i64 mlaw Try.underlying41 Try.underlying3 (zeroI _) (w1.heap.size + 1) i D rfl HM2.out (.int .i64 t.was) (kI t.was) rfl HKEY2.out ?_; intro c2v hat2 _)
              generalize w2.alloc (.cells #[.slice (some ⟨bb, oo, none⟩) n p2, .int .i64 t.h] 24) = V2 at *
              go_loopw [29] (fun iv wy => wy = V2 ∧ ∃ r : Nat, r ≤ 64 ∧ iv = .int .i64 (r : Nat)) (fun iv _ => 64 - (intOf iv).toNat)
              case atStart => exact ⟨rfl, 0, Nat.zero_le _, rfl⟩
              case round =>
                rename World => wy
                obtain ⟨hwy, r, hr, rfl⟩ := hrel
                subst hwy
                rcases Nat.lt_or_ge r 64 with hlt | hge
                · have i5 : ((r : Nat) : Int) < 64 := by omega
                  have HKEY3 : Hid (keyOf Try.prog 3 (.int .i64 ((r : Nat) : Int)) = some (kI ((r : Nat) : Int))) := keyOf_int_mk Try.underlying3 (WalkArith.wf_i64 (by omega))
                  cases hhas : Maps.has D (kI ((r : Nat) : Int)) with
                  | true =>
                    obtain ⟨k2, hk2, hpg2, hpn2, hat2⟩ := HHD.out.fwd _ hhas
                    have hk2n : k2 < n := by rw [← HTL.out]; exact hk2
                    obtain ⟨g0, g1, g2⟩ := HC3.out k2 hk2n
                    rw [hpg2] at g0
                    rw [hpn2] at g2
                    have HAT := hide hat2
                    have HHAS := hide hhas
                    have i6 : ((k2 : Nat) : Int) < ((n : Nat) : Int) := by omega
                    clear hhas hk2 hpg2 hpn2 hat2
                    go_wp2_with (at_lookup; refine wpList_look _ rfl (.tmp 175) (.tmp 176) rfl (w1.heap.size + 1) i D rfl HM2.out ((r : Nat) : Int) ((k2 : Nat) : Int) true rfl HKEY3.out HAT.out HHAS.out ?_)
                    go_roundw
                    case rel => exact ⟨trivial, r + 1, by omega, by go_num⟩
                    case measure => simp only [intOf]; omega
                  | false =>
                    go_wp2_with (at_lookup; refine wpList_lookup_own_ok_int _ rfl (.tmp 175) (.tmp 176) 41 rfl 3 3 .i64 mlaw Try.underlying41 Try.underlying3 (zeroI _) (w1.heap.size + 1) i D rfl HM2.out (.int .i64 ((r : Nat) : Int)) (kI ((r : Nat) : Int)) rfl HKEY3.out ?_; intro c3v hat3 _)
                    go_roundw
                    case rel => exact ⟨trivial, r + 1, by omega, by go_num⟩
                    case measure => simp only [intOf]; omega
                · have i5 : ¬ ((r : Nat) : Int) < 64 := by omega
                  go_wp2_with (refine wpList_store _ rfl rfl 24 (.tmp 8) (.tmp 200) rfl (.pointer (some ⟨w1.heap.size, 0, none⟩)) (.agg #[.slice (some ⟨bb, oo, none⟩) n p2, .int .i64 t.h]) rfl rfl W4 HST4.out ?_)
                  go_roundw
                  case rel => exact ⟨j + 1, by omega, by omega, by go_num, _, _, _, HH4⟩
                  case measure => simp only [intOf]; omega
          · have HB := hide hh.out.wl.e
            rcases Nat.lt_or_ge j gl with hlp | hlp
            · have i1 : ((j : Nat) : Int) < ((gl : Nat) : Int) := by omega
              have i2 : ¬ ((j : Nat) : Int) < 200 := by omega
              clear hgo hh
              go_wp2_with fail
              refine (HA.out _).mono ?_
              rintro e w2 ⟨rfl, hb2⟩
              have HB2 := hide (rBelow HB.out hb2)
              clear hb2
              go_wp2_with fail
              go_ret
              exact ⟨rfl, HB2.out⟩
            · have i1 : ¬ ((j : Nat) : Int) < ((gl : Nat) : Int) := by omega
              clear hgo hh
              go_wp2_with fail
              refine (HA.out _).mono ?_
              rintro e w2 ⟨rfl, hb2⟩
              have HB2 := hide (rBelow HB.out hb2)
              clear hb2
              go_wp2_with fail
              go_ret
              exact ⟨rfl, HB2.out⟩
      · have i1 : ¬ ((i : Nat) : Int) < ((pl : Nat) : Int) := by omega
        clear hgo hi hip hlp
        go_wp2_with fail

        go_loopw [19] (fun iv wz => ∃ j : Nat, j ≤ 200 ∧ j ≤ gl ∧ iv = .int .i64 (j : Nat) ∧ ∃ s h l, Hid (Hl w wz w1.heap.size (w1.heap.size + 1) n i s h l D)) (fun iv _ => 200 - (intOf iv).toNat)
        case atStart => exact ⟨0, Nat.zero_le _, Nat.zero_le _, rfl, s, h, l, hh⟩
        case round =>
          clear hh i1
          rename World => wz
          obtain ⟨j, hj, hjg, rfl, s, h, l, hh⟩ := hrel
          by_cases hgo : j < gl ∧ j < 200
          · obtain ⟨hlp, hln⟩ := hgo
            have i1 : ((j : Nat) : Int) < ((gl : Nat) : Int) := by omega
            have i2 : ((j : Nat) : Int) < 200 := by omega
            obtain ⟨pb, po, x, ha, hcx, hx⟩ := bytes_at HGS.out hh.out.wl.e hlp
            subst ha
            obtain ⟨q, hq⟩ : ∃ q, q = x % 64 := ⟨_, rfl⟩
            have hcv := conv_page x q hq
            have hq64 : q < 64 := by omega
            have hpg : isPg ((q : Nat) : Int) = true := isPg_iff.2 ⟨by omega, by omega⟩
            have HM := hide hh.out.wl.mp
            have HKEY : Hid (keyOf Try.prog 3 (.int .i64 ((q : Nat) : Int)) = some (kI ((q : Nat) : Int))) := keyOf_int_mk Try.underlying3 (WalkArith.wf_i64 (by omega))
            have c0 := hh.out.wl.k.c0
            have c1 := hh.out.wl.k.c1
            have HT := hide (touch_any wz s h l hh.out.wl.sp ((q : Nat) : Int) hh.out.may)
            obtain ⟨sa, sl, sc⟩ := s
            rcases touch_keeps hh.out.may hpg with ⟨he, hall, hno⟩ | ⟨kk, T⟩
            · have hhas : Maps.has D (kI ((q : Nat) : Int)) = false := hh.out.hd.absent hno
              have HSZ : Hid (((Maps.size D : Nat) : Int) = ((n : Nat) : Int)) := by
                show _ = _
                rw [hh.out.hd.full hall, hh.out.len]
              rw [he] at HT
              generalize touch l h ((q : Nat) : Int) = t at *
              clear he hall hno hpg hq hx
              unfold ckV Sl.val at *
              simp only at *
              go_wp2_with (at_lookup; refine wpList_lookup_own_ok_int wz rfl (.tmp 111) (.tmp 112) 41 rfl 3 3 .i64 mlaw Try.underlying41 Try.underlying3 (zeroI _) (w1.heap.size + 1) i D rfl HM.out (.int .i64 ((q : Nat) : Int)) (kI ((q : Nat) : Int)) rfl HKEY.out ?_; intro c1v hat1 _)
              refine HT.out.mono ?_
              rintro e w2 ⟨hb2, s2, rfl, hg2⟩
              have hA2 := below_alloc w2 (.cells #[s2.val, .int .i64 t.h] 24)
              have hb2' := rBelow hb2 hA2
              have hW2 := hh.out.wl.below hb2'
              have HH2 : Hid (Hl w _ w1.heap.size (w1.heap.size + 1) n i ⟨sa, sl, sc⟩ h l D) := ⟨hW2, hh.out.hd, hh.out.may, hh.out.len⟩
              have hlen : ∀ ty, (Builtin.len_ #[41] ty #[.map (some (w1.heap.size + 1))]).run Try.prog (w2.alloc (.cells #[s2.val, .int .i64 t.h] 24)) = .ok (.int .i64 ((n : Nat) : Int)) (w2.alloc (.cells #[s2.val, .int .i64 t.h] 24)) := fun ty => by
                have := hW2.mp.len Try.underlying41 ty
                rwa [HSZ.out] at this
              clear hb2 hA2 hb2' hW2 hg2 HT HM
              obtain ⟨a2, l2, p2⟩ := s2
              unfold ckV Sl.val at *
              simp only at *
              go_wp2_with fail
              go_roundw
              case rel => exact ⟨j + 1, by omega, by omega, by go_num, _, _, _, HH2⟩
              case measure => simp only [intOf]; omega
            · have hHd := hh.out.hd.touch T
              have hlost := hh.out.hd.lost hh.out.may T
              have hwb := tk_was hh.out.may T
              rw [T.at_, T.e] at HT
              have hkn : kk < n := by rw [← hh.out.len]; exact T.lt
              have HTL : Hid ((touch l h ((q : Nat) : Int)).l.length = n) := T.len.trans hh.out.len
              generalize touch l h ((q : Nat) : Int) = t at *
              have HTK := hide T
              have HHD := hide hHd
              clear T hHd hpg hq hx
              unfold ckV Sl.val at *
              simp only at *
              go_wp2_with (at_lookup; refine wpList_lookup_own_ok_int wz rfl (.tmp 111) (.tmp 112) 41 rfl 3 3 .i64 mlaw Try.underlying41 Try.underlying3 (zeroI _) (w1.heap.size + 1) i D rfl HM.out (.int .i64 ((q : Nat) : Int)) (kI ((q : Nat) : Int)) rfl HKEY.out ?_; intro c1v hat1 _)
              refine HT.out.mono ?_
              rintro e w2 ⟨hb2, s2, rfl, hg2⟩
              have hs2 : n = s2.len := by rw [← HTL.out]; exact hg2.len
              obtain ⟨bb, oo, ha2⟩ := gs_some hg2 (by omega)
              obtain ⟨a2, l2, p2⟩ := s2
              replace ha2 : a2 = some ⟨bb, oo, none⟩ := ha2
              subst ha2
              obtain rfl : n = l2 := hs2
              have hA2 := below_alloc w2 (.cells #[.slice (some ⟨bb, oo, none⟩) n p2, .int .i64 t.h] 24)
              have hb2' := rBelow hb2 hA2
              have hg2' := hg2.below hA2 (Nat.le_refl _)
              have hW2 := hh.out.wl.below hb2'
              have HM2 := hide hW2.mp
              have hK2 := ckBlk_new w2 (.slice (some ⟨bb, oo, none⟩) n p2) t.h
              have d0 := hK2.c0
              have d1 := hK2.c1
              obtain ⟨W4, hst4, hW4⟩ := hh.out.wl.store hb2' hg2' t.h
              have HST4 := hide hst4
              have HH4 : Hid (Hl w W4 w1.heap.size (w1.heap.size + 1) n i ⟨some ⟨bb, oo, none⟩, n, p2⟩ t.h t.l D) := ⟨hW4, HHD.out, HTK.out.may, HTL.out⟩
              have HC3 := hide (fun i (hi : i < n) => gs_at hg2' hi)
              have e3 := HC3.out kk hkn
              obtain ⟨e0, _, _⟩ := e3
              rw [HTK.out.page] at e0
              have HKEY2 : Hid (keyOf Try.prog 3 (.int .i64 t.was) = some (kI t.was)) := keyOf_int_mk Try.underlying3 (WalkArith.wf_i64 (by omega))
              have i3 : ¬ ((n : Nat) : Int) ≤ ((kk : Nat) : Int) := by omega
              have i4 : ((kk : Nat) : Int) < ((n : Nat) : Int) := by omega
              clear hb2 hA2 hb2' hW2 hg2 hg2' HT HM hK2 hst4 hW4
              unfold ckV Sl.val at *
              simp only at *
              go_wp2_with (at_lookup; refine wpList_lookup_own_ok_int _ rfl (.tmp 138) (.tmp 139) 41 rfl 3 3 .i64 mlaw Try.underlying41 Try.underlying3 (zeroI _) (w1.heap.size + 1) i D rfl HM2.out (.int .i64 t.was) (kI t.was) rfl HKEY2.out ?_; intro c2v hat2 _)
              generalize w2.alloc (.cells #[.slice (some ⟨bb, oo, none⟩) n p2, .int .i64 t.h] 24) = V2 at *
              go_loopw [29] (fun iv wy => wy = V2 ∧ ∃ r : Nat, r ≤ 64 ∧ iv = .int .i64 (r : Nat)) (fun iv _ => 64 - (intOf iv).toNat)
              case atStart => exact ⟨rfl, 0, Nat.zero_le _, rfl⟩
              case round =>
                rename World => wy
                obtain ⟨hwy, r, hr, rfl⟩ := hrel
                subst hwy
                rcases Nat.lt_or_ge r 64 with hlt | hge
                · have i5 : ((r : Nat) : Int) < 64 := by omega
                  have HKEY3 : Hid (keyOf Try.prog 3 (.int .i64 ((r : Nat) : Int)) = some (kI ((r : Nat) : Int))) := keyOf_int_mk Try.underlying3 (WalkArith.wf_i64 (by omega))
                  cases hhas : Maps.has D (kI ((r : Nat) : Int)) with
                  | true =>
                    obtain ⟨k2, hk2, hpg2, hpn2, hat2⟩ := HHD.out.fwd _ hhas
                    have hk2n : k2 < n := by rw [← HTL.out]; exact hk2
                    obtain ⟨g0, g1, g2⟩ := HC3.out k2 hk2n
                    rw [hpg2] at g0
                    rw [hpn2] at g2
                    have HAT := hide hat2
                    have HHAS := hide hhas
                    have i6 : ((k2 : Nat) : Int) < ((n : Nat) : Int) := by omega
                    clear hhas hk2 hpg2 hpn2 hat2
                    go_wp2_with (at_lookup; refine wpList_look _ rfl (.tmp 175) (.tmp 176) rfl (w1.heap.size + 1) i D rfl HM2.out ((r : Nat) : Int) ((k2 : Nat) : Int) true rfl HKEY3.out HAT.out HHAS.out ?_)
                    go_roundw
                    case rel => exact ⟨trivial, r + 1, by omega, by go_num⟩
                    case measure => simp only [intOf]; omega
                  | false =>
                    go_wp2_with (at_lookup; refine wpList_lookup_own_ok_int _ rfl (.tmp 175) (.tmp 176) 41 rfl 3 3 .i64 mlaw Try.underlying41 Try.underlying3 (zeroI _) (w1.heap.size + 1) i D rfl HM2.out (.int .i64 ((r : Nat) : Int)) (kI ((r : Nat) : Int)) rfl HKEY3.out ?_; intro c3v hat3 _)
                    go_roundw
                    case rel => exact ⟨trivial, r + 1, by omega, by go_num⟩
                    case measure => simp only [intOf]; omega
                · have i5 : ¬ ((r : Nat) : Int) < 64 := by omega
                  go_wp2_with (refine wpList_store _ rfl rfl 24 (.tmp 8) (.tmp 200) rfl (.pointer (some ⟨w1.heap.size, 0, none⟩)) (.agg #[.slice (some ⟨bb, oo, none⟩) n p2, .int .i64 t.h]) rfl rfl W4 HST4.out ?_)
                  go_roundw
                  case rel => exact ⟨j + 1, by omega, by omega, by go_num, _, _, _, HH4⟩
                  case measure => simp only [intOf]; omega
          · have HB := hide hh.out.wl.e
            rcases Nat.lt_or_ge j gl with hlp | hlp
            · have i1 : ((j : Nat) : Int) < ((gl : Nat) : Int) := by omega
              have i2 : ¬ ((j : Nat) : Int) < 200 := by omega
              clear hgo hh
              go_wp2_with fail
              refine (HA.out _).mono ?_
              rintro e w2 ⟨rfl, hb2⟩
              have HB2 := hide (rBelow HB.out hb2)
              clear hb2
              go_wp2_with fail
              go_ret
              exact ⟨rfl, HB2.out⟩
            · have i1 : ¬ ((j : Nat) : Int) < ((gl : Nat) : Int) := by omega
              clear hgo hh
              go_wp2_with fail
              refine (HA.out _).mono ?_
              rintro e w2 ⟨rfl, hb2⟩
              have HB2 := hide (rBelow HB.out hb2)
              clear hb2
              go_wp2_with fail
              go_ret
              exact ⟨rfl, HB2.out⟩
end Go.Proofs.Ytfdfpdioelfjdaa
