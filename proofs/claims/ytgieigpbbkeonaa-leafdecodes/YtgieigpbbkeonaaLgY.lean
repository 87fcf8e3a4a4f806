/-
  Layer 8: drawn statements of the document's Decode.
-/
import Derived.Test.YtgieigpbbkeonaaLgS
import Derived.Test.YtgieigpbbkeonaaLgW
namespace Go.Proofs.Ytgieigpbbkeonaa
open Go.RowKit

theorem ldLfD (p : Nat) (u v : Sl) (w : World) (k : LfBlk w p u.val v.val) : (Instr.loadAt 25 (.pointer (some ⟨p, 0, none⟩))).run Try.prog w = .ok (lfV u v) w := by
  have c0 := k.c0
  have c1 := k.c1
  obtain ⟨a, len, cap⟩ := u
  obtain ⟨a2, len2, cap2⟩ := v
  unfold lfV Sl.val at *
  simp [go_sem, Instr.loadAt, c0, c1]
theorem entSumD : ∀ args w, (callFunc 37 args).run Try.prog w = .ok (.enter 37 args) w := Pl.enters Try.func37 (by kernel_rfl) (by kernel_rfl)
theorem entFourD : ∀ args w, (callFunc 36 args).run Try.prog w = .ok (.enter 36 args) w := Pl.enters Try.func36 (by kernel_rfl) (by kernel_rfl)
theorem entMayD : ∀ args w, (callFunc 11 args).run Try.prog w = .ok (.enter 11 args) w := Pl.enters Try.func11 (by kernel_rfl) (by kernel_rfl)
theorem entPageD : ∀ args w, (callFunc 16 args).run Try.prog w = .ok (.enter 16 args) w := Pl.enters Try.func16 (by kernel_rfl) (by kernel_rfl)
theorem neqS (a b : ByteArray) (x y : Operand) (bb : Bool) (h : (!(a.toList == b.toList)) = bb) (w : World) : (do eqGuard .neq 9 x y (.string a) (.string b); binOp .neq 9 (.string a) (.string b) : Sem Value).run Try.prog w = .ok (.bool bb) w := by
  subst h
  simp [go_sem, eqGuard]
theorem build_lf0 (u : Sl) (w : World) : (Instr.build 25 #[(0, u.val)]).run Try.prog w = .ok (lfV u Sl.nil) w := by
  obtain ⟨ua, ul, uc⟩ := u
  unfold lfV Sl.val Sl.nil
  simp [go_sem]
theorem page_bytesD {t : List Int} {s : List (List Nat)} (h : OkL t s) : Bytes (pageL t s) := sealed_bytes h.bytes
theorem page_lenD {t : List Int} {s : List (List Nat)} (h : OkL t s) : (pageL t s).length = 512 := by
  unfold pageL
  rw [List.length_append, h.len]
  rfl
theorem lit_four (w : World) (a b c d : Int) : (Instr.buildSlice 22 4 #[(0, .int .i64 a), (1, .int .i64 b), (2, .int .i64 c), (3, .int .i64 d)]).run Try.prog w = .ok (.slice (some ⟨w.heap.size, 0, none⟩) 4 4) (w.alloc (.cells (cellsN [a, b, c, d]).toArray 3)) := by
  simp [go_sem, cellsN]
theorem lit_slot (w : World) (s : Sl) : (Instr.buildSlice 23 1 #[(0, s.val)]).run Try.prog w = .ok (.slice (some ⟨w.heap.size, 0, none⟩) 1 1) (w.alloc (.cells #[s.val] 28)) := by
  obtain ⟨a, len, cap⟩ := s
  unfold Sl.val
  simp [go_sem]
/-- append(v, s). -/
theorem append_slot (w : World) (v : Sl) (l : List Sb) (x : Sb) (h : OwnB w v l) (hl : v.len ≤ 1000) :
    ∃ v' w', (∀ ty, (Builtin.append_ #[23, 23] ty #[v.val, .slice (some ⟨w.heap.size, 0, none⟩) 1 1]).run Try.prog (w.alloc (.cells #[x.s.val] 28)) = .ok v'.val w') ∧ OwnB w' v' (l ++ [x]) ∧ v'.len = v.len + 1 ∧ Frm (fun k => v.blk = some k) (w.alloc (.cells #[x.s.val] 28)) w' ∧ (v'.blk = v.blk ∨ ∃ k, v'.blk = some k ∧ w.heap.size ≤ k) := by
  have hA := below_alloc w (.cells #[x.s.val] 28)
  have h1 : OwnB (w.alloc (.cells #[x.s.val] 28)) v l := Own.below h hA
  have hs : Src Try.prog 1 23 (.slice (some ⟨w.heap.size, 0, none⟩) 1 1) 1 (cellsB [x]) (w.alloc (.cells #[x.s.val] 28)) := by
    refine Src.ofSlice _ Try.underlying23 _ 1 1 (cellsB [x]) rfl (fun j u hj => ?_) (cellsB_one _)
    cases j with
    | zero =>
      have e : x.s.val = u := Option.some.inj hj
      subst e
      have hn := heap_alloc_new w (.cells #[x.s.val] 28)
      rw [Addr.add_lit]
      simp only [World.cell?]
      rw [hn]
      rfl
    | succ j => simp [cellsB] at hj
  obtain ⟨v', w', hrun, ho, hlen, hf, hbk⟩ := own_append Try.underlying23 infoBs1 rfl (by decide) _ v (cellsB l) h1 (cellsB_one l) _ 1 _ hs (by omega) 0
  refine ⟨v', w', fun ty => hrun, ?_, hlen, hf, ?_⟩
  · have e : cellsB (l ++ [x]) = cellsB l ++ cellsB [x] := by simp [cellsB]
    unfold OwnB
    rw [e]
    exact ho
  · rcases hbk with e | ⟨e, _⟩
    · exact .inl e
    · exact .inr ⟨_, e, hA.size⟩

/-- What the kinds of a page's text take. -/
theorem took_is {x : List Nat} (hx : Bytes x) {n : Nat} {l : List It} {q : Nat} (e : tks x (headK ++ List.replicate n 5) [] 0 = some (l, q)) : ∃ (m a b c d n' : Nat) (s : List (List Nat)), l = [itB m, itF ((a : Nat) : Int), itF ((b : Nat) : Int), itF ((c : Nat) : Int), itF ((d : Nat) : Int), itB n'] ++ s.map itT ∧ s.length = n ∧ SlB s := by
  rw [tks_append] at e
  cases h : tks x headK [] 0 with
  | none => rw [h] at e; cases e
  | some z =>
    obtain ⟨hd, q0⟩ := z
    rw [h] at e
    obtain ⟨m, a, b, c, d, n', _, _, _, _, _, _, rfl, rfl, _, _⟩ := head_is hx h
    have e2 : tks x (List.replicate n 5) [itB m, itF ((a : Nat) : Int), itF ((b : Nat) : Int), itF ((c : Nat) : Int), itF ((d : Nat) : Int), itB n'] 18 = some (l, q) := e
    have e3 := tks_shift x 18 [itB m, itF ((a : Nat) : Int), itF ((b : Nat) : Int), itF ((c : Nat) : Int), itF ((d : Nat) : Int), itB n'] (List.replicate n 5) [] 0
    rw [List.append_nil, Nat.add_zero] at e3
    rw [e3] at e2
    cases h2 : tks (x.drop 18) (List.replicate n 5) [] 0 with
    | none => rw [h2] at e2; cases e2
    | some z2 =>
      obtain ⟨r, p⟩ := z2
      rw [h2] at e2
      obtain ⟨s, rfl, hs, hb, _⟩ := rows_is (fun y hy => hx y (List.mem_of_mem_drop hy)) h2
      have h3 := congrArg Prod.fst (Option.some.inj e2)
      exact ⟨m, a, b, c, d, n', s, h3.symm, hs, hb⟩
theorem took_got {x : List Nat} {t0 : List Int} {s0 s : List (List Nat)} {m a b c d n' q : Nat} (hg : Got x t0 s0) (e : tks x (headK ++ List.replicate (x.getD 17 0) 5) [] 0 = some ([itB m, itF ((a : Nat) : Int), itF ((b : Nat) : Int), itF ((c : Nat) : Int), itF ((d : Nat) : Int), itB n'] ++ s.map itT, q)) (hb : SlB s) : t0 = [((a : Nat) : Int), ((b : Nat) : Int), ((c : Nat) : Int), ((d : Nat) : Int)] ∧ s0 = s := by
  obtain ⟨hok, rfl⟩ := hg
  rw [got_17 hok, got_all hok] at e
  have h2 := congrArg Prod.fst (Option.some.inj e)
  obtain ⟨p1, p2, p3, p4, rfl⟩ := four_list hok.may.itl.1
  simp only [itemsL, headL, List.map_cons, List.map_nil, List.cons_append, List.nil_append, List.cons.injEq] at h2
  have f : ∀ {p q : Int}, itF p = itF q → p = q := fun e => congrArg It.n e
  obtain ⟨_, h21, h22, h23, h24, _, h26⟩ := h2
  exact ⟨by rw [f h21, f h22, f h23, f h24], rows_inj hok.by_ (fun y hy => (hb y hy).1) h26⟩

/-- The leaf that is being laid: its box, its parts, the slots so far. -/
structure Lr (w wr : World) (g : Nat) (u v : Sl) (t : List Int) (m : List Sb) : Prop where
  k0 : LfBlk wr w.heap.size (.slice none 0 0) (.slice none 0 0)
  k : LfBlk wr g u.val v.val
  oi : OwnN wr u t
  ob : OwnB wr v m
  ui : ∀ k, u.blk = some k → w.heap.size + 1 ≤ k
  vi : ∀ k, v.blk = some k → w.heap.size + 1 ≤ k
  bs : ∀ x ∈ m, Cm (fun k => Off (w.heap.size + 1) u v k ∧ k ≠ g) wr x.s x.bs ∧ x.bs.length ≤ 1000
  e : Below w.heap.size w wr
  gi : w.heap.size + 1 ≤ g
theorem Lr.below {w wr W : World} {g : Nat} {u v : Sl} {t : List Int} {m : List Sb} (h : Lr w wr g u v t m) (hb : Below wr.heap.size wr W) : Lr w W g u v t m :=
  ⟨h.k0.below hb, h.k.below hb, Own.below h.oi hb, Own.below h.ob hb, h.ui, h.vi, fun x hx => ⟨(h.bs x hx).1.keep (Kept.all hb (Nat.le_refl _)), (h.bs x hx).2⟩, rBelow h.e hb, h.gi⟩
theorem Lr.start {w W w' : World} {g : Nat} {u : Sl} {t : List Int} (k0 : LfBlk W w.heap.size (.slice none 0 0) (.slice none 0 0)) (e : Below w.heap.size w W) (c : Cp W w' g u Sl.nil t []) : Lr w w' g u Sl.nil t [] := by
  have hs := k0.lt
  exact ⟨k0.below c.e, c.k, c.oi, c.ob, fun k hk => by have := c.ui k hk; omega, fun k hk => by have := c.vi k hk; omega, fun x hx => (by cases hx), rBelow e c.e, by have := c.gi; omega⟩
theorem Lr.gs {w wr : World} {g : Nat} {u v : Sl} {t : List Int} {m : List Sb} (h : Lr w wr g u v t m) (ht : t.length ≤ 1000) (hm : m.length ≤ 1000) : Gi (fun k => w.heap.size + 1 ≤ k) wr u t ∧ Gb (fun k => w.heap.size + 1 ≤ k) wr v m :=
  ⟨OwnN.gi h.oi h.ui (by have := OwnN.len h.oi; omega), OwnB.gb h.ob (fun x hx => ⟨(h.bs x hx).1.wide (fun k hk => hk.1.1), (h.bs x hx).2⟩) h.vi (by have := OwnB.len h.ob; omega)⟩
/-- A slot was put behind. -/
structure Lq (w w' : World) (g : Nat) (u v v' : Sl) (m : List Sb) (xs : List Nat) (s : Sl) : Prop where
  k : LfBlk w' g u.val v'.val
  ob : OwnB w' v' (m ++ [⟨s, xs⟩])
  cm : Came w' s.a s.len s.cap xs
  si : ∀ k, s.blk = some k → w.heap.size ≤ k ∧ v'.blk ≠ some k
  vb : v'.blk = v.blk ∨ ∃ k, v'.blk = some k ∧ w.heap.size ≤ k
  f : Frm (fun k => v.blk = some k ∨ k = g) w w'
theorem Lr.push {w wr W : World} {g : Nat} {u v v' s : Sl} {t : List Int} {m : List Sb} {xs : List Nat} (h : Lr w wr g u v t m) (z : Lq wr W g u v v' m xs s) (hl : xs.length ≤ 1000) : Lr w W g u v' t (m ++ [⟨s, xs⟩]) := by
  have hsz := h.k0.lt
  have hgz := h.k.lt
  have hug : u.blk ≠ some g := Own.unbox h.oi h.k (by decide)
  have hoi : OwnN W u t := Own.frame h.oi (fun k hk => z.f.block k (Own.lt h.oi hk) (fun e => by
    rcases e with e | e
    · exact Own.apart h.oi h.ob (by decide) k hk e
    · exact hug (by rw [hk, e])))
  have hew : Below w.heap.size w wr := h.e
  refine ⟨z.f.lf h.k0 (fun e => ?_), z.k, hoi, z.ob, h.ui, fun k hk => ?_, fun x hx => ?_, h.e.trans (z.f.below h.e.size (fun k hk => ?_)), h.gi⟩
  · rcases e with e | e
    · have := h.vi _ e; omega
    · have := h.gi; omega
  · rcases z.vb with e | ⟨k', e, hk'⟩
    · rw [e] at hk; exact h.vi k hk
    · rw [e] at hk; cases hk; omega
  · rcases List.mem_append.1 hx with hx | hx
    · have h1 : Cm (fun k => (Off (w.heap.size + 1) u v' k ∧ k ≠ g) ∧ v.blk ≠ some k) wr x.s x.bs := (h.bs x hx).1.mono (fun k hk hlt => by
        refine ⟨⟨⟨hk.1.1, hk.1.2.1, fun e => ?_⟩, hk.2⟩, hk.1.2.2⟩
        rcases z.vb with e2 | ⟨k', e2, hk'⟩
        · rw [e2] at e; exact hk.1.2.2 e
        · rw [e2] at e; cases e; omega)
      exact ⟨(h1.keep (Kept.frm z.f (fun k hk e => by rcases e with e | e; exact hk.2 e; exact hk.1.2 e))).wide (fun k hk => hk.1), (h.bs x hx).2⟩
    · obtain rfl : x = ⟨s, xs⟩ := by simpa using hx
      refine ⟨⟨z.cm, fun ad ha _ => ?_⟩, hl⟩
      have h1 := z.si ad.block (by show s.blk = _; rw [Sl.blk]; rw [show s.a = some ad from ha]; rfl)
      refine ⟨⟨by omega, fun e => ?_, h1.2⟩, by omega⟩
      have := Own.lt h.oi e; omega
  · rcases hk with e | e
    · have := h.vi k e; omega
    · have := h.gi; omega
theorem slice4 (tb tp tc : Nat) (htc : 512 ≤ tc) (w : World) : (Instr.sliceAt 28 (.slice (some ⟨tb, tp, none⟩) 512 tc) none (some (.int .i64 4)) none).run Try.prog w = .ok (.slice (some ⟨tb, tp, none⟩) 4 tc) w := by
  have h := slice_upto (some ⟨tb, tp, none⟩) 512 tc 4 (by omega) w
  have e : fromA (some ⟨tb, tp, none⟩) tc 0 = some ⟨tb, tp, none⟩ := by
    unfold fromA
    rw [if_neg (by omega)]
    simp [Addr.add_lit]
  rw [e] at h
  exact h

set_option maxHeartbeats 2000000 in
set_option maxRecDepth 100000 in
theorem rdc11 (w : World) (tb tp tc : Nat) (xs : List Nat) (bb : Bool) (htc : 512 ≤ tc) (h0 : Bs w (some ⟨tb, tp, none⟩) 4 (xs.take 4)) (h4 : Bs w (some ⟨tb, tp + 4, none⟩) 508 (xs.drop 4)) (hbb : (!((bstr (fourB (Ta.sum (xs.drop 4)))).toList == (bstr (xs.take 4)).toList)) = bb)
    {Q : Exit → Act → World → Prop} {A : Act} (hsz : A.tmps.size = 114) (hdf : A.defers = []) (s0 : A.tmps.getD 0 undef = .slice (some ⟨tb, tp, none⟩) 512 tc) (s6 : A.tmps.getD 6 undef = .slice (some ⟨tb, tp + 4, none⟩) 508 (tc - 4))
    (hend : ∀ (u : Nat → Value) w', Below w.heap.size w w' → Q .normal (((((((((A).put (some 35) (u 35)).put (some 39) (u 39)).put (some 40) (u 40)).put (some 41) (u 41)).put (some 36) (u 36)).put (some 37) (u 37)).put (some 38) (u 38)).put (some 42) (.bool bb)) w') :
    (Code.region 11 (Pl.find 11 ((Try.f18.body).getD .skip)) true).wp Try.prog Q A w := by
  have hA := Pl.At.same (v := .slice (some ⟨tb, tp + 4, none⟩) 508 (tc - 4)) (d := 6) (Pl.At.same (v := .slice (some ⟨tb, tp, none⟩) 512 tc) (d := 0) (Pl.At.here hsz hdf) s0) s6
  refine Pl.H.start (S := (fun w' => Below w.heap.size w w')) (by kernel_rfl) hA (below_drew w) ?_
  rw [show (Pl.find 11 ((Try.f18.body).getD .skip)).size = 8 by kernel_rfl]
  refine Pl.H.take 0 35 (.slice (some ⟨tb, tp + 4, none⟩) 508 (tc - 4)) (by kernel_rfl) (by kernel_rfl) (by kernel_rfl) (Pl.free 0 (by kernel_rfl)) (Pl.move 0 (.tmp 6) (by kernel_rfl) (by decide)) (below_drew w) ?_
  refine Pl.H.take 4 39 (.slice (some ⟨tb, tp, none⟩) 512 tc) (by kernel_rfl) (by kernel_rfl) (by kernel_rfl) (Pl.free 4 (by kernel_rfl)) (Pl.move 4 (.tmp 0) (by kernel_rfl) (by decide)) (below_drew w) ?_
  refine Pl.H.take 5 40 (.slice (some ⟨tb, tp, none⟩) 4 tc) (by kernel_rfl) (by kernel_rfl) (by kernel_rfl) (Pl.free 5 (by kernel_rfl)) (Pl.slice 5 28 (.tmp 39) none (some (.const (.int .i64 4))) _ (by kernel_rfl) (by decide) (by decide) (by decide) (fun w => slice4 tb tp tc htc w)) (below_drew w) ?_
  refine Pl.H.take 6 41 (.string (bstr (xs.take 4))) (by kernel_rfl) (by kernel_rfl) (by kernel_rfl) (Pl.free 6 (by kernel_rfl)) (Pl.convV 6 28 9 (.tmp 40) (.slice (some ⟨tb, tp, none⟩) 4 tc) _ (by kernel_rfl) (by decide) rfl (fun w' hS => run_string_of tc (h0.keep hS (Nat.le_refl _)))) (below_drew w) ?_
  refine Pl.H.call 1 36 37 [(.tmp 35)] #[28] (by kernel_rfl) (by kernel_rfl) (by kernel_rfl) (Pl.free 1 (by kernel_rfl)) (by kernel_rfl) (by decide) entSumD (Calls.mono (rsum_any (some ⟨tb, tp + 4, none⟩) 508 (tc - 4) (xs.drop 4) w.drew (h4.keep (below_drew w) (Nat.le_refl _)) (by decide)) ?_)
  rintro e w1 ⟨rfl, hw1⟩
  subst hw1
  refine ⟨.int .u32 ((Ta.sum (xs.drop 4) : Nat) : Int), rfl, (below_drew w), ?_⟩
  refine Pl.H.call 2 37 36 [(.tmp 36)] #[63] (by kernel_rfl) (by kernel_rfl) (by kernel_rfl) (Pl.free 2 (by kernel_rfl)) (by kernel_rfl) (by decide) entFourD (Calls.mono (four_any (Ta.sum (xs.drop 4)) (Ta.sum_lt h4.2.1) w.drew) ?_)
  rintro e w2 ⟨rfl, hw2⟩
  subst hw2
  have ea := rBelow (below_drew w) (below_alloc w.drew (.cells (vals (fourB (Ta.sum (xs.drop 4)))).toArray 5))
  have hf2 := bs_marked w.drew (fourB (Ta.sum (xs.drop 4))) (0, 0) (fourB_bytes (Ta.sum_lt h4.2.1))
  refine ⟨.slice (some ⟨w.drew.heap.size, 0, none⟩) 4 4, rfl, ea, ?_⟩
  refine Pl.H.make 3 38 (.string (bstr (fourB (Ta.sum (xs.drop 4))))) (w.drew.alloc (.cells (vals (fourB (Ta.sum (xs.drop 4)))).toArray 5)) (by kernel_rfl) (by kernel_rfl) (by kernel_rfl) (Pl.free 3 (by kernel_rfl)) (Pl.convM 3 28 9 (.tmp 37) _ _ (by kernel_rfl) (by decide) (run_string_of 4 hf2)) ea ?_
  refine Pl.H.take 7 42 (.bool bb) (by kernel_rfl) (by kernel_rfl) (by kernel_rfl) (Pl.free 7 (by kernel_rfl)) (Pl.binV 7 .neq 9 9 (.tmp 38) (.tmp 41) (.string (bstr (fourB (Ta.sum (xs.drop 4))))) (.string (bstr (xs.take 4))) _ (by kernel_rfl) (by decide) (by decide) rfl rfl (neqS _ _ _ _ bb hbb)) ea ?_
  refine Pl.H.done (by kernel_rfl) (fun A' hA' => ?_)
  rw [Pl.At.ext hA' ((((((((hA.put 35 _).put 39 _).put 40 _).put 41 _).put 36 _).put 37 _).put 38 _).put 42 _)]
  exact hend (fun d => if d = 35 then .slice (some ⟨tb, tp + 4, none⟩) 508 (tc - 4) else if d = 39 then .slice (some ⟨tb, tp, none⟩) 512 tc else if d = 40 then .slice (some ⟨tb, tp, none⟩) 4 tc else if d = 41 then .string (bstr (xs.take 4)) else if d = 36 then .int .u32 ((Ta.sum (xs.drop 4) : Nat) : Int) else if d = 37 then .slice (some ⟨w.drew.heap.size, 0, none⟩) 4 4 else if d = 38 then .string (bstr (fourB (Ta.sum (xs.drop 4)))) else undef) _ ea

set_option maxHeartbeats 2000000 in
set_option maxRecDepth 100000 in
theorem rdc21 (w : World) (g nn c : Nat) (wa wb wc wd : Int) (hn : 6 ≤ nn) (h1 : w.cell? ⟨g, 1 * 4 + 1, none⟩ = some (.int .i64 wa)) (h2 : w.cell? ⟨g, 2 * 4 + 1, none⟩ = some (.int .i64 wb)) (h3 : w.cell? ⟨g, 3 * 4 + 1, none⟩ = some (.int .i64 wc)) (h4 : w.cell? ⟨g, 4 * 4 + 1, none⟩ = some (.int .i64 wd))
    {Q : Exit → Act → World → Prop} {A : Act} (hsz : A.tmps.size = 114) (hdf : A.defers = []) (s9 : A.tmps.getD 9 undef = .slice (some ⟨g, 0, none⟩) nn c)
    (hend : ∀ (u : Nat → Value) w' (g3 : Nat) (s0 : Sl), Cp w w' g3 s0 Sl.nil [wa, wb, wc, wd] [] → Q .normal ((((((((((((((((((((A).put (some 66) (u 66)).put (some 67) (u 67)).put (some 68) (u 68)).put (some 69) (u 69)).put (some 70) (u 70)).put (some 71) (u 71)).put (some 72) (u 72)).put (some 73) (u 73)).put (some 74) (u 74)).put (some 75) (u 75)).put (some 76) (u 76)).put (some 77) (u 77)).put (some 78) (u 78)).put (some 79) (u 79)).put (some 80) (u 80)).put (some 81) (u 81)).put (some 82) (u 82)).put (some 83) (u 83)).put (some 12) (.pointer (some ⟨g3, 0, none⟩))) w') :
    (Code.region 21 (Pl.find 21 ((Try.f18.body).getD .skip)) true).wp Try.prog Q A w := by
  have hA := Pl.At.same (v := .slice (some ⟨g, 0, none⟩) nn c) (d := 9) (Pl.At.here hsz hdf) s9
  refine Pl.H.start (S := (fun w' => Below w.heap.size w w')) (by kernel_rfl) hA (below_drew w) ?_
  rw [show (Pl.find 21 ((Try.f18.body).getD .skip)).size = 20 by kernel_rfl]
  refine Pl.H.take 0 66 (.slice (some ⟨g, 0, none⟩) nn c) (by kernel_rfl) (by kernel_rfl) (by kernel_rfl) (Pl.free 0 (by kernel_rfl)) (Pl.move 0 (.tmp 9) (by kernel_rfl) (by decide)) (below_drew w) ?_
  refine Pl.H.take 1 67 (.pointer (some ⟨g, 1 * 4, none⟩)) (by kernel_rfl) (by kernel_rfl) (by kernel_rfl) (Pl.free 1 (by kernel_rfl)) (Pl.index 1 50 (.tmp 66) (.const (.int .i64 1)) _ (by kernel_rfl) (by decide) (by decide) (fun w => ixIt g nn c 1 (by omega) w)) (below_drew w) ?_
  refine Pl.H.take 2 68 (.pointer (some ⟨g, 1 * 4 + 1, none⟩)) (by kernel_rfl) (by kernel_rfl) (by kernel_rfl) (Pl.free 2 (by kernel_rfl)) (Pl.field 2 59 (.tmp 67) 1 _ (by kernel_rfl) (by decide) (fdIt g (1 * 4) 1 (.inl rfl))) (below_drew w) ?_
  refine Pl.H.take 3 69 (.int .i64 wa) (by kernel_rfl) (by kernel_rfl) (by kernel_rfl) (Pl.free 3 (by kernel_rfl)) (Pl.load 3 3 (.tmp 68) _ (by kernel_rfl) (by decide) (fun w' hS => ldI1 g (1 * 4 + 1) wa w' (cell_below h1 hS))) (below_drew w) ?_
  refine Pl.H.take 4 70 (.slice (some ⟨g, 0, none⟩) nn c) (by kernel_rfl) (by kernel_rfl) (by kernel_rfl) (Pl.free 4 (by kernel_rfl)) (Pl.move 4 (.tmp 9) (by kernel_rfl) (by decide)) (below_drew w) ?_
  refine Pl.H.take 5 71 (.pointer (some ⟨g, 2 * 4, none⟩)) (by kernel_rfl) (by kernel_rfl) (by kernel_rfl) (Pl.free 5 (by kernel_rfl)) (Pl.index 5 50 (.tmp 70) (.const (.int .i64 2)) _ (by kernel_rfl) (by decide) (by decide) (fun w => ixIt g nn c 2 (by omega) w)) (below_drew w) ?_
  refine Pl.H.take 6 72 (.pointer (some ⟨g, 2 * 4 + 1, none⟩)) (by kernel_rfl) (by kernel_rfl) (by kernel_rfl) (Pl.free 6 (by kernel_rfl)) (Pl.field 6 59 (.tmp 71) 1 _ (by kernel_rfl) (by decide) (fdIt g (2 * 4) 1 (.inl rfl))) (below_drew w) ?_
  refine Pl.H.take 7 73 (.int .i64 wb) (by kernel_rfl) (by kernel_rfl) (by kernel_rfl) (Pl.free 7 (by kernel_rfl)) (Pl.load 7 3 (.tmp 72) _ (by kernel_rfl) (by decide) (fun w' hS => ldI1 g (2 * 4 + 1) wb w' (cell_below h2 hS))) (below_drew w) ?_
  refine Pl.H.take 8 74 (.slice (some ⟨g, 0, none⟩) nn c) (by kernel_rfl) (by kernel_rfl) (by kernel_rfl) (Pl.free 8 (by kernel_rfl)) (Pl.move 8 (.tmp 9) (by kernel_rfl) (by decide)) (below_drew w) ?_
  refine Pl.H.take 9 75 (.pointer (some ⟨g, 3 * 4, none⟩)) (by kernel_rfl) (by kernel_rfl) (by kernel_rfl) (Pl.free 9 (by kernel_rfl)) (Pl.index 9 50 (.tmp 74) (.const (.int .i64 3)) _ (by kernel_rfl) (by decide) (by decide) (fun w => ixIt g nn c 3 (by omega) w)) (below_drew w) ?_
  refine Pl.H.take 10 76 (.pointer (some ⟨g, 3 * 4 + 1, none⟩)) (by kernel_rfl) (by kernel_rfl) (by kernel_rfl) (Pl.free 10 (by kernel_rfl)) (Pl.field 10 59 (.tmp 75) 1 _ (by kernel_rfl) (by decide) (fdIt g (3 * 4) 1 (.inl rfl))) (below_drew w) ?_
  refine Pl.H.take 11 77 (.int .i64 wc) (by kernel_rfl) (by kernel_rfl) (by kernel_rfl) (Pl.free 11 (by kernel_rfl)) (Pl.load 11 3 (.tmp 76) _ (by kernel_rfl) (by decide) (fun w' hS => ldI1 g (3 * 4 + 1) wc w' (cell_below h3 hS))) (below_drew w) ?_
  refine Pl.H.take 12 78 (.slice (some ⟨g, 0, none⟩) nn c) (by kernel_rfl) (by kernel_rfl) (by kernel_rfl) (Pl.free 12 (by kernel_rfl)) (Pl.move 12 (.tmp 9) (by kernel_rfl) (by decide)) (below_drew w) ?_
  refine Pl.H.take 13 79 (.pointer (some ⟨g, 4 * 4, none⟩)) (by kernel_rfl) (by kernel_rfl) (by kernel_rfl) (Pl.free 13 (by kernel_rfl)) (Pl.index 13 50 (.tmp 78) (.const (.int .i64 4)) _ (by kernel_rfl) (by decide) (by decide) (fun w => ixIt g nn c 4 (by omega) w)) (below_drew w) ?_
  refine Pl.H.take 14 80 (.pointer (some ⟨g, 4 * 4 + 1, none⟩)) (by kernel_rfl) (by kernel_rfl) (by kernel_rfl) (Pl.free 14 (by kernel_rfl)) (Pl.field 14 59 (.tmp 79) 1 _ (by kernel_rfl) (by decide) (fdIt g (4 * 4) 1 (.inl rfl))) (below_drew w) ?_
  refine Pl.H.take 15 81 (.int .i64 wd) (by kernel_rfl) (by kernel_rfl) (by kernel_rfl) (Pl.free 15 (by kernel_rfl)) (Pl.load 15 3 (.tmp 80) _ (by kernel_rfl) (by decide) (fun w' hS => ldI1 g (4 * 4 + 1) wd w' (cell_below h4 hS))) (below_drew w) ?_
  refine Pl.H.two 16 18 (by kernel_rfl) ?_ ?_
  · have hb16 := below_alloc w.drew (.cells (cellsN [wa, wb, wc, wd]).toArray 3)
    have e16 := rBelow (below_drew w) hb16
    have n16 : OwnN (w.drew.alloc (.cells (cellsN [wa, wb, wc, wd]).toArray 3)) ⟨some ⟨w.drew.heap.size, 0, none⟩, 4, 4⟩ [wa, wb, wc, wd] := ownN_made w.drew [wa, wb, wc, wd] (by show 4 ≤ 1000000; decide)
    have un : ∀ k, Sl.blk ⟨some ⟨w.drew.heap.size, 0, none⟩, 4, 4⟩ = some k → w.heap.size ≤ k := fun k hk => by have e : some w.drew.heap.size = some k := hk; cases e; exact (below_drew w).size
    refine Pl.HOp.value 16 82 (Sl.val ⟨some ⟨w.drew.heap.size, 0, none⟩, 4, 4⟩) (w.drew.alloc (.cells (cellsN [wa, wb, wc, wd]).toArray 3)) (by kernel_rfl) (by kernel_rfl) (by kernel_rfl) (Pl.bsV 16 22 4 [(0, .tmp 69), (1, .tmp 73), (2, .tmp 77), (3, .tmp 81)] _ _ (by kernel_rfl) (by decide) (lit_four w.drew wa wb wc wd)) e16 ?_
    refine Pl.H.take 17 83 (lfV ⟨some ⟨w.drew.heap.size, 0, none⟩, 4, 4⟩ Sl.nil) (by kernel_rfl) (by kernel_rfl) (by kernel_rfl) (Pl.free 17 (by kernel_rfl)) (Pl.buildV 17 25 [(0, .tmp 82)] _ (by kernel_rfl) (by decide) (build_lf0 ⟨some ⟨w.drew.heap.size, 0, none⟩, 4, 4⟩)) e16 ?_
    have hb18 := below_alloc (w.drew.alloc (.cells (cellsN [wa, wb, wc, wd]).toArray 3)) (.cells #[.slice none 0 0, .slice none 0 0] 25)
    have e18 := rBelow e16 hb18
    have k18 := lfBlk_new (w.drew.alloc (.cells (cellsN [wa, wb, wc, wd]).toArray 3)) (.slice none 0 0) (.slice none 0 0)
    have gn : w.heap.size ≤ (w.drew.alloc (.cells (cellsN [wa, wb, wc, wd]).toArray 3)).heap.size := e16.size
    have n18 : OwnN ((w.drew.alloc (.cells (cellsN [wa, wb, wc, wd]).toArray 3)).alloc (.cells #[.slice none 0 0, .slice none 0 0] 25)) ⟨some ⟨w.drew.heap.size, 0, none⟩, 4, 4⟩ [wa, wb, wc, wd] := Own.below n16 hb18
    refine Pl.H.make 18 12 (.pointer (some ⟨(w.drew.alloc (.cells (cellsN [wa, wb, wc, wd]).toArray 3)).heap.size, 0, none⟩)) ((w.drew.alloc (.cells (cellsN [wa, wb, wc, wd]).toArray 3)).alloc (.cells #[.slice none 0 0, .slice none 0 0] 25)) (by kernel_rfl) (by kernel_rfl) (by kernel_rfl) (Pl.free 18 (by kernel_rfl)) (Pl.allocV 18 25 _ _ (by kernel_rfl) (alloc_lf (w.drew.alloc (.cells (cellsN [wa, wb, wc, wd]).toArray 3)))) e18 ?_
    obtain ⟨W8, hst8, k8, f8⟩ := st_lf ((w.drew.alloc (.cells (cellsN [wa, wb, wc, wd]).toArray 3)).alloc (.cells #[.slice none 0 0, .slice none 0 0] 25)) ((w.drew.alloc (.cells (cellsN [wa, wb, wc, wd]).toArray 3)).heap.size) _ _ k18 ⟨some ⟨w.drew.heap.size, 0, none⟩, 4, 4⟩ Sl.nil
    have e8 : Below w.heap.size w W8 := e18.trans (f8.below e18.size (fun k hk => by rw [hk]; exact gn))
    have cp : Cp w W8 ((w.drew.alloc (.cells (cellsN [wa, wb, wc, wd]).toArray 3)).heap.size) ⟨some ⟨w.drew.heap.size, 0, none⟩, 4, 4⟩ Sl.nil [wa, wb, wc, wd] [] := ⟨k8, Own.kept n18 f8 (Own.unbox n18 k18 (by decide)), Own.nil _ _ _, un, fun k hk => (by cases hk), gn, e8⟩
    refine Pl.H.store 19 W8 (by kernel_rfl) (by kernel_rfl) (by kernel_rfl) (Pl.free 19 (by kernel_rfl)) (Pl.storeV 19 25 (.tmp 12) (.tmp 83) _ (by kernel_rfl) (by decide) (by decide) hst8) e8 ?_
    refine Pl.H.done (by kernel_rfl) (fun A' hA' => ?_)
    rw [Pl.At.ext hA' (((((((((((((((((((hA.put 66 _).put 67 _).put 68 _).put 69 _).put 70 _).put 71 _).put 72 _).put 73 _).put 74 _).put 75 _).put 76 _).put 77 _).put 78 _).put 79 _).put 80 _).put 81 _).put 82 _).put 83 _).put 12 _)]
    exact hend (fun d => if d = 66 then .slice (some ⟨g, 0, none⟩) nn c else if d = 67 then .pointer (some ⟨g, 1 * 4, none⟩) else if d = 68 then .pointer (some ⟨g, 1 * 4 + 1, none⟩) else if d = 69 then .int .i64 wa else if d = 70 then .slice (some ⟨g, 0, none⟩) nn c else if d = 71 then .pointer (some ⟨g, 2 * 4, none⟩) else if d = 72 then .pointer (some ⟨g, 2 * 4 + 1, none⟩) else if d = 73 then .int .i64 wb else if d = 74 then .slice (some ⟨g, 0, none⟩) nn c else if d = 75 then .pointer (some ⟨g, 3 * 4, none⟩) else if d = 76 then .pointer (some ⟨g, 3 * 4 + 1, none⟩) else if d = 77 then .int .i64 wc else if d = 78 then .slice (some ⟨g, 0, none⟩) nn c else if d = 79 then .pointer (some ⟨g, 4 * 4, none⟩) else if d = 80 then .pointer (some ⟨g, 4 * 4 + 1, none⟩) else if d = 81 then .int .i64 wd else if d = 82 then Sl.val ⟨some ⟨w.drew.heap.size, 0, none⟩, 4, 4⟩ else if d = 83 then lfV ⟨some ⟨w.drew.heap.size, 0, none⟩, 4, 4⟩ Sl.nil else undef) _ _ ⟨some ⟨w.drew.heap.size, 0, none⟩, 4, 4⟩ cp
  · have hb18 := below_alloc w.drew (.cells #[.slice none 0 0, .slice none 0 0] 25)
    have e18 := rBelow (below_drew w) hb18
    have k18 := lfBlk_new w.drew (.slice none 0 0) (.slice none 0 0)
    have gn : w.heap.size ≤ w.drew.heap.size := (below_drew w).size
    refine Pl.HOp.value 18 12 (.pointer (some ⟨w.drew.heap.size, 0, none⟩)) (w.drew.alloc (.cells #[.slice none 0 0, .slice none 0 0] 25)) (by kernel_rfl) (by kernel_rfl) (by kernel_rfl) (Pl.allocV 18 25 _ _ (by kernel_rfl) (alloc_lf w.drew)) e18 ?_
    have hb16 := below_alloc (w.drew.alloc (.cells #[.slice none 0 0, .slice none 0 0] 25)) (.cells (cellsN [wa, wb, wc, wd]).toArray 3)
    have e16 := rBelow e18 hb16
    have n16 : OwnN ((w.drew.alloc (.cells #[.slice none 0 0, .slice none 0 0] 25)).alloc (.cells (cellsN [wa, wb, wc, wd]).toArray 3)) ⟨some ⟨(w.drew.alloc (.cells #[.slice none 0 0, .slice none 0 0] 25)).heap.size, 0, none⟩, 4, 4⟩ [wa, wb, wc, wd] := ownN_made (w.drew.alloc (.cells #[.slice none 0 0, .slice none 0 0] 25)) [wa, wb, wc, wd] (by show 4 ≤ 1000000; decide)
    have un : ∀ k, Sl.blk ⟨some ⟨(w.drew.alloc (.cells #[.slice none 0 0, .slice none 0 0] 25)).heap.size, 0, none⟩, 4, 4⟩ = some k → w.heap.size ≤ k := fun k hk => by have e : some (w.drew.alloc (.cells #[.slice none 0 0, .slice none 0 0] 25)).heap.size = some k := hk; cases e; exact e18.size
    have k16 : LfBlk ((w.drew.alloc (.cells #[.slice none 0 0, .slice none 0 0] 25)).alloc (.cells (cellsN [wa, wb, wc, wd]).toArray 3)) w.drew.heap.size (.slice none 0 0) (.slice none 0 0) := LfBlk.below k18 hb16
    refine Pl.H.make 16 82 (Sl.val ⟨some ⟨(w.drew.alloc (.cells #[.slice none 0 0, .slice none 0 0] 25)).heap.size, 0, none⟩, 4, 4⟩) ((w.drew.alloc (.cells #[.slice none 0 0, .slice none 0 0] 25)).alloc (.cells (cellsN [wa, wb, wc, wd]).toArray 3)) (by kernel_rfl) (by kernel_rfl) (by kernel_rfl) (Pl.free 16 (by kernel_rfl)) (Pl.bsV 16 22 4 [(0, .tmp 69), (1, .tmp 73), (2, .tmp 77), (3, .tmp 81)] _ _ (by kernel_rfl) (by decide) (lit_four (w.drew.alloc (.cells #[.slice none 0 0, .slice none 0 0] 25)) wa wb wc wd)) e16 ?_
    rw [Pl.upd_comm _ 12 82 _ _ (by decide)]
    refine Pl.H.take 17 83 (lfV ⟨some ⟨(w.drew.alloc (.cells #[.slice none 0 0, .slice none 0 0] 25)).heap.size, 0, none⟩, 4, 4⟩ Sl.nil) (by kernel_rfl) (by kernel_rfl) (by kernel_rfl) (Pl.free 17 (by kernel_rfl)) (Pl.buildV 17 25 [(0, .tmp 82)] _ (by kernel_rfl) (by decide) (build_lf0 ⟨some ⟨(w.drew.alloc (.cells #[.slice none 0 0, .slice none 0 0] 25)).heap.size, 0, none⟩, 4, 4⟩)) e16 ?_
    rw [Pl.upd_comm _ 12 83 _ _ (by decide)]
    obtain ⟨W8, hst8, k8, f8⟩ := st_lf ((w.drew.alloc (.cells #[.slice none 0 0, .slice none 0 0] 25)).alloc (.cells (cellsN [wa, wb, wc, wd]).toArray 3)) w.drew.heap.size _ _ k16 ⟨some ⟨(w.drew.alloc (.cells #[.slice none 0 0, .slice none 0 0] 25)).heap.size, 0, none⟩, 4, 4⟩ Sl.nil
    have e8 : Below w.heap.size w W8 := e16.trans (f8.below e16.size (fun k hk => by rw [hk]; exact gn))
    have cp : Cp w W8 w.drew.heap.size ⟨some ⟨(w.drew.alloc (.cells #[.slice none 0 0, .slice none 0 0] 25)).heap.size, 0, none⟩, 4, 4⟩ Sl.nil [wa, wb, wc, wd] [] := ⟨k8, Own.kept n16 f8 (Own.unbox n16 k16 (by decide)), Own.nil _ _ _, un, fun k hk => (by cases hk), gn, e8⟩
    refine Pl.H.store 19 W8 (by kernel_rfl) (by kernel_rfl) (by kernel_rfl) (Pl.free 19 (by kernel_rfl)) (Pl.storeV 19 25 (.tmp 12) (.tmp 83) _ (by kernel_rfl) (by decide) (by decide) hst8) e8 ?_
    refine Pl.H.done (by kernel_rfl) (fun A' hA' => ?_)
    rw [Pl.At.ext hA' (((((((((((((((((((hA.put 66 _).put 67 _).put 68 _).put 69 _).put 70 _).put 71 _).put 72 _).put 73 _).put 74 _).put 75 _).put 76 _).put 77 _).put 78 _).put 79 _).put 80 _).put 81 _).put 82 _).put 83 _).put 12 _)]
    exact hend (fun d => if d = 66 then .slice (some ⟨g, 0, none⟩) nn c else if d = 67 then .pointer (some ⟨g, 1 * 4, none⟩) else if d = 68 then .pointer (some ⟨g, 1 * 4 + 1, none⟩) else if d = 69 then .int .i64 wa else if d = 70 then .slice (some ⟨g, 0, none⟩) nn c else if d = 71 then .pointer (some ⟨g, 2 * 4, none⟩) else if d = 72 then .pointer (some ⟨g, 2 * 4 + 1, none⟩) else if d = 73 then .int .i64 wb else if d = 74 then .slice (some ⟨g, 0, none⟩) nn c else if d = 75 then .pointer (some ⟨g, 3 * 4, none⟩) else if d = 76 then .pointer (some ⟨g, 3 * 4 + 1, none⟩) else if d = 77 then .int .i64 wc else if d = 78 then .slice (some ⟨g, 0, none⟩) nn c else if d = 79 then .pointer (some ⟨g, 4 * 4, none⟩) else if d = 80 then .pointer (some ⟨g, 4 * 4 + 1, none⟩) else if d = 81 then .int .i64 wd else if d = 82 then Sl.val ⟨some ⟨(w.drew.alloc (.cells #[.slice none 0 0, .slice none 0 0] 25)).heap.size, 0, none⟩, 4, 4⟩ else if d = 83 then lfV ⟨some ⟨(w.drew.alloc (.cells #[.slice none 0 0, .slice none 0 0] 25)).heap.size, 0, none⟩, 4, 4⟩ Sl.nil else undef) _ _ ⟨some ⟨(w.drew.alloc (.cells #[.slice none 0 0, .slice none 0 0] 25)).heap.size, 0, none⟩, 4, 4⟩ cp

set_option maxHeartbeats 2000000 in
set_option maxRecDepth 100000 in
theorem rdc26A {D : Nat → Prop} (w : World) (g tb tp tc : Nat) (u v : Sl) (t : List Int) (l : List Sb) (hi : Gi D w u t) (hg : Gb D w v l) (hk : LfBlk w g u.val v.val) (hm : ¬ MayL ⟨t, bss l⟩)
    {Q : Exit → Act → World → Prop} {A : Act} (hsz : A.tmps.size = 114) (hdf : A.defers = []) (s0 : A.tmps.getD 0 undef = .slice (some ⟨tb, tp, none⟩) 512 tc) (s12 : A.tmps.getD 12 undef = .pointer (some ⟨g, 0, none⟩))
    (hend : ∀ (u : Nat → Value) w', Below w.heap.size w w' → Q .normal ((((((((((((A).put (some 101) (u 101)).put (some 102) (u 102)).put (some 103) (u 103)).put (some 104) (u 104)).put (some 105) (u 105)).put (some 106) (u 106)).put (some 107) (u 107)).put (some 108) (u 108)).put (some 109) (u 109)).put (some 110) (u 110)).put (some 111) (.bool true)) w') :
    (Code.region 26 (Pl.find 26 ((Try.f18.body).getD .skip)) true).wp Try.prog Q A w := by
  have hA := Pl.At.same (v := .pointer (some ⟨g, 0, none⟩)) (d := 12) (Pl.At.same (v := .slice (some ⟨tb, tp, none⟩) 512 tc) (d := 0) (Pl.At.here hsz hdf) s0) s12
  refine Pl.H.start (S := (fun w' => Below w.heap.size w w')) (by kernel_rfl) hA (below_drew w) ?_
  rw [show (Pl.find 26 ((Try.f18.body).getD .skip)).size = 11 by kernel_rfl]
  refine Pl.H.take 0 101 (lfV u v) (by kernel_rfl) (by kernel_rfl) (by kernel_rfl) (Pl.free 0 (by kernel_rfl)) (Pl.load 0 25 (.tmp 12) _ (by kernel_rfl) (by decide) (fun w' hS => ldLfD g u v w' (hk.below hS))) (below_drew w) ?_
  refine Pl.H.call 1 102 11 [(.tmp 101)] #[25] (by kernel_rfl) (by kernel_rfl) (by kernel_rfl) (Pl.free 1 (by kernel_rfl)) (by kernel_rfl) (by decide) entMayD (Calls.mono (rmay_no w.drew u v t l (hi.below (below_drew w) (Nat.le_refl _)) (hg.below (below_drew w) (Nat.le_refl _)) hm) ?_)
  rintro e w1 ⟨rfl, hb1⟩
  have e1 := rBelow (below_drew w) hb1
  refine ⟨.bool false, rfl, e1, ?_⟩
  refine Pl.H.take 2 103 (.bool true) (by kernel_rfl) (by kernel_rfl) (by kernel_rfl) (Pl.free 2 (by kernel_rfl)) (Pl.neg 2 4 (.tmp 102) false (by kernel_rfl) (by decide) rfl) e1 ?_
  refine Pl.H.take 3 104 (.bool true) (by kernel_rfl) (by kernel_rfl) (by kernel_rfl) (Pl.free 3 (by kernel_rfl)) (Pl.move 3 (.tmp 103) (by kernel_rfl) (by decide)) e1 ?_
  refine Pl.H.skip 4 105 (by kernel_rfl) (by kernel_rfl) (by kernel_rfl) (Pl.unwanted 4 3 104 false (by kernel_rfl) (by kernel_rfl) (by decide) rfl) e1 ?_
  refine Pl.H.skip 5 106 (by kernel_rfl) (by kernel_rfl) (by kernel_rfl) (Pl.unwanted 5 3 104 false (by kernel_rfl) (by kernel_rfl) (by decide) rfl) e1 ?_
  refine Pl.H.skip 6 107 (by kernel_rfl) (by kernel_rfl) (by kernel_rfl) (Pl.unwanted 6 3 104 false (by kernel_rfl) (by kernel_rfl) (by decide) rfl) e1 ?_
  refine Pl.H.skip 7 108 (by kernel_rfl) (by kernel_rfl) (by kernel_rfl) (Pl.unwanted 7 3 104 false (by kernel_rfl) (by kernel_rfl) (by decide) rfl) e1 ?_
  refine Pl.H.skip 8 109 (by kernel_rfl) (by kernel_rfl) (by kernel_rfl) (Pl.unwanted 8 3 104 false (by kernel_rfl) (by kernel_rfl) (by decide) rfl) e1 ?_
  refine Pl.H.skip 9 110 (by kernel_rfl) (by kernel_rfl) (by kernel_rfl) (Pl.unwanted 9 3 104 false (by kernel_rfl) (by kernel_rfl) (by decide) rfl) e1 ?_
  refine Pl.H.take 10 111 (.bool true) (by kernel_rfl) (by kernel_rfl) (by kernel_rfl) (Pl.free 10 (by kernel_rfl)) (Pl.pick 10 (.tmp 104) (.const (.bool true)) (.tmp 110) (by kernel_rfl) (by decide) (by decide) rfl) e1 ?_
  refine Pl.H.done (by kernel_rfl) (fun A' hA' => ?_)
  rw [Pl.At.ext hA' (((((((((((hA.put 101 _).put 102 _).put 103 _).put 104 _).put 105 _).put 106 _).put 107 _).put 108 _).put 109 _).put 110 _).put 111 _)]
  exact hend (fun d => if d = 101 then lfV u v else if d = 102 then .bool false else if d = 103 then .bool true else if d = 104 then .bool true else if d = 105 then undef else if d = 106 then undef else if d = 107 then undef else if d = 108 then undef else if d = 109 then undef else if d = 110 then undef else undef) _ e1

set_option maxHeartbeats 2000000 in
set_option maxRecDepth 100000 in
theorem rdc26B {D : Nat → Prop} (w : World) (g tb tp tc : Nat) (u v : Sl) (t : List Int) (l : List Sb) (hi : Gi D w u t) (hg : Gb D w v l) (hk : LfBlk w g u.val v.val) (xs : List Nat) (bb : Bool) (hok : OkL t (bss l)) (hx : Bs w (some ⟨tb, tp, none⟩) 512 xs) (hbb : (!((bstr (pageL t (bss l))).toList == (bstr xs).toList)) = bb)
    {Q : Exit → Act → World → Prop} {A : Act} (hsz : A.tmps.size = 114) (hdf : A.defers = []) (s0 : A.tmps.getD 0 undef = .slice (some ⟨tb, tp, none⟩) 512 tc) (s12 : A.tmps.getD 12 undef = .pointer (some ⟨g, 0, none⟩))
    (hend : ∀ (u : Nat → Value) w', Below w.heap.size w w' → Q .normal ((((((((((((A).put (some 101) (u 101)).put (some 102) (u 102)).put (some 103) (u 103)).put (some 104) (u 104)).put (some 105) (u 105)).put (some 108) (u 108)).put (some 109) (u 109)).put (some 106) (u 106)).put (some 107) (u 107)).put (some 110) (u 110)).put (some 111) (.bool bb)) w') :
    (Code.region 26 (Pl.find 26 ((Try.f18.body).getD .skip)) true).wp Try.prog Q A w := by
  have hA := Pl.At.same (v := .pointer (some ⟨g, 0, none⟩)) (d := 12) (Pl.At.same (v := .slice (some ⟨tb, tp, none⟩) 512 tc) (d := 0) (Pl.At.here hsz hdf) s0) s12
  refine Pl.H.start (S := (fun w' => Below w.heap.size w w')) (by kernel_rfl) hA (below_drew w) ?_
  rw [show (Pl.find 26 ((Try.f18.body).getD .skip)).size = 11 by kernel_rfl]
  refine Pl.H.take 0 101 (lfV u v) (by kernel_rfl) (by kernel_rfl) (by kernel_rfl) (Pl.free 0 (by kernel_rfl)) (Pl.load 0 25 (.tmp 12) _ (by kernel_rfl) (by decide) (fun w' hS => ldLfD g u v w' (hk.below hS))) (below_drew w) ?_
  refine Pl.H.call 1 102 11 [(.tmp 101)] #[25] (by kernel_rfl) (by kernel_rfl) (by kernel_rfl) (Pl.free 1 (by kernel_rfl)) (by kernel_rfl) (by decide) entMayD (Calls.mono (rmay_yes w.drew u v t l (hi.below (below_drew w) (Nat.le_refl _)) (hg.below (below_drew w) (Nat.le_refl _)) hok.may) ?_)
  rintro e w1 ⟨rfl, hb1⟩
  have e1 := rBelow (below_drew w) hb1
  refine ⟨.bool true, rfl, e1, ?_⟩
  refine Pl.H.take 2 103 (.bool false) (by kernel_rfl) (by kernel_rfl) (by kernel_rfl) (Pl.free 2 (by kernel_rfl)) (Pl.neg 2 4 (.tmp 102) true (by kernel_rfl) (by decide) rfl) e1 ?_
  refine Pl.H.take 3 104 (.bool false) (by kernel_rfl) (by kernel_rfl) (by kernel_rfl) (Pl.free 3 (by kernel_rfl)) (Pl.move 3 (.tmp 103) (by kernel_rfl) (by decide)) e1 ?_
  refine Pl.H.take 4 105 (lfV u v) (by kernel_rfl) (by kernel_rfl) (by kernel_rfl) (Pl.guarded 4 3 104 false (by kernel_rfl) (by kernel_rfl) (by decide) rfl) (Pl.load 4 25 (.tmp 12) _ (by kernel_rfl) (by decide) (fun w' hS => ldLfD g u v w' (hk.below hS))) e1 ?_
  refine Pl.H.take 7 108 (.slice (some ⟨tb, tp, none⟩) 512 tc) (by kernel_rfl) (by kernel_rfl) (by kernel_rfl) (Pl.guarded 7 3 104 false (by kernel_rfl) (by kernel_rfl) (by decide) rfl) (Pl.move 7 (.tmp 0) (by kernel_rfl) (by decide)) e1 ?_
  refine Pl.H.take 8 109 (.string (bstr xs)) (by kernel_rfl) (by kernel_rfl) (by kernel_rfl) (Pl.guarded 8 3 104 false (by kernel_rfl) (by kernel_rfl) (by decide) rfl) (Pl.convV 8 28 9 (.tmp 108) (.slice (some ⟨tb, tp, none⟩) 512 tc) _ (by kernel_rfl) (by decide) rfl (fun w' hS => run_string_of tc (hx.keep hS (Nat.le_refl _)))) e1 ?_
  refine Pl.H.call 5 106 16 [(.tmp 105)] #[25] (by kernel_rfl) (by kernel_rfl) (by kernel_rfl) (Pl.guarded 5 3 104 false (by kernel_rfl) (by kernel_rfl) (by decide) rfl) (by kernel_rfl) (by decide) entPageD (Calls.mono (rpage_any w1 u v t l (hi.below e1 (Nat.le_refl _)) (hg.below e1 (Nat.le_refl _)) hok) ?_)
  rintro e w5 ⟨x2, rfl, ho2, hb5⟩
  have e5 := rBelow e1 hb5
  obtain ⟨pa2, pc2, rfl, hcm2⟩ := ho2.came8 (page_bytesD hok) (page_lenD hok) (by decide)
  have hp2 := hcm2.bs
  refine ⟨.slice pa2 512 pc2, rfl, e5, ?_⟩
  refine Pl.H.make 6 107 (.string (bstr (pageL t (bss l)))) w5 (by kernel_rfl) (by kernel_rfl) (by kernel_rfl) (Pl.guarded 6 3 104 false (by kernel_rfl) (by kernel_rfl) (by decide) rfl) (Pl.convM 6 28 9 (.tmp 106) _ _ (by kernel_rfl) (by decide) (run_string_of pc2 hp2)) e5 ?_
  refine Pl.H.take 9 110 (.bool bb) (by kernel_rfl) (by kernel_rfl) (by kernel_rfl) (Pl.guarded 9 3 104 false (by kernel_rfl) (by kernel_rfl) (by decide) rfl) (Pl.binV 9 .neq 9 9 (.tmp 107) (.tmp 109) (.string (bstr (pageL t (bss l)))) (.string (bstr xs)) _ (by kernel_rfl) (by decide) (by decide) rfl rfl (neqS _ _ _ _ bb hbb)) e5 ?_
  refine Pl.H.take 10 111 (.bool bb) (by kernel_rfl) (by kernel_rfl) (by kernel_rfl) (Pl.free 10 (by kernel_rfl)) (Pl.pickF 10 (.tmp 104) (.const (.bool true)) (.tmp 110) (by kernel_rfl) (by decide) (by decide) rfl) e5 ?_
  refine Pl.H.done (by kernel_rfl) (fun A' hA' => ?_)
  rw [Pl.At.ext hA' (((((((((((hA.put 101 _).put 102 _).put 103 _).put 104 _).put 105 _).put 108 _).put 109 _).put 106 _).put 107 _).put 110 _).put 111 _)]
  exact hend (fun d => if d = 101 then lfV u v else if d = 102 then .bool true else if d = 103 then .bool false else if d = 104 then .bool false else if d = 105 then lfV u v else if d = 108 then .slice (some ⟨tb, tp, none⟩) 512 tc else if d = 109 then .string (bstr xs) else if d = 106 then .slice pa2 512 pc2 else if d = 107 then .string (bstr (pageL t (bss l))) else if d = 110 then .bool bb else undef) _ e5

theorem conv_size {w W : World} {b : List Nat} {s : Sl} (h : (convert 9 28 (.string (bstr b))).run Try.prog w = .ok s.val W) (_ : s.a = some ⟨w.heap.size, 0, none⟩) : w.heap.size < W.heap.size := by
  have h2 := run_bytes_of_string (P := Try.prog) w 9 28 5 (bstr b) Try.underlying9 Try.underlying28 Try.underlying5
  rw [h2] at h
  have e : (w.drew.alloc _) = W := (Result.ok.inj h).2
  rw [← e, alloc_size]
  exact Nat.lt_succ_self _

set_option maxHeartbeats 2000000 in
set_option maxRecDepth 100000 in
theorem rdc25 (w : World) (g gi nn c i : Nat) (un v : Sl) (m : List Sb) (xs : List Nat) (hi : i < nn) (hxb : Bytes xs) (hxl : xs.length ≤ 1000) (hvl : v.len ≤ 1000) (hk : LfBlk w g un.val v.val) (hob : OwnB w v m) (hst : ∀ W, Frm (fun k => v.blk = some k ∨ k = g) w W → W.cell? ⟨gi, i * 4 + 3, none⟩ = some (.string (bstr xs)))
    {Q : Exit → Act → World → Prop} {A : Act} (hsz : A.tmps.size = 114) (hdf : A.defers = []) (s9 : A.tmps.getD 9 undef = .slice (some ⟨gi, 0, none⟩) nn c) (s12 : A.tmps.getD 12 undef = .pointer (some ⟨g, 0, none⟩)) (s13 : A.tmps.getD 13 undef = .int .i64 ((i : Nat) : Int))
    (hend : ∀ (u : Nat → Value) w' (v9 s7 : Sl), Lq w w' g un v v9 m xs s7 → Q .normal ((((((((((((A).put (some 90) (u 90)).put (some 92) (u 92)).put (some 93) (u 93)).put (some 94) (u 94)).put (some 95) (u 95)).put (some 96) (u 96)).put (some 91) (u 91)).put (some 97) (u 97)).put (some 98) (u 98)).put (some 99) (u 99)).put (some 100) (u 100)) w') :
    (Code.region 25 (Pl.find 25 ((Try.f18.body).getD .skip)) true).wp Try.prog Q A w := by
  have hA := Pl.At.same (v := .int .i64 ((i : Nat) : Int)) (d := 13) (Pl.At.same (v := .pointer (some ⟨g, 0, none⟩)) (d := 12) (Pl.At.same (v := .slice (some ⟨gi, 0, none⟩) nn c) (d := 9) (Pl.At.here hsz hdf) s9) s12) s13
  refine Pl.H.start (S := (fun w' => Frm (fun k => v.blk = some k ∨ k = g) w w')) (by kernel_rfl) hA (Frm.ofBelow (below_drew w)) ?_
  rw [show (Pl.find 25 ((Try.f18.body).getD .skip)).size = 12 by kernel_rfl]
  refine Pl.H.take 0 90 (.pointer (some ⟨g, 1, none⟩)) (by kernel_rfl) (by kernel_rfl) (by kernel_rfl) (Pl.free 0 (by kernel_rfl)) (Pl.field 0 25 (.tmp 12) 1 _ (by kernel_rfl) (by decide) (fdLf1 g)) (Frm.ofBelow (below_drew w)) ?_
  refine Pl.H.take 2 92 (.slice (some ⟨gi, 0, none⟩) nn c) (by kernel_rfl) (by kernel_rfl) (by kernel_rfl) (Pl.free 2 (by kernel_rfl)) (Pl.move 2 (.tmp 9) (by kernel_rfl) (by decide)) (Frm.ofBelow (below_drew w)) ?_
  refine Pl.H.take 3 93 (.int .i64 ((i : Nat) : Int)) (by kernel_rfl) (by kernel_rfl) (by kernel_rfl) (Pl.free 3 (by kernel_rfl)) (Pl.move 3 (.tmp 13) (by kernel_rfl) (by decide)) (Frm.ofBelow (below_drew w)) ?_
  refine Pl.H.take 4 94 (.pointer (some ⟨gi, i * 4, none⟩)) (by kernel_rfl) (by kernel_rfl) (by kernel_rfl) (Pl.free 4 (by kernel_rfl)) (Pl.index 4 50 (.tmp 92) (.tmp 93) _ (by kernel_rfl) (by decide) (by decide) (fun w => ixIt gi nn c i hi w)) (Frm.ofBelow (below_drew w)) ?_
  refine Pl.H.take 5 95 (.pointer (some ⟨gi, i * 4 + 3, none⟩)) (by kernel_rfl) (by kernel_rfl) (by kernel_rfl) (Pl.free 5 (by kernel_rfl)) (Pl.field 5 59 (.tmp 94) 3 _ (by kernel_rfl) (by decide) (fdIt gi (i * 4) 3 (.inr rfl))) (Frm.ofBelow (below_drew w)) ?_
  refine Pl.H.take 6 96 (.string (bstr xs)) (by kernel_rfl) (by kernel_rfl) (by kernel_rfl) (Pl.free 6 (by kernel_rfl)) (Pl.load 6 9 (.tmp 95) _ (by kernel_rfl) (by decide) (fun w' hS => ldStr gi (i * 4 + 3) (bstr xs) w' (hst w' hS))) (Frm.ofBelow (below_drew w)) ?_
  refine Pl.H.two 1 7 (by kernel_rfl) ?_ ?_
  · refine Pl.HOp.value 1 91 (Sl.val v) w.drew (by kernel_rfl) (by kernel_rfl) (by kernel_rfl) (Pl.load1 1 23 (.tmp 90) _ (by kernel_rfl) (by decide) (ldLf1 g un.val v w.drew (hk.below (below_drew w)))) (Frm.ofBelow (below_drew w)) ?_
    obtain ⟨s7, W7, hcv7, hcm7, hl7, ha7, hb7⟩ := bytes_of w.drew xs hxb hxl
    have e7 := rBelow (below_drew w) hb7
    refine Pl.H.make 7 97 (Sl.val s7) W7 (by kernel_rfl) (by kernel_rfl) (by kernel_rfl) (Pl.free 7 (by kernel_rfl)) (Pl.convM 7 9 28 (.tmp 96) _ _ (by kernel_rfl) (by decide) hcv7) (Frm.ofBelow e7) ?_
    have e8 := rBelow e7 (below_alloc W7 (.cells #[s7.val] 28))
    refine Pl.H.make 8 98 (.slice (some ⟨W7.heap.size, 0, none⟩) 1 1) (W7.alloc (.cells #[s7.val] 28)) (by kernel_rfl) (by kernel_rfl) (by kernel_rfl) (Pl.free 8 (by kernel_rfl)) (Pl.bsV 8 23 1 [(0, .tmp 97)] _ _ (by kernel_rfl) (by decide) (lit_slot W7 s7)) (Frm.ofBelow e8) ?_
    obtain ⟨v9, W9, hap9, ob9, hln9, f9, vb9⟩ := append_slot W7 v m ⟨s7, xs⟩ (Own.below hob e7) hvl
    have f9w : Frm (fun k => v.blk = some k ∨ k = g) w W9 := (Frm.ofBelow e8).trans f9 (fun _ _ h => .inl h)
    have hvw : ∀ k, v.blk = some k → k < w.heap.size := fun k hk => Own.lt hob hk
    have hgne : ¬ v.blk = some g := Own.unbox hob hk (by decide)
    have k9 : LfBlk W9 g un.val v.val := f9.lf ((hk.below e8)) hgne
    refine Pl.H.make 9 99 (Sl.val v9) W9 (by kernel_rfl) (by kernel_rfl) (by kernel_rfl) (Pl.free 9 (by kernel_rfl)) (Pl.appV 9 23 23 (.tmp 91) (.tmp 98) _ _ (by kernel_rfl) (by decide) (by decide) hap9) f9w ?_
    refine Pl.H.take 10 100 (.pointer (some ⟨g, 1, none⟩)) (by kernel_rfl) (by kernel_rfl) (by kernel_rfl) (Pl.free 10 (by kernel_rfl)) (Pl.field 10 25 (.tmp 12) 1 _ (by kernel_rfl) (by decide) (fdLf1 g)) f9w ?_
    obtain ⟨W11, hst11, k11, f11⟩ := st_slots W9 g _ _ k9 v9
    have f11w : Frm (fun k => v.blk = some k ∨ k = g) w W11 := f9w.trans f11 (fun _ _ h => .inr h)
    have hgw := hk.lt
    have hs7 : s7.blk = some w.drew.heap.size := by rw [Sl.blk, ha7]; rfl
    have hsz0 : w.heap.size ≤ w.drew.heap.size := (below_drew w).size
    have hsz7 : w.drew.heap.size < W7.heap.size := conv_size hcv7 ha7
    have hob9 : OwnB W11 v9 (m ++ [⟨s7, xs⟩]) := Own.kept ob9 f11 (fun e => by
        rcases vb9 with e2 | ⟨k', e2, hk'⟩
        · exact hgne (e2 ▸ e)
        · rw [e2] at e; cases e; have := e7.size; omega)
    have hcm11 : Cm (fun k => k = w.drew.heap.size) W11 s7 xs := Cm.keep (Cm.keep (Cm.keep (D := fun k => k = w.drew.heap.size) ⟨hcm7, fun ad ha _ => by rw [ha7] at ha; cases ha; rfl⟩ (Kept.all (below_alloc W7 (.cells #[s7.val] 28)) (Nat.le_refl _))) (Kept.frm f9 (fun k hk e => by have := hvw k e; omega))) (Kept.frm f11 (fun k hk e => by omega))
    have lq : Lq w W11 g un v v9 m xs s7 := ⟨k11, hob9, hcm11.came, fun k hk => by
        rw [hs7] at hk; cases hk
        refine ⟨hsz0, fun e => ?_⟩
        rcases vb9 with e2 | ⟨k', e2, hk'⟩
        · rw [e2] at e; have := hvw _ e; omega
        · rw [e2] at e; cases e; omega, by
        rcases vb9 with e2 | ⟨k', e2, hk'⟩
        · exact .inl e2
        · exact .inr ⟨k', e2, by have := e7.size; omega⟩, f11w⟩
    refine Pl.H.store 11 W11 (by kernel_rfl) (by kernel_rfl) (by kernel_rfl) (Pl.free 11 (by kernel_rfl)) (Pl.storeV 11 23 (.tmp 100) (.tmp 99) _ (by kernel_rfl) (by decide) (by decide) hst11) f11w ?_
    refine Pl.H.done (by kernel_rfl) (fun A' hA' => ?_)
    rw [Pl.At.ext hA' (((((((((((hA.put 90 _).put 92 _).put 93 _).put 94 _).put 95 _).put 96 _).put 91 _).put 97 _).put 98 _).put 99 _).put 100 _)]
    exact hend (fun d => if d = 90 then .pointer (some ⟨g, 1, none⟩) else if d = 92 then .slice (some ⟨gi, 0, none⟩) nn c else if d = 93 then .int .i64 ((i : Nat) : Int) else if d = 94 then .pointer (some ⟨gi, i * 4, none⟩) else if d = 95 then .pointer (some ⟨gi, i * 4 + 3, none⟩) else if d = 96 then .string (bstr xs) else if d = 91 then Sl.val v else if d = 97 then Sl.val s7 else if d = 98 then .slice (some ⟨W7.heap.size, 0, none⟩) 1 1 else if d = 99 then Sl.val v9 else if d = 100 then .pointer (some ⟨g, 1, none⟩) else undef) _ v9 s7 lq
  · obtain ⟨s7, W7, hcv7, hcm7, hl7, ha7, hb7⟩ := bytes_of w.drew xs hxb hxl
    have e7 := rBelow (below_drew w) hb7
    refine Pl.HOp.value 7 97 (Sl.val s7) W7 (by kernel_rfl) (by kernel_rfl) (by kernel_rfl) (Pl.convM 7 9 28 (.tmp 96) _ _ (by kernel_rfl) (by decide) hcv7) (Frm.ofBelow e7) ?_
    refine Pl.H.two 1 8 (by kernel_rfl) ?_ ?_
    · refine Pl.HOp.value 1 91 (Sl.val v) W7 (by kernel_rfl) (by kernel_rfl) (by kernel_rfl) (Pl.load1 1 23 (.tmp 90) _ (by kernel_rfl) (by decide) (ldLf1 g un.val v W7 (hk.below e7))) (Frm.ofBelow e7) ?_
      rw [Pl.upd_comm _ 97 91 _ _ (by decide)]
      have e8 := rBelow e7 (below_alloc W7 (.cells #[s7.val] 28))
      refine Pl.H.make 8 98 (.slice (some ⟨W7.heap.size, 0, none⟩) 1 1) (W7.alloc (.cells #[s7.val] 28)) (by kernel_rfl) (by kernel_rfl) (by kernel_rfl) (Pl.free 8 (by kernel_rfl)) (Pl.bsV 8 23 1 [(0, .tmp 97)] _ _ (by kernel_rfl) (by decide) (lit_slot W7 s7)) (Frm.ofBelow e8) ?_
      obtain ⟨v9, W9, hap9, ob9, hln9, f9, vb9⟩ := append_slot W7 v m ⟨s7, xs⟩ (Own.below hob e7) hvl
      have f9w : Frm (fun k => v.blk = some k ∨ k = g) w W9 := (Frm.ofBelow e8).trans f9 (fun _ _ h => .inl h)
      have hvw : ∀ k, v.blk = some k → k < w.heap.size := fun k hk => Own.lt hob hk
      have hgne : ¬ v.blk = some g := Own.unbox hob hk (by decide)
      have k9 : LfBlk W9 g un.val v.val := f9.lf ((hk.below e8)) hgne
      refine Pl.H.make 9 99 (Sl.val v9) W9 (by kernel_rfl) (by kernel_rfl) (by kernel_rfl) (Pl.free 9 (by kernel_rfl)) (Pl.appV 9 23 23 (.tmp 91) (.tmp 98) _ _ (by kernel_rfl) (by decide) (by decide) hap9) f9w ?_
      refine Pl.H.take 10 100 (.pointer (some ⟨g, 1, none⟩)) (by kernel_rfl) (by kernel_rfl) (by kernel_rfl) (Pl.free 10 (by kernel_rfl)) (Pl.field 10 25 (.tmp 12) 1 _ (by kernel_rfl) (by decide) (fdLf1 g)) f9w ?_
      obtain ⟨W11, hst11, k11, f11⟩ := st_slots W9 g _ _ k9 v9
      have f11w : Frm (fun k => v.blk = some k ∨ k = g) w W11 := f9w.trans f11 (fun _ _ h => .inr h)
      have hgw := hk.lt
      have hs7 : s7.blk = some w.drew.heap.size := by rw [Sl.blk, ha7]; rfl
      have hsz0 : w.heap.size ≤ w.drew.heap.size := (below_drew w).size
      have hsz7 : w.drew.heap.size < W7.heap.size := conv_size hcv7 ha7
      have hob9 : OwnB W11 v9 (m ++ [⟨s7, xs⟩]) := Own.kept ob9 f11 (fun e => by
          rcases vb9 with e2 | ⟨k', e2, hk'⟩
          · exact hgne (e2 ▸ e)
          · rw [e2] at e; cases e; have := e7.size; omega)
      have hcm11 : Cm (fun k => k = w.drew.heap.size) W11 s7 xs := Cm.keep (Cm.keep (Cm.keep (D := fun k => k = w.drew.heap.size) ⟨hcm7, fun ad ha _ => by rw [ha7] at ha; cases ha; rfl⟩ (Kept.all (below_alloc W7 (.cells #[s7.val] 28)) (Nat.le_refl _))) (Kept.frm f9 (fun k hk e => by have := hvw k e; omega))) (Kept.frm f11 (fun k hk e => by omega))
      have lq : Lq w W11 g un v v9 m xs s7 := ⟨k11, hob9, hcm11.came, fun k hk => by
          rw [hs7] at hk; cases hk
          refine ⟨hsz0, fun e => ?_⟩
          rcases vb9 with e2 | ⟨k', e2, hk'⟩
          · rw [e2] at e; have := hvw _ e; omega
          · rw [e2] at e; cases e; omega, by
          rcases vb9 with e2 | ⟨k', e2, hk'⟩
          · exact .inl e2
          · exact .inr ⟨k', e2, by have := e7.size; omega⟩, f11w⟩
      refine Pl.H.store 11 W11 (by kernel_rfl) (by kernel_rfl) (by kernel_rfl) (Pl.free 11 (by kernel_rfl)) (Pl.storeV 11 23 (.tmp 100) (.tmp 99) _ (by kernel_rfl) (by decide) (by decide) hst11) f11w ?_
      refine Pl.H.done (by kernel_rfl) (fun A' hA' => ?_)
      rw [Pl.At.ext hA' (((((((((((hA.put 90 _).put 92 _).put 93 _).put 94 _).put 95 _).put 96 _).put 91 _).put 97 _).put 98 _).put 99 _).put 100 _)]
      exact hend (fun d => if d = 90 then .pointer (some ⟨g, 1, none⟩) else if d = 92 then .slice (some ⟨gi, 0, none⟩) nn c else if d = 93 then .int .i64 ((i : Nat) : Int) else if d = 94 then .pointer (some ⟨gi, i * 4, none⟩) else if d = 95 then .pointer (some ⟨gi, i * 4 + 3, none⟩) else if d = 96 then .string (bstr xs) else if d = 91 then Sl.val v else if d = 97 then Sl.val s7 else if d = 98 then .slice (some ⟨W7.heap.size, 0, none⟩) 1 1 else if d = 99 then Sl.val v9 else if d = 100 then .pointer (some ⟨g, 1, none⟩) else undef) _ v9 s7 lq
    · have e8 := rBelow e7 (below_alloc W7 (.cells #[s7.val] 28))
      refine Pl.HOp.value 8 98 (.slice (some ⟨W7.heap.size, 0, none⟩) 1 1) (W7.alloc (.cells #[s7.val] 28)) (by kernel_rfl) (by kernel_rfl) (by kernel_rfl) (Pl.bsV 8 23 1 [(0, .tmp 97)] _ _ (by kernel_rfl) (by decide) (lit_slot W7 s7)) (Frm.ofBelow e8) ?_
      refine Pl.H.solo 1 91 (Sl.val v) (by kernel_rfl) (by kernel_rfl) (by kernel_rfl) (Pl.free 1 (by kernel_rfl)) (Pl.load1 1 23 (.tmp 90) _ (by kernel_rfl) (by decide) (ldLf1 g un.val v (W7.alloc (.cells #[s7.val] 28)) (hk.below e8))) (Frm.ofBelow e8) ?_
      rw [Pl.upd_comm _ 98 91 _ _ (by decide)]
      rw [Pl.upd_comm _ 97 91 _ _ (by decide)]
      obtain ⟨v9, W9, hap9, ob9, hln9, f9, vb9⟩ := append_slot W7 v m ⟨s7, xs⟩ (Own.below hob e7) hvl
      have f9w : Frm (fun k => v.blk = some k ∨ k = g) w W9 := (Frm.ofBelow e8).trans f9 (fun _ _ h => .inl h)
      have hvw : ∀ k, v.blk = some k → k < w.heap.size := fun k hk => Own.lt hob hk
      have hgne : ¬ v.blk = some g := Own.unbox hob hk (by decide)
      have k9 : LfBlk W9 g un.val v.val := f9.lf ((hk.below e8)) hgne
      refine Pl.H.make 9 99 (Sl.val v9) W9 (by kernel_rfl) (by kernel_rfl) (by kernel_rfl) (Pl.free 9 (by kernel_rfl)) (Pl.appV 9 23 23 (.tmp 91) (.tmp 98) _ _ (by kernel_rfl) (by decide) (by decide) hap9) f9w ?_
      refine Pl.H.take 10 100 (.pointer (some ⟨g, 1, none⟩)) (by kernel_rfl) (by kernel_rfl) (by kernel_rfl) (Pl.free 10 (by kernel_rfl)) (Pl.field 10 25 (.tmp 12) 1 _ (by kernel_rfl) (by decide) (fdLf1 g)) f9w ?_
      obtain ⟨W11, hst11, k11, f11⟩ := st_slots W9 g _ _ k9 v9
      have f11w : Frm (fun k => v.blk = some k ∨ k = g) w W11 := f9w.trans f11 (fun _ _ h => .inr h)
      have hgw := hk.lt
      have hs7 : s7.blk = some w.drew.heap.size := by rw [Sl.blk, ha7]; rfl
      have hsz0 : w.heap.size ≤ w.drew.heap.size := (below_drew w).size
      have hsz7 : w.drew.heap.size < W7.heap.size := conv_size hcv7 ha7
      have hob9 : OwnB W11 v9 (m ++ [⟨s7, xs⟩]) := Own.kept ob9 f11 (fun e => by
          rcases vb9 with e2 | ⟨k', e2, hk'⟩
          · exact hgne (e2 ▸ e)
          · rw [e2] at e; cases e; have := e7.size; omega)
      have hcm11 : Cm (fun k => k = w.drew.heap.size) W11 s7 xs := Cm.keep (Cm.keep (Cm.keep (D := fun k => k = w.drew.heap.size) ⟨hcm7, fun ad ha _ => by rw [ha7] at ha; cases ha; rfl⟩ (Kept.all (below_alloc W7 (.cells #[s7.val] 28)) (Nat.le_refl _))) (Kept.frm f9 (fun k hk e => by have := hvw k e; omega))) (Kept.frm f11 (fun k hk e => by omega))
      have lq : Lq w W11 g un v v9 m xs s7 := ⟨k11, hob9, hcm11.came, fun k hk => by
          rw [hs7] at hk; cases hk
          refine ⟨hsz0, fun e => ?_⟩
          rcases vb9 with e2 | ⟨k', e2, hk'⟩
          · rw [e2] at e; have := hvw _ e; omega
          · rw [e2] at e; cases e; omega, by
          rcases vb9 with e2 | ⟨k', e2, hk'⟩
          · exact .inl e2
          · exact .inr ⟨k', e2, by have := e7.size; omega⟩, f11w⟩
      refine Pl.H.store 11 W11 (by kernel_rfl) (by kernel_rfl) (by kernel_rfl) (Pl.free 11 (by kernel_rfl)) (Pl.storeV 11 23 (.tmp 100) (.tmp 99) _ (by kernel_rfl) (by decide) (by decide) hst11) f11w ?_
      refine Pl.H.done (by kernel_rfl) (fun A' hA' => ?_)
      rw [Pl.At.ext hA' (((((((((((hA.put 90 _).put 92 _).put 93 _).put 94 _).put 95 _).put 96 _).put 91 _).put 97 _).put 98 _).put 99 _).put 100 _)]
      exact hend (fun d => if d = 90 then .pointer (some ⟨g, 1, none⟩) else if d = 92 then .slice (some ⟨gi, 0, none⟩) nn c else if d = 93 then .int .i64 ((i : Nat) : Int) else if d = 94 then .pointer (some ⟨gi, i * 4, none⟩) else if d = 95 then .pointer (some ⟨gi, i * 4 + 3, none⟩) else if d = 96 then .string (bstr xs) else if d = 91 then Sl.val v else if d = 97 then Sl.val s7 else if d = 98 then .slice (some ⟨W7.heap.size, 0, none⟩) 1 1 else if d = 99 then Sl.val v9 else if d = 100 then .pointer (some ⟨g, 1, none⟩) else undef) _ v9 s7 lq
end Go.Proofs.Ytgieigpbbkeonaa
