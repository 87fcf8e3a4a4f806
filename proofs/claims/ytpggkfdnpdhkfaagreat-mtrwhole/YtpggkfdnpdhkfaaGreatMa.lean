/-
  Layer 13: pages that turn together, over a pool, without memory: puts, syncs, check points, what is replayed, what is opened.
  Layer 13: an Mtr in memory; drawn regions of the landed mtr, every order.
  Layer 13: what the landed functions say: given, end, Sync, Left, Pages, Read, Evict, put.
  Layer 13: what the landed functions say: put, Apply, Checkpoint.
-/
import Derived.Test.YtpggkfdnpdhkfaaGreatBl
import Derived.Test.YtpggkfdnpdhkfaaGreatRc
import Derived.Test.YtpggkfdnpdhkfaaGreatBa
namespace Go.Proofs.YtpggkfdnpdhkfaaGreat
open Go.RowKit
set_option maxRecDepth 100000
set_option linter.unusedVariables false

/-- What a put of any image does. -/
def Po.putA (P : Po) (n : Nat) (i : Im) (z : Int) : Po := if 0 ≤ i.page ∧ i.page < ((n : Nat) : Int) then P.set i.page.toNat i.bs z else P
def Po.puts (P : Po) (n : Nat) (g : List Im) (z : Int) : Po := g.foldl (fun Q i => Q.putA n i z) P
def Po.syncM (P : Po) : Po := ({ P with D := P.D.sync } : Po).synced
def Po.trimM (P : Po) : Po := { P with D := P.D.trim (P.D.sb + P.D.ss.length) }
def Po.check (P : Po) (n : Nat) : Po := (P.flush n).syncM.trimM.syncM
noncomputable def Po.rep (n : Nat) : Nat → Po → Int → List Nat → Po
  | 0, P, _, _ => P
  | f + 1, P, z, xs => if (dec xs).e = 0 then Po.rep n f (P.puts n (dec xs).g (z + (((dec xs).n : Nat) : Int))) (z + (((dec xs).n : Nat) : Int)) (xs.drop (dec xs).n) else P
noncomputable def Po.opened (D : Ds) (n f : Nat) : Po := (Po.rep n (D.ss.length + 1) (Po.new D f) ((D.sb : Nat) : Int) D.ss).check n

theorem ahead_sb (P : Po) (z : Int) : (P.ahead z).D.sb = P.D.sb := by
  unfold Po.ahead
  split
  · exact P.D.sync_sp.2.2
  · rfl
theorem write_sb (P : Po) (k : Nat) : (P.write k).D.sb = P.D.sb := by
  unfold Po.write
  cases P.m k with
  | none => rfl
  | some s =>
    simp only
    split
    · show ((P.ahead s.place).D.write k s.b).sb = _
      rw [((P.ahead s.place).D.write_ss k s.b).2, ahead_sb]
    · rfl
theorem letIn_sb (P : Po) (k : Nat) : (P.letIn k).D.sb = P.D.sb := by
  have h1 : ∀ (Q : Po) (z : Int), (Q.left z).D.sb = Q.D.sb := fun Q z => by
    unfold Po.left
    split
    · exact write_sb Q _
    · rfl
  have h2 : ∀ (Q : Po), (Q.fetch k).D.sb = Q.D.sb := fun Q => by
    unfold Po.fetch
    split <;> rfl
  unfold Po.letIn
  rw [h2, h1]
  rfl
theorem writes_sb : ∀ (L : List Nat) (P : Po), (L.foldl Po.write P).D.sb = P.D.sb
  | [], P => rfl
  | p :: L, P => by rw [List.foldl_cons, writes_sb L, write_sb]
theorem flush_sb (P : Po) (n : Nat) : (P.flush n).D.sb = P.D.sb := writes_sb _ _
theorem flush_ss (P : Po) (n : Nat) : (P.flush n).D.ss = P.D.ss := writes_ss _ _
theorem putA_sb (P : Po) (n : Nat) (i : Im) (z : Int) : (P.putA n i z).D.sb = P.D.sb := by
  unfold Po.putA
  split
  · exact letIn_sb P _
  · rfl
theorem putA_ss (P : Po) (n : Nat) (i : Im) (z : Int) : (P.putA n i z).D.ss = P.D.ss := by
  unfold Po.putA
  split
  · exact letIn_ss P _
  · rfl
theorem puts_sb (n : Nat) (z : Int) : ∀ (g : List Im) (P : Po), (P.puts n g z).D.sb = P.D.sb
  | [], P => rfl
  | i :: g, P => (puts_sb n z g (P.putA n i z)).trans (putA_sb P n i z)
theorem puts_ss (n : Nat) (z : Int) : ∀ (g : List Im) (P : Po), (P.puts n g z).D.ss = P.D.ss
  | [], P => rfl
  | i :: g, P => (puts_ss n z g (P.putA n i z)).trans (putA_ss P n i z)

theorem Po.Fine.putA {P : Po} {n c : Nat} (h : P.Fine n c) (hc : c + 4 ≤ 9000) {i : Im} (hb : i.bs.length = 512) (hx : Bytes i.bs) (z : Int) : (P.putA n i z).Fine n (c + 4) := by
  unfold Po.putA
  split
  · exact h.set hc (by omega) hb hx z
  · exact h.more (by omega) hc
theorem Po.Fine.puts {n : Nat} {z : Int} : ∀ (g : List Im) {P : Po} {c : Nat}, P.Fine n c → c + 4 * g.length ≤ 9000 → (∀ i ∈ g, i.bs.length = 512) → ImB g → (P.puts n g z).Fine n (c + 4 * g.length)
  | [], P, c, h, _, _, _ => h
  | i :: g, P, c, h, hc, hl, hb => by
    rw [List.length_cons] at hc ⊢
    have h1 := h.putA (by omega) (hl i (by simp)) (hb i (by simp)) z
    have := Po.Fine.puts (z := z) g h1 (by omega) (fun j hj => hl j (by simp [hj])) (fun j hj => hb j (by simp [hj]))
    rw [show c + 4 * (g.length + 1) = c + 4 + 4 * g.length by omega]
    exact this
theorem Po.Ok.dev {P : Po} {n : Nat} (h : P.Ok n) {D : Ds} (hs : D.sp = P.D.sp) (y : Int) : (Po.mk D P.l P.h P.m y).Ok n := by
  have hp : ∀ k, D.page k = P.D.page k := fun k => by unfold Ds.page; rw [hs]
  exact ⟨⟨by show D.sp.length = _; rw [hs]; exact h.sp, h.n64, h.sh, fun k s hk hd => by show s.b = D.page k; rw [hp]; exact h.clean k s hk hd⟩, ⟨h.may, h.pin, h.inn⟩⟩
theorem Po.con_dev {P : Po} {D : Ds} (hs : D.sp = P.D.sp) (y : Int) (k : Nat) : (Po.mk D P.l P.h P.m y).con k = P.con k := by
  unfold Po.con Ds.page
  simp only [hs]
theorem Po.Fine.syncD {P : Po} {n c : Nat} (h : P.Fine n c) : ({ P with D := P.D.sync } : Po).Fine n c :=
  ⟨h.ok.dev P.D.sync_sp.1 _, ⟨h.wet.dev.sync, h.wet.sh⟩, h.cap, by show P.D.sync.ss.length ≤ _; rw [P.D.sync_sp.2.1]; exact h.ss⟩
theorem Po.Fine.synced {P : Po} {n c : Nat} (h : P.Fine n c) : P.synced.Fine n c := ⟨h.ok.dev rfl _, ⟨h.wet.dev, h.wet.sh⟩, h.cap, h.ss⟩
theorem Po.Fine.syncM {P : Po} {n c : Nat} (h : P.Fine n c) : P.syncM.Fine n c := h.syncD.synced
theorem syncM_con (P : Po) (k : Nat) : P.syncM.con k = P.con k := Po.con_dev P.D.sync_sp.1 _ k
theorem syncM_sb (P : Po) : P.syncM.D.sb = P.D.sb := P.D.sync_sp.2.2
theorem syncM_ss (P : Po) : P.syncM.D.ss = P.D.ss := P.D.sync_sp.2.1

/-- What a trimming does. -/
theorem Ds.trim_cases (D : Ds) (hl : D.armed = true → 0 ≤ D.left ∧ D.left ≤ 9223372036854775807) (pl : Nat) :
    ∃ l : Int, (D.armed = true → 0 ≤ l ∧ l ≤ 9223372036854775807) ∧ ((D.gone = false ∧ D.trim pl = { D with ss := D.ss.drop (pl - D.sb), sb := pl, tr := D.tr ++ [⟨D.units, pl⟩], left := l }) ∨ D.trim pl = { D with ss := D.ss.drop (pl - D.sb), sb := pl, left := l, gone := true }) := by
  unfold Ds.trim
  rcases (D.trim0 pl).spend_cases 1 with ⟨e, e2, hg⟩ | ⟨e, e2, hg, ha⟩ | ⟨e, e2, hg, hlt⟩ | ⟨e, e2, hg, hle⟩
  · refine ⟨D.left, hl, .inr ?_⟩
    have hg' : D.gone = true := hg
    rw [if_neg (by rw [e2]; decide), e]
    unfold Ds.trim0
    rw [← hg']
  · refine ⟨D.left, hl, .inl ⟨hg, ?_⟩⟩
    rw [if_pos e2, e]
    rfl
  · have h0 : D.spent 1 = D.left.toNat ∨ True := .inr trivial
    refine ⟨0, fun _ => by omega, .inr ?_⟩
    have ha : D.armed = true := by
      cases hh : D.armed
      · exfalso
        have h1 : (D.trim0 pl).spent 1 = 1 := by
          unfold Ds.spent
          rw [if_neg (by rw [hg]; decide), if_pos (show (D.trim0 pl).armed = false from hh)]
        have h2 : (D.trim0 pl).spend 1 = D.trim0 pl := by
          unfold Ds.spend
          rw [if_neg (by rw [hg]; decide), if_pos (show (D.trim0 pl).armed = false from hh)]
        have h3 := congrArg Ds.gone (h2.symm.trans e)
        rw [hg] at h3
        cases h3
      · rfl
    have h1 := (hl ha).1
    have h2 : (D.trim0 pl).left = D.left := rfl
    rw [if_neg (by rw [e2]; omega), e]
    rfl
  · refine ⟨D.left - 1, fun ha => ?_, .inl ⟨hg, ?_⟩⟩
    · have := hl ha
      have h2 : (D.trim0 pl).left = D.left := rfl
      omega
    · rw [if_pos e2, e]
      rfl
/-- What stands behind a trimming of all, ahead of its Sync and behind it. -/
structure Ds.Cut (D E : Ds) (n c : Nat) : Prop where
  sane : E.Sane n
  fit : E.gone = false → E.Fit E.units E.tr.length
  easy : E.sync.Easy n c
  sp : E.sp = D.sp
  ss : E.ss = []
  sb : E.sb = D.sb + D.ss.length
theorem Ds.Easy.cut {D : Ds} {n c : Nat} (h : D.Easy n c) (hc : c ≤ 100000) (hs : D.sb + D.ss.length ≤ 900000000000) : D.Cut (D.trim (D.sb + D.ss.length)) n c := by
  obtain ⟨l, hl, ⟨hg, e⟩ | e⟩ := D.trim_cases h.al (D.sb + D.ss.length)
  · rw [e]
    obtain ⟨k1, k2⟩ := h.ki hg
    have ht := h.tr
    have hu : D.units = D.ap.length := h.units_is
    have hlen : D.ks.length + D.ap.length = D.ss.length := by rw [← List.length_append, k2]
    have hd : D.ss.drop (D.sb + D.ss.length - D.sb) = [] := List.drop_eq_nil_of_le (by omega)
    have hsync : Ds.sync { D with ss := D.ss.drop (D.sb + D.ss.length - D.sb), sb := D.sb + D.ss.length, tr := D.tr ++ [(⟨D.units, D.sb + D.ss.length⟩ : Tm)], left := l } = { D with ss := [], sb := D.sb + D.ss.length, kp := keepW [true] 0 D.wr D.kp, ks := [], kb := D.sb + D.ss.length, wr := [], ap := [], tr := [], left := l } := by
      unfold Ds.sync
      rw [if_neg (by show ¬ D.gone = true; rw [hg]; decide)]
      unfold Ds.keep Ds.keepU Ds.units
      rw [if_neg (by show ¬ (D.tr ++ [(⟨D.units, D.sb + D.ss.length⟩ : Tm)]).length = 0; simp)]
      simp only [ht, List.nil_append, List.length_cons, List.length_nil, hd]
      have e1 : D.ap.length + (0 + 1) - (0 + 1) = D.ap.length := by omega
      rw [e1, List.take_of_length_le (Nat.le_refl _), k2]
      have e2 : (([⟨D.ap.length + 0, D.sb + D.ss.length⟩] : List Tm).getD (0 + 1 - 1) tmD).place = D.sb + D.ss.length := rfl
      rw [e2, List.drop_eq_nil_of_le (by omega)]
    refine ⟨⟨h.sp, h.kp, h.n1, h.n2, h.wr, Nat.le_trans h.wl hc, Nat.le_trans h.kl (by omega), by show (D.tr ++ [(⟨D.units, D.sb + D.ss.length⟩ : Tm)]).length ≤ _; rw [ht]; simp⟩, fun _ => ⟨⟨Nat.le_refl _, ?_, fun k => absurd k (Nat.lt_irrefl _)⟩, ?_, ?_, ?_⟩, ?_, rfl, hd, rfl⟩
    · intro t ht'
      show ((D.tr ++ [(⟨D.units, D.sb + D.ss.length⟩ : Tm)]).getD t tmD).ahead < D.ap.length + (D.tr ++ [(⟨D.units, D.sb + D.ss.length⟩ : Tm)]).length
      have hlt : t < (D.tr ++ [(⟨D.units, D.sb + D.ss.length⟩ : Tm)]).length := ht'
      rw [ht] at hlt ⊢
      obtain rfl : t = 0 := by simp at hlt; omega
      show D.units < D.ap.length + 1
      omega
    · show (D.tr ++ [(⟨D.units, D.sb + D.ss.length⟩ : Tm)]).length ≤ D.ap.length + (D.tr ++ [(⟨D.units, D.sb + D.ss.length⟩ : Tm)]).length
      omega
    · show D.ap.length + (D.tr ++ [(⟨D.units, D.sb + D.ss.length⟩ : Tm)]).length - (D.tr ++ [(⟨D.units, D.sb + D.ss.length⟩ : Tm)]).length ≤ D.ap.length
      omega
    · intro _
      show D.kb ≤ ((D.tr ++ [(⟨D.units, D.sb + D.ss.length⟩ : Tm)]).getD ((D.tr ++ [(⟨D.units, D.sb + D.ss.length⟩ : Tm)]).length - 1) tmD).place ∧ ((D.tr ++ [(⟨D.units, D.sb + D.ss.length⟩ : Tm)]).getD ((D.tr ++ [(⟨D.units, D.sb + D.ss.length⟩ : Tm)]).length - 1) tmD).place ≤ D.kb + (D.ks.length + (D.ap.length + (D.tr ++ [(⟨D.units, D.sb + D.ss.length⟩ : Tm)]).length - (D.tr ++ [(⟨D.units, D.sb + D.ss.length⟩ : Tm)]).length)) ∧ ((D.tr ++ [(⟨D.units, D.sb + D.ss.length⟩ : Tm)]).getD ((D.tr ++ [(⟨D.units, D.sb + D.ss.length⟩ : Tm)]).length - 1) tmD).place ≤ _
      rw [ht]
      show D.kb ≤ D.sb + D.ss.length ∧ D.sb + D.ss.length ≤ D.kb + (D.ks.length + (D.ap.length + 1 - 1)) ∧ D.sb + D.ss.length ≤ _
      omega
    · rw [hsync]
      exact ⟨h.sp, keepW_length _ _ _ _ _ h.wr h.kp, h.n1, h.n2, (fun x hx => by cases hx), Nat.zero_le _, hl, rfl, hs, hs, (by show 0 + 0 ≤ _; omega), (fun _ => ⟨rfl, rfl⟩), h.bs, keepW_bytes _ _ _ _ (fun x hx => (h.wr x hx).byt) h.bk⟩
  · rw [e]
    have hd : D.ss.drop (D.sb + D.ss.length - D.sb) = [] := List.drop_eq_nil_of_le (by omega)
    refine ⟨⟨h.sp, h.kp, h.n1, h.n2, h.wr, Nat.le_trans h.wl hc, Nat.le_trans h.kl (by omega), by show D.tr.length ≤ _; rw [h.tr]; simp⟩, (fun k => by cases k), ?_, rfl, hd, rfl⟩
    rw [Ds.sync_gone rfl]
    exact ⟨h.sp, h.kp, h.n1, h.n2, h.wr, h.wl, hl, h.tr, hs, h.kbn, h.kl, (fun k => by cases k), h.bs, h.bk⟩
/-- A check point: how it stands in its midst, and behind it. -/
structure Po.Chk (P : Po) (n c : Nat) : Prop where
  mid : (P.flush n).syncM.Fine n (c + 4 * n)
  cut : Ds.Cut (P.flush n).syncM.D (P.flush n).syncM.trimM.D n (c + 4 * n)
  fin : ({ (P.flush n).syncM.trimM with D := (P.flush n).syncM.trimM.D.sync } : Po).Fine n (c + 4 * n)
  fine : (P.check n).Fine n (c + 4 * n)
  con : ∀ k, k < n → (P.check n).con k = P.con k
  ss : (P.check n).D.ss = []
  sb : (P.check n).D.sb = P.D.sb + P.D.ss.length
theorem Po.Fine.chk {P : Po} {n c : Nat} (h : P.Fine n c) (hc : c + 4 * n ≤ 9000) (hs : P.D.sb + 65536 ≤ 900000000000) : P.Chk n c := by
  have hf := (h.flush hc).syncM
  have hss : (P.flush n).syncM.D.ss = P.D.ss := (syncM_ss _).trans (flush_ss P n)
  have hsb : (P.flush n).syncM.D.sb = P.D.sb := (syncM_sb _).trans (flush_sb P n)
  have hcut := hf.wet.dev.cut (by omega) (by rw [hss, hsb]; have := h.ss; omega)
  have hsp : (P.flush n).syncM.trimM.D.sync.sp = (P.flush n).syncM.D.sp := (Ds.sync_sp _).1.trans hcut.sp
  have hfin : ({ (P.flush n).syncM.trimM with D := (P.flush n).syncM.trimM.D.sync } : Po).Fine n (c + 4 * n) :=
    ⟨hf.ok.dev hsp _, ⟨hcut.easy, hf.wet.sh⟩, hf.cap, by show (P.flush n).syncM.trimM.D.sync.ss.length ≤ _; rw [(Ds.sync_sp _).2.1, show (P.flush n).syncM.trimM.D.ss = [] from hcut.ss]; simp⟩
  refine ⟨hf, hcut, hfin, hfin.synced, fun k hk => ?_, ?_, ?_⟩
  · show (Po.mk _ (P.flush n).syncM.l (P.flush n).syncM.h (P.flush n).syncM.m _).con k = _
    rw [Po.con_dev hsp, syncM_con]
    exact h.ok.flush.1.con k hk
  · show (P.flush n).syncM.trimM.D.sync.ss = []
    rw [(Ds.sync_sp _).2.1]
    exact hcut.ss
  · show (P.flush n).syncM.trimM.D.sync.sb = _
    rw [(Ds.sync_sp _).2.2, show (P.flush n).syncM.trimM.D.sb = _ from hcut.sb, hss, hsb]

theorem dec_size {b : List Nat} (h : (dec b).e = 0) : (dec b).n = 7 + 513 * (dec b).g.length := by
  revert h
  unfold dec
  split
  · intro h; cases h
  · split
    · intro h; cases h
    · split
      · unfold grp
        split
        · rename_i h1 h2 _ hc
          intro _
          show 2 + said b = 7 + 513 * (imgs _ _).length
          rw [imgs_length]
          have h3 := hc.1
          have h4 := hc.2.1
          simp only [List.length_drop, List.length_take] at h3 h4
          omega
        · intro h; cases h
      · intro h; cases h
theorem dec_room {xs : List Nat} (h : (dec xs).e = 0) : 512 * (dec xs).g.length ≤ (dec xs).n ∧ 2 ≤ (dec xs).n ∧ (dec xs).n ≤ xs.length ∧ May (dec xs).g := by
  obtain ⟨h1, h2, h3⟩ := dec_ok h
  refine ⟨?_, h1, h2, h3⟩
  have := h3.2.1
  have hn := dec_size h
  omega
theorem Po.Fine.rep {n : Nat} : ∀ (f : Nat) {P : Po} {c : Nat} (z : Int) (xs : List Nat), P.Fine n c → Bytes xs → c + xs.length / 128 ≤ 9000 → (Po.rep n f P z xs).Fine n (c + xs.length / 128) ∧ (Po.rep n f P z xs).D.ss = P.D.ss ∧ (Po.rep n f P z xs).D.sb = P.D.sb
  | 0, P, c, z, xs, h, _, hc => ⟨h.more (by omega) hc, rfl, rfl⟩
  | f + 1, P, c, z, xs, h, hb, hc => by
    unfold Po.rep
    split
    · rename_i he
      obtain ⟨r1, r2, r3, r4⟩ := dec_room he
      have hl : (xs.drop (dec xs).n).length = xs.length - (dec xs).n := List.length_drop
      have hp := h.puts (z := z + (((dec xs).n : Nat) : Int)) (dec xs).g (by omega) r4.len (dec_bytes hb)
      have := Po.Fine.rep f (z + (((dec xs).n : Nat) : Int)) (xs.drop (dec xs).n) hp (hb.drop _) (by rw [hl]; omega)
      refine ⟨this.1.more (by rw [hl]; omega) hc, this.2.1.trans (puts_ss _ _ _ _), this.2.2.trans (puts_sb _ _ _ _)⟩
    · exact ⟨h.more (by omega) hc, rfl, rfl⟩
end Go.Proofs.YtpggkfdnpdhkfaaGreat

namespace Go.Proofs.YtpggkfdnpdhkfaaGreat
open Go.RowKit
set_option maxRecDepth 100000
set_option linter.unusedVariables false

def MtBlk (w : World) (m d p : Nat) : Prop := w.heap[m]? = some (.cells #[.pointer (some ⟨d, 0, none⟩), .pointer (some ⟨p, 0, none⟩)] 83 (0, 0))
theorem MtBlk.c0 {w : World} {m d p : Nat} (h : MtBlk w m d p) : w.cell? ⟨m, 0, none⟩ = some (.pointer (some ⟨d, 0, none⟩)) := (Addr.cell0 h).trans rfl
theorem MtBlk.c1 {w : World} {m d p : Nat} (h : MtBlk w m d p) : w.cell? ⟨m, 1, none⟩ = some (.pointer (some ⟨p, 0, none⟩)) := (Addr.cell0 h).trans rfl
theorem MtBlk.lt {w : World} {m d p : Nat} (h : MtBlk w m d p) : m < w.heap.size := (Array.getElem?_eq_some_iff.1 h).1
/-- An Mtr: its block, its pool. -/
structure Mt (M : PoM) (w : World) (m p d : Nat) (P : Po) (L : Dl) (X : Nat → Prop) : Prop where
  pool : M w p d P L X
  blk : MtBlk w m d p
  off : ¬ (X m ∨ L.F d m)
/-- What an act leaves. -/
structure MSt (M : PoM) (w : World) (m p d : Nat) (L : Dl) (X : Nat → Prop) (w' : World) (Q : Po) (L' : Dl) (X' : Nat → Prop) : Prop where
  mt : Mt M w' m p d Q L' X'
  foot : ∀ k, X' k ∨ L'.F d k → (X k ∨ L.F d k) ∨ w.heap.size ≤ k
  frm : Frm (fun k => X k ∨ L.F d k) w w'
def MDid (M : PoM) (w : World) (m p d : Nat) (L : Dl) (X : Nat → Prop) (w' : World) (Q : Po) : Prop := ∃ L' X', MSt M w m p d L X w' Q L' X'
theorem MSt.trans {M : PoM} {w w1 w2 : World} {m p d : Nat} {L L1 L2 : Dl} {X X1 X2 : Nat → Prop} {Q1 Q2 : Po} (h : MSt M w m p d L X w1 Q1 L1 X1) (k : MSt M w1 m p d L1 X1 w2 Q2 L2 X2) : MSt M w m p d L X w2 Q2 L2 X2 :=
  ⟨k.mt, fun i hi => (k.foot i hi).elim (fun e => h.foot i e) (fun e => .inr (Nat.le_trans h.frm.size e)), h.frm.trans k.frm (fun i hi e => (h.foot i e).resolve_right (by omega))⟩
theorem MSt.did {M : PoM} {w w1 w2 : World} {m p d : Nat} {L L1 : Dl} {X X1 : Nat → Prop} {Q1 Q2 : Po} (h : MSt M w m p d L X w1 Q1 L1 X1) (k : MDid M w1 m p d L1 X1 w2 Q2) : MDid M w m p d L X w2 Q2 := by
  obtain ⟨L2, X2, k⟩ := k
  exact ⟨L2, X2, h.trans k⟩
theorem Mt.same {M : PoM} (S : PoolS M) {w w' : World} {m p d : Nat} {P : Po} {L : Dl} {X : Nat → Prop} (h : Mt M w m p d P L X) (hb : Below w.heap.size w w') : MSt M w m p d L X w' P L X :=
  ⟨⟨S.frm h.pool (Frm.ofBelow (F := fun _ => False) hb) (fun _ _ e => e), (hb.block m h.blk.lt).trans h.blk, h.off⟩, fun _ e => .inl e, Frm.ofBelow hb⟩
theorem Mt.act {M : PoM} {w w' : World} {m p d : Nat} {P Q : Po} {L : Dl} {X : Nat → Prop} (h : Mt M w m p d P L X) (a : Acted M w p d L X w' Q) : MDid M w m p d L X w' Q := by
  obtain ⟨L', X', hm, hf⟩ := a.ex
  have hlt := h.blk.lt
  exact ⟨L', X', ⟨hm, (a.frm.block m hlt h.off).trans h.blk, fun e => (hf m e).elim h.off (fun k => by omega)⟩, hf, a.frm⟩
theorem Mt.turn {M : PoM} (S : PoolS M) {w w' : World} {m p d : Nat} {P : Po} {L L' : Dl} {X : Nat → Prop} {D' : Ds} (h : Mt M w m p d P L X) (t : Turned w d L w' D' L') : MSt M w m p d L X w' { P with D := D' } L' X := by
  have hlt := h.blk.lt
  have hf : ∀ k, X k ∨ L'.F d k → (X k ∨ L.F d k) ∨ w.heap.size ≤ k := fun k e => e.elim (fun e => .inl (.inl e)) (fun e => (t.foot k e).imp (fun e => .inr e) id)
  have hfr := t.frm.mono (G := fun k => X k ∨ L.F d k) (fun k _ e => .inr e)
  exact ⟨⟨S.turn h.pool t, (hfr.block m hlt h.off).trans h.blk, fun e => (hf m e).elim h.off (fun k => by omega)⟩, hf, hfr⟩
theorem fdMt0_0 (p : Nat) (w : World) : (Instr.fieldAt 83 (.pointer (some ⟨p, 0, none⟩)) 0).run Tryz.prog w = .ok (.pointer (some ⟨p, 0, none⟩)) w := by simp [go_sem, Instr.fieldAt]
theorem fdMt1_0 (p : Nat) (w : World) : (Instr.fieldAt 83 (.pointer (some ⟨p, 0, none⟩)) 1).run Tryz.prog w = .ok (.pointer (some ⟨p, 1, none⟩)) w := by simp [go_sem, Instr.fieldAt]
theorem fdImg0_0 (p : Nat) (w : World) : (Instr.fieldAt 76 (.pointer (some ⟨p, 0, none⟩)) 0).run Tryz.prog w = .ok (.pointer (some ⟨p, 0, none⟩)) w := by simp [go_sem, Instr.fieldAt]
theorem fdImg1_0 (p : Nat) (w : World) : (Instr.fieldAt 76 (.pointer (some ⟨p, 0, none⟩)) 1).run Tryz.prog w = .ok (.pointer (some ⟨p, 1, none⟩)) w := by simp [go_sem, Instr.fieldAt]
theorem ldPool (b o p : Nat) (w : World) (h : w.cell? ⟨b, o, none⟩ = some (.pointer (some ⟨p, 0, none⟩))) : (Instr.loadAt 81 (.pointer (some ⟨b, o, none⟩))).run Tryz.prog w = .ok (.pointer (some ⟨p, 0, none⟩)) w := by simp [go_sem, h]

theorem fdImgA (b o : Nat) (w : World) : (Instr.fieldAt 76 (.pointer (some ⟨b, o, none⟩)) 0).run Tryz.prog w = .ok (.pointer (some ⟨b, o, none⟩)) w := by simp [go_sem, Instr.fieldAt]
theorem geqI (a b : Int) (x y : Operand) (w : World) : (do eqGuard .geq 3 x y (.int .i64 a) (.int .i64 b); binOp .geq 3 (.int .i64 a) (.int .i64 b) : Sem Value).run Tryz.prog w = .ok (.bool (decide (b ≤ a))) w := by simp [go_sem, eqGuard]

theorem entPagesM : ∀ args w, (callFunc 33 args).run Tryz.prog w = .ok (.enter 33 args) w := Pl.enters Tryz.func33 (by kernel_rfl) (by kernel_rfl)
theorem entPut : ∀ args w, (callFunc 87 args).run Tryz.prog w = .ok (.enter 87 args) w := Pl.enters Tryz.func87 (by kernel_rfl) (by kernel_rfl)
theorem entEnd : ∀ args w, (callFunc 49 args).run Tryz.prog w = .ok (.enter 49 args) w := Pl.enters Tryz.func49 (by kernel_rfl) (by kernel_rfl)
theorem entTrimM : ∀ args w, (callFunc 60 args).run Tryz.prog w = .ok (.enter 60 args) w := Pl.enters Tryz.func60 (by kernel_rfl) (by kernel_rfl)

set_option maxHeartbeats 2000000 in
set_option maxRecDepth 100000 in
theorem mput3 (w : World) (m g p : Nat) (q z rr : Int) (a : Option Addr) (l c : Nat) (R : World → Prop) (h0 : (fun (w' : World) => w'.cell? ⟨m, 1, none⟩ = some (.pointer (some ⟨p, 0, none⟩)) ∧ w'.cell? ⟨g, 0, none⟩ = some (.int .i64 q) ∧ w'.cell? ⟨g, 1, none⟩ = some (.slice a l c)) w) (hc : Calls Tryz.prog 87 #[.pointer (some ⟨p, 0, none⟩), .int .i64 q, .slice a l c, .int .i64 z] w.drew fun e w2 => e = .returned (.int .i64 rr) ∧ R w2) (hRS : ∀ w2, R w2 → (fun (w' : World) => w'.cell? ⟨m, 1, none⟩ = some (.pointer (some ⟨p, 0, none⟩)) ∧ w'.cell? ⟨g, 0, none⟩ = some (.int .i64 q) ∧ w'.cell? ⟨g, 1, none⟩ = some (.slice a l c)) w2)
    {Q : Exit → Act → World → Prop} {A : Act} (hsz : A.tmps.size = 25) (hdf : A.defers = []) (s0 : A.tmps.getD 0 undef = .pointer (some ⟨m, 0, none⟩)) (s2 : A.tmps.getD 2 undef = .int .i64 z) (s7 : A.tmps.getD 7 undef = .pointer (some ⟨g, 0, none⟩))
    (hend : ∀ (u : Nat → Value) w', R w' → Q .normal (((((((((((A).put (some 14) (u 14)).put (some 15) (u 15)).put (some 16) (u 16)).put (some 17) (u 17)).put (some 18) (u 18)).put (some 19) (u 19)).put (some 20) (u 20)).put (some 21) (u 21)).put (some 22) (u 22)).put (some 23) (u 23)) w') :
    (Code.region 3 (Pl.find 3 ((Tryz.f48.body).getD .skip)) true).wp Tryz.prog Q A w := by
  have hA := Pl.At.same (v := .pointer (some ⟨g, 0, none⟩)) (d := 7) (Pl.At.same (v := .int .i64 z) (d := 2) (Pl.At.same (v := .pointer (some ⟨m, 0, none⟩)) (d := 0) (Pl.At.here hsz hdf) s0) s2) s7
  refine Pl.H.start (S := fun w' => w'.cell? ⟨m, 1, none⟩ = some (.pointer (some ⟨p, 0, none⟩)) ∧ w'.cell? ⟨g, 0, none⟩ = some (.int .i64 q) ∧ w'.cell? ⟨g, 1, none⟩ = some (.slice a l c)) (by kernel_rfl) hA (show (fun w' => w'.cell? ⟨m, 1, none⟩ = some (.pointer (some ⟨p, 0, none⟩)) ∧ w'.cell? ⟨g, 0, none⟩ = some (.int .i64 q) ∧ w'.cell? ⟨g, 1, none⟩ = some (.slice a l c)) w.drew from h0) ?_
  rw [show (Pl.find 3 ((Tryz.f48.body).getD .skip)).size = 10 by kernel_rfl]
  refine Pl.H.take 0 14 (.pointer (some ⟨m, 0, none⟩)) (by kernel_rfl) (by kernel_rfl) (by kernel_rfl) (Pl.free 0 (by kernel_rfl)) (Pl.move 0 (.tmp 0) (by kernel_rfl) (by decide)) (show (fun w' => w'.cell? ⟨m, 1, none⟩ = some (.pointer (some ⟨p, 0, none⟩)) ∧ w'.cell? ⟨g, 0, none⟩ = some (.int .i64 q) ∧ w'.cell? ⟨g, 1, none⟩ = some (.slice a l c)) w.drew from h0) ?_
  refine Pl.H.take 1 15 (.pointer (some ⟨m, 0, none⟩)) (by kernel_rfl) (by kernel_rfl) (by kernel_rfl) (Pl.free 1 (by kernel_rfl)) (Pl.nilc 1 (.tmp 14) _ (by kernel_rfl) (by decide) rfl) (show (fun w' => w'.cell? ⟨m, 1, none⟩ = some (.pointer (some ⟨p, 0, none⟩)) ∧ w'.cell? ⟨g, 0, none⟩ = some (.int .i64 q) ∧ w'.cell? ⟨g, 1, none⟩ = some (.slice a l c)) w.drew from h0) ?_
  refine Pl.H.take 2 16 (.pointer (some ⟨m, 1, none⟩)) (by kernel_rfl) (by kernel_rfl) (by kernel_rfl) (Pl.free 2 (by kernel_rfl)) (Pl.field 2 83 (.tmp 15) 1 _ (by kernel_rfl) (by decide) (fdMt1_0 m)) (show (fun w' => w'.cell? ⟨m, 1, none⟩ = some (.pointer (some ⟨p, 0, none⟩)) ∧ w'.cell? ⟨g, 0, none⟩ = some (.int .i64 q) ∧ w'.cell? ⟨g, 1, none⟩ = some (.slice a l c)) w.drew from h0) ?_
  refine Pl.H.take 3 17 (.pointer (some ⟨p, 0, none⟩)) (by kernel_rfl) (by kernel_rfl) (by kernel_rfl) (Pl.free 3 (by kernel_rfl)) (Pl.load 3 81 (.tmp 16) _ (by kernel_rfl) (by decide) (fun w' hS => ldPool m 1 p w' hS.1)) (show (fun w' => w'.cell? ⟨m, 1, none⟩ = some (.pointer (some ⟨p, 0, none⟩)) ∧ w'.cell? ⟨g, 0, none⟩ = some (.int .i64 q) ∧ w'.cell? ⟨g, 1, none⟩ = some (.slice a l c)) w.drew from h0) ?_
  refine Pl.H.take 4 18 (.pointer (some ⟨g, 0, none⟩)) (by kernel_rfl) (by kernel_rfl) (by kernel_rfl) (Pl.free 4 (by kernel_rfl)) (Pl.field 4 76 (.tmp 7) 0 _ (by kernel_rfl) (by decide) (fdImg0_0 g)) (show (fun w' => w'.cell? ⟨m, 1, none⟩ = some (.pointer (some ⟨p, 0, none⟩)) ∧ w'.cell? ⟨g, 0, none⟩ = some (.int .i64 q) ∧ w'.cell? ⟨g, 1, none⟩ = some (.slice a l c)) w.drew from h0) ?_
  refine Pl.H.take 5 19 (.int .i64 q) (by kernel_rfl) (by kernel_rfl) (by kernel_rfl) (Pl.free 5 (by kernel_rfl)) (Pl.load 5 3 (.tmp 18) _ (by kernel_rfl) (by decide) (fun w' hS => ldInt g 0 _ w' hS.2.1)) (show (fun w' => w'.cell? ⟨m, 1, none⟩ = some (.pointer (some ⟨p, 0, none⟩)) ∧ w'.cell? ⟨g, 0, none⟩ = some (.int .i64 q) ∧ w'.cell? ⟨g, 1, none⟩ = some (.slice a l c)) w.drew from h0) ?_
  refine Pl.H.take 6 20 (.pointer (some ⟨g, 1, none⟩)) (by kernel_rfl) (by kernel_rfl) (by kernel_rfl) (Pl.free 6 (by kernel_rfl)) (Pl.field 6 76 (.tmp 7) 1 _ (by kernel_rfl) (by decide) (fdImg1_0 g)) (show (fun w' => w'.cell? ⟨m, 1, none⟩ = some (.pointer (some ⟨p, 0, none⟩)) ∧ w'.cell? ⟨g, 0, none⟩ = some (.int .i64 q) ∧ w'.cell? ⟨g, 1, none⟩ = some (.slice a l c)) w.drew from h0) ?_
  refine Pl.H.take 7 21 (.slice a l c) (by kernel_rfl) (by kernel_rfl) (by kernel_rfl) (Pl.free 7 (by kernel_rfl)) (Pl.load 7 32 (.tmp 20) _ (by kernel_rfl) (by decide) (fun w' hS => ldBs g 1 _ _ _ w' hS.2.2)) (show (fun w' => w'.cell? ⟨m, 1, none⟩ = some (.pointer (some ⟨p, 0, none⟩)) ∧ w'.cell? ⟨g, 0, none⟩ = some (.int .i64 q) ∧ w'.cell? ⟨g, 1, none⟩ = some (.slice a l c)) w.drew from h0) ?_
  refine Pl.H.take 8 22 (.int .i64 z) (by kernel_rfl) (by kernel_rfl) (by kernel_rfl) (Pl.free 8 (by kernel_rfl)) (Pl.move 8 (.tmp 2) (by kernel_rfl) (by decide)) (show (fun w' => w'.cell? ⟨m, 1, none⟩ = some (.pointer (some ⟨p, 0, none⟩)) ∧ w'.cell? ⟨g, 0, none⟩ = some (.int .i64 q) ∧ w'.cell? ⟨g, 1, none⟩ = some (.slice a l c)) w.drew from h0) ?_
  refine Pl.H.call 9 23 87 [(.tmp 17), (.tmp 19), (.tmp 21), (.tmp 22)] #[81, 3, 32, 3] (by kernel_rfl) (by kernel_rfl) (by kernel_rfl) (Pl.free 9 (by kernel_rfl)) (by kernel_rfl) (by decide) entPut (Calls.mono (hc) ?_)
  rintro e w2 ⟨rfl, hr2⟩
  refine ⟨.int .i64 rr, rfl, (hRS w2 hr2), ?_⟩
  refine Pl.H.done (by kernel_rfl) (fun A' hA' => ?_)
  rw [Pl.At.ext hA' ((((((((((hA.put 14 _).put 15 _).put 16 _).put 17 _).put 18 _).put 19 _).put 20 _).put 21 _).put 22 _).put 23 _)]
  exact hend (fun d => if d = 14 then .pointer (some ⟨m, 0, none⟩) else if d = 15 then .pointer (some ⟨m, 0, none⟩) else if d = 16 then .pointer (some ⟨m, 1, none⟩) else if d = 17 then .pointer (some ⟨p, 0, none⟩) else if d = 18 then .pointer (some ⟨g, 0, none⟩) else if d = 19 then .int .i64 q else if d = 20 then .pointer (some ⟨g, 1, none⟩) else if d = 21 then .slice a l c else if d = 22 then .int .i64 z else if d = 23 then .int .i64 rr else undef) _ hr2

set_option maxHeartbeats 2000000 in
set_option maxRecDepth 100000 in
theorem mchk3 (w : World) (m dv : Nat) (y : Int) (R R3 : World → Prop) (h0 : (fun (w' : World) => w'.cell? ⟨m, 0, none⟩ = some (.pointer (some ⟨dv, 0, none⟩))) w) (hc : Calls Tryz.prog 49 #[.pointer (some ⟨m, 0, none⟩)] w.drew fun e w2 => e = .returned (.int .i64 y) ∧ R w2) (hRS : ∀ w2, R w2 → (fun (w' : World) => w'.cell? ⟨m, 0, none⟩ = some (.pointer (some ⟨dv, 0, none⟩))) w2) (hc2 : ∀ w2, R w2 → Calls Tryz.prog 60 #[.pointer (some ⟨dv, 0, none⟩), .int .i64 y] w2 fun e w3 => e = .returned (.int .i64 0) ∧ R3 w3) (hRS3 : ∀ w3, R3 w3 → (fun (w' : World) => w'.cell? ⟨m, 0, none⟩ = some (.pointer (some ⟨dv, 0, none⟩))) w3)
    {Q : Exit → Act → World → Prop} {A : Act} (hsz : A.tmps.size = 21) (hdf : A.defers = []) (s0 : A.tmps.getD 0 undef = .pointer (some ⟨m, 0, none⟩))
    (hend : ∀ (u : Nat → Value) w', R3 w' → Q .normal ((((((((A).put (some 12) (u 12)).put (some 13) (u 13)).put (some 14) (u 14)).put (some 15) (u 15)).put (some 16) (u 16)).put (some 17) (u 17)).put (some 18) (u 18)) w') :
    (Code.region 3 (Pl.find 3 ((Tryz.f18.body).getD .skip)) true).wp Tryz.prog Q A w := by
  have hA := Pl.At.same (v := .pointer (some ⟨m, 0, none⟩)) (d := 0) (Pl.At.here hsz hdf) s0
  refine Pl.H.start (S := fun w' => w'.cell? ⟨m, 0, none⟩ = some (.pointer (some ⟨dv, 0, none⟩))) (by kernel_rfl) hA (show (fun w' => w'.cell? ⟨m, 0, none⟩ = some (.pointer (some ⟨dv, 0, none⟩))) w.drew from h0) ?_
  rw [show (Pl.find 3 ((Tryz.f18.body).getD .skip)).size = 7 by kernel_rfl]
  refine Pl.H.take 0 12 (.pointer (some ⟨m, 0, none⟩)) (by kernel_rfl) (by kernel_rfl) (by kernel_rfl) (Pl.free 0 (by kernel_rfl)) (Pl.move 0 (.tmp 0) (by kernel_rfl) (by decide)) (show (fun w' => w'.cell? ⟨m, 0, none⟩ = some (.pointer (some ⟨dv, 0, none⟩))) w.drew from h0) ?_
  refine Pl.H.take 1 13 (.pointer (some ⟨m, 0, none⟩)) (by kernel_rfl) (by kernel_rfl) (by kernel_rfl) (Pl.free 1 (by kernel_rfl)) (Pl.nilc 1 (.tmp 12) _ (by kernel_rfl) (by decide) rfl) (show (fun w' => w'.cell? ⟨m, 0, none⟩ = some (.pointer (some ⟨dv, 0, none⟩))) w.drew from h0) ?_
  refine Pl.H.take 2 14 (.pointer (some ⟨m, 0, none⟩)) (by kernel_rfl) (by kernel_rfl) (by kernel_rfl) (Pl.free 2 (by kernel_rfl)) (Pl.field 2 83 (.tmp 13) 0 _ (by kernel_rfl) (by decide) (fdMt0_0 m)) (show (fun w' => w'.cell? ⟨m, 0, none⟩ = some (.pointer (some ⟨dv, 0, none⟩))) w.drew from h0) ?_
  refine Pl.H.take 3 15 (.pointer (some ⟨dv, 0, none⟩)) (by kernel_rfl) (by kernel_rfl) (by kernel_rfl) (Pl.free 3 (by kernel_rfl)) (Pl.load 3 23 (.tmp 14) _ (by kernel_rfl) (by decide) (fun w' hS => ldDev m 0 dv w' hS)) (show (fun w' => w'.cell? ⟨m, 0, none⟩ = some (.pointer (some ⟨dv, 0, none⟩))) w.drew from h0) ?_
  refine Pl.H.take 4 16 (.pointer (some ⟨m, 0, none⟩)) (by kernel_rfl) (by kernel_rfl) (by kernel_rfl) (Pl.free 4 (by kernel_rfl)) (Pl.move 4 (.tmp 0) (by kernel_rfl) (by decide)) (show (fun w' => w'.cell? ⟨m, 0, none⟩ = some (.pointer (some ⟨dv, 0, none⟩))) w.drew from h0) ?_
  refine Pl.H.call 5 17 49 [(.tmp 16)] #[27] (by kernel_rfl) (by kernel_rfl) (by kernel_rfl) (Pl.free 5 (by kernel_rfl)) (by kernel_rfl) (by decide) entEnd (Calls.mono (hc) ?_)
  rintro e w2 ⟨rfl, hr2⟩
  refine ⟨.int .i64 y, rfl, (hRS w2 hr2), ?_⟩
  refine Pl.H.call 6 18 60 [(.tmp 15), (.tmp 17)] #[23, 3] (by kernel_rfl) (by kernel_rfl) (by kernel_rfl) (Pl.free 6 (by kernel_rfl)) (by kernel_rfl) (by decide) entTrimM (Calls.mono (hc2 w2 hr2) ?_)
  rintro e w3 ⟨rfl, hr3⟩
  refine ⟨.int .i64 0, rfl, (hRS3 w3 hr3), ?_⟩
  refine Pl.H.done (by kernel_rfl) (fun A' hA' => ?_)
  rw [Pl.At.ext hA' (((((((hA.put 12 _).put 13 _).put 14 _).put 15 _).put 16 _).put 17 _).put 18 _)]
  exact hend (fun d => if d = 12 then .pointer (some ⟨m, 0, none⟩) else if d = 13 then .pointer (some ⟨m, 0, none⟩) else if d = 14 then .pointer (some ⟨m, 0, none⟩) else if d = 15 then .pointer (some ⟨dv, 0, none⟩) else if d = 16 then .pointer (some ⟨m, 0, none⟩) else if d = 17 then .int .i64 y else if d = 18 then .int .i64 0 else undef) _ hr3

set_option maxHeartbeats 2000000 in
set_option maxRecDepth 100000 in
theorem mrep3 (w : World) (z : Int) (a : Option Addr) (l c k : Nat) (hadd : ∀ w : World, (do eqGuard .add 3 (.tmp 23) (.tmp 24) (.int .i64 z) (.int .i64 ((k : Nat) : Int)); binOp .add 3 (.int .i64 z) (.int .i64 ((k : Nat) : Int)) : Sem Value).run Tryz.prog w = .ok (.int .i64 (z + ((k : Nat) : Int))) w) (hsl : ∀ w : World, (Instr.sliceAt 32 (.slice a l c) (some (.int .i64 ((k : Nat) : Int))) none none).run Tryz.prog w = .ok (.slice (fromA a c k) (l - k) (c - k)) w)
    {Q : Exit → Act → World → Prop} {A : Act} (hsz : A.tmps.size = 33) (hdf : A.defers = []) (s2 : A.tmps.getD 2 undef = .int .i64 z) (s3 : A.tmps.getD 3 undef = .slice a l c) (s5 : A.tmps.getD 5 undef = .int .i64 ((k : Nat) : Int))
    (hend : ∀ (u : Nat → Value) w', w' = w.drew → Q .normal (((((((((A).put (some 23) (u 23)).put (some 24) (u 24)).put (some 25) (u 25)).put (some 26) (u 26)).put (some 27) (u 27)).put (some 28) (u 28)).put (some 2) (.int .i64 (z + ((k : Nat) : Int)))).put (some 3) (.slice (fromA a c k) (l - k) (c - k))) w') :
    (Code.region 3 (Pl.find 3 ((Tryz.f39.body).getD .skip)) true).wp Tryz.prog Q A w := by
  have hA := Pl.At.same (v := .int .i64 ((k : Nat) : Int)) (d := 5) (Pl.At.same (v := .slice a l c) (d := 3) (Pl.At.same (v := .int .i64 z) (d := 2) (Pl.At.here hsz hdf) s2) s3) s5
  refine Pl.H.start (S := fun w' => True) (by kernel_rfl) hA trivial ?_
  rw [show (Pl.find 3 ((Tryz.f39.body).getD .skip)).size = 8 by kernel_rfl]
  refine Pl.H.take 0 23 (.int .i64 z) (by kernel_rfl) (by kernel_rfl) (by kernel_rfl) (Pl.free 0 (by kernel_rfl)) (Pl.move 0 (.tmp 2) (by kernel_rfl) (by decide)) trivial ?_
  refine Pl.H.take 1 24 (.int .i64 ((k : Nat) : Int)) (by kernel_rfl) (by kernel_rfl) (by kernel_rfl) (Pl.free 1 (by kernel_rfl)) (Pl.move 1 (.tmp 5) (by kernel_rfl) (by decide)) trivial ?_
  refine Pl.H.take 2 25 (.int .i64 (z + ((k : Nat) : Int))) (by kernel_rfl) (by kernel_rfl) (by kernel_rfl) (Pl.free 2 (by kernel_rfl)) (Pl.binV 2 .add 3 3 (.tmp 23) (.tmp 24) (.int .i64 z) (.int .i64 ((k : Nat) : Int)) _ (by kernel_rfl) (by decide) (by decide) rfl rfl (hadd)) trivial ?_
  refine Pl.H.take 3 26 (.slice a l c) (by kernel_rfl) (by kernel_rfl) (by kernel_rfl) (Pl.free 3 (by kernel_rfl)) (Pl.move 3 (.tmp 3) (by kernel_rfl) (by decide)) trivial ?_
  refine Pl.H.take 4 27 (.int .i64 ((k : Nat) : Int)) (by kernel_rfl) (by kernel_rfl) (by kernel_rfl) (Pl.free 4 (by kernel_rfl)) (Pl.move 4 (.tmp 5) (by kernel_rfl) (by decide)) trivial ?_
  refine Pl.H.take 5 28 (.slice (fromA a c k) (l - k) (c - k)) (by kernel_rfl) (by kernel_rfl) (by kernel_rfl) (Pl.free 5 (by kernel_rfl)) (Pl.slice 5 32 (.tmp 26) (some (.tmp 27)) none _ (by kernel_rfl) (by decide) (by decide) (by decide) (hsl)) trivial ?_
  refine Pl.H.take 6 2 (.int .i64 (z + ((k : Nat) : Int))) (by kernel_rfl) (by kernel_rfl) (by kernel_rfl) (Pl.free 6 (by kernel_rfl)) (Pl.assign 6 (.tmp 25) (by kernel_rfl) (by decide)) trivial ?_
  refine Pl.H.take 7 3 (.slice (fromA a c k) (l - k) (c - k)) (by kernel_rfl) (by kernel_rfl) (by kernel_rfl) (Pl.free 7 (by kernel_rfl)) (Pl.assign 7 (.tmp 28) (by kernel_rfl) (by decide)) trivial ?_
  refine Pl.H.done (by kernel_rfl) (fun A' hA' => ?_)
  rw [Pl.At.ext hA' ((((((((hA.put 23 _).put 24 _).put 25 _).put 26 _).put 27 _).put 28 _).put 2 _).put 3 _)]
  exact hend (fun d => if d = 23 then .int .i64 z else if d = 24 then .int .i64 ((k : Nat) : Int) else if d = 25 then .int .i64 (z + ((k : Nat) : Int)) else if d = 26 then .slice a l c else if d = 27 then .int .i64 ((k : Nat) : Int) else if d = 28 then .slice (fromA a c k) (l - k) (c - k) else undef) _ rfl

set_option maxHeartbeats 2000000 in
set_option maxRecDepth 100000 in
theorem mapp6 (w : World) (m b off len cap k n : Nat) (q : Int) (hk : k < len) (h0 : (fun (w' : World) => w'.cell? ⟨b, off + k * 2, none⟩ = some (.int .i64 q)) w) (hsub : ∀ w : World, (do eqGuard .sub 3 (.tmp 19) (.const (.int .i64 1)) (.int .i64 ((len : Nat) : Int)) (.int .i64 1); binOp .sub 3 (.int .i64 ((len : Nat) : Int)) (.int .i64 1) : Sem Value).run Tryz.prog w = .ok (.int .i64 ((k : Nat) : Int)) w) (hc : Calls Tryz.prog 33 #[.pointer (some ⟨m, 0, none⟩)] w.drew fun e w2 => e = .returned (.int .i64 ((n : Nat) : Int)) ∧ w2 = w.drew)
    {Q : Exit → Act → World → Prop} {A : Act} (hsz : A.tmps.size = 39) (hdf : A.defers = []) (s0 : A.tmps.getD 0 undef = .pointer (some ⟨m, 0, none⟩)) (s1 : A.tmps.getD 1 undef = .slice (some ⟨b, off, none⟩) len cap)
    (hend : ∀ (u : Nat → Value) w', w' = w.drew → Q .normal (((((((((((A).put (some 17) (u 17)).put (some 18) (u 18)).put (some 19) (u 19)).put (some 20) (u 20)).put (some 21) (u 21)).put (some 22) (u 22)).put (some 23) (u 23)).put (some 24) (u 24)).put (some 25) (u 25)).put (some 26) (.bool (decide (((n : Nat) : Int) ≤ q)))) w') :
    (Code.region 6 (Pl.find 6 ((Tryz.f13.body).getD .skip)) true).wp Tryz.prog Q A w := by
  have hA := Pl.At.same (v := .slice (some ⟨b, off, none⟩) len cap) (d := 1) (Pl.At.same (v := .pointer (some ⟨m, 0, none⟩)) (d := 0) (Pl.At.here hsz hdf) s0) s1
  refine Pl.H.start (S := fun w' => w'.cell? ⟨b, off + k * 2, none⟩ = some (.int .i64 q)) (by kernel_rfl) hA (show (fun w' => w'.cell? ⟨b, off + k * 2, none⟩ = some (.int .i64 q)) w.drew from h0) ?_
  rw [show (Pl.find 6 ((Tryz.f13.body).getD .skip)).size = 10 by kernel_rfl]
  refine Pl.H.take 0 17 (.slice (some ⟨b, off, none⟩) len cap) (by kernel_rfl) (by kernel_rfl) (by kernel_rfl) (Pl.free 0 (by kernel_rfl)) (Pl.move 0 (.tmp 1) (by kernel_rfl) (by decide)) (show (fun w' => w'.cell? ⟨b, off + k * 2, none⟩ = some (.int .i64 q)) w.drew from h0) ?_
  refine Pl.H.take 1 18 (.slice (some ⟨b, off, none⟩) len cap) (by kernel_rfl) (by kernel_rfl) (by kernel_rfl) (Pl.free 1 (by kernel_rfl)) (Pl.move 1 (.tmp 1) (by kernel_rfl) (by decide)) (show (fun w' => w'.cell? ⟨b, off + k * 2, none⟩ = some (.int .i64 q)) w.drew from h0) ?_
  refine Pl.H.take 2 19 (.int .i64 ((len : Nat) : Int)) (by kernel_rfl) (by kernel_rfl) (by kernel_rfl) (Pl.free 2 (by kernel_rfl)) (Pl.lenOf 2 52 (.tmp 18) _ (by kernel_rfl) (by decide) (fun _ _ => rfl)) (show (fun w' => w'.cell? ⟨b, off + k * 2, none⟩ = some (.int .i64 q)) w.drew from h0) ?_
  refine Pl.H.take 3 20 (.int .i64 ((k : Nat) : Int)) (by kernel_rfl) (by kernel_rfl) (by kernel_rfl) (Pl.free 3 (by kernel_rfl)) (Pl.binV 3 .sub 3 3 (.tmp 19) (.const (.int .i64 1)) (.int .i64 ((len : Nat) : Int)) (.int .i64 1) _ (by kernel_rfl) (by decide) (by decide) rfl rfl (hsub)) (show (fun w' => w'.cell? ⟨b, off + k * 2, none⟩ = some (.int .i64 q)) w.drew from h0) ?_
  refine Pl.H.take 4 21 (.pointer (some ⟨b, off + k * 2, none⟩)) (by kernel_rfl) (by kernel_rfl) (by kernel_rfl) (Pl.free 4 (by kernel_rfl)) (Pl.index 4 52 (.tmp 17) (.tmp 20) _ (by kernel_rfl) (by decide) (by decide) (ixIm b off len cap k hk)) (show (fun w' => w'.cell? ⟨b, off + k * 2, none⟩ = some (.int .i64 q)) w.drew from h0) ?_
  refine Pl.H.take 5 22 (.pointer (some ⟨b, off + k * 2, none⟩)) (by kernel_rfl) (by kernel_rfl) (by kernel_rfl) (Pl.free 5 (by kernel_rfl)) (Pl.field 5 76 (.tmp 21) 0 _ (by kernel_rfl) (by decide) (fdImgA b (off + k * 2))) (show (fun w' => w'.cell? ⟨b, off + k * 2, none⟩ = some (.int .i64 q)) w.drew from h0) ?_
  refine Pl.H.take 6 23 (.int .i64 q) (by kernel_rfl) (by kernel_rfl) (by kernel_rfl) (Pl.free 6 (by kernel_rfl)) (Pl.load 6 3 (.tmp 22) _ (by kernel_rfl) (by decide) (fun w' hS => ldInt b (off + k * 2) _ w' hS)) (show (fun w' => w'.cell? ⟨b, off + k * 2, none⟩ = some (.int .i64 q)) w.drew from h0) ?_
  refine Pl.H.take 7 24 (.pointer (some ⟨m, 0, none⟩)) (by kernel_rfl) (by kernel_rfl) (by kernel_rfl) (Pl.free 7 (by kernel_rfl)) (Pl.move 7 (.tmp 0) (by kernel_rfl) (by decide)) (show (fun w' => w'.cell? ⟨b, off + k * 2, none⟩ = some (.int .i64 q)) w.drew from h0) ?_
  refine Pl.H.call 8 25 33 [(.tmp 24)] #[27] (by kernel_rfl) (by kernel_rfl) (by kernel_rfl) (Pl.free 8 (by kernel_rfl)) (by kernel_rfl) (by decide) entPagesM (Calls.mono (hc) ?_)
  rintro e w2 ⟨rfl, hw2⟩
  obtain rfl := hw2.symm
  refine ⟨.int .i64 ((n : Nat) : Int), rfl, (show (fun w' => w'.cell? ⟨b, off + k * 2, none⟩ = some (.int .i64 q)) w.drew from h0), ?_⟩
  refine Pl.H.take 9 26 (.bool (decide (((n : Nat) : Int) ≤ q))) (by kernel_rfl) (by kernel_rfl) (by kernel_rfl) (Pl.free 9 (by kernel_rfl)) (Pl.binV 9 .geq 3 3 (.tmp 23) (.tmp 25) (.int .i64 q) (.int .i64 ((n : Nat) : Int)) _ (by kernel_rfl) (by decide) (by decide) rfl rfl (geqI q ((n : Nat) : Int) _ _)) (show (fun w' => w'.cell? ⟨b, off + k * 2, none⟩ = some (.int .i64 q)) w.drew from h0) ?_
  refine Pl.H.done (by kernel_rfl) (fun A' hA' => ?_)
  rw [Pl.At.ext hA' ((((((((((hA.put 17 _).put 18 _).put 19 _).put 20 _).put 21 _).put 22 _).put 23 _).put 24 _).put 25 _).put 26 _)]
  exact hend (fun d => if d = 17 then .slice (some ⟨b, off, none⟩) len cap else if d = 18 then .slice (some ⟨b, off, none⟩) len cap else if d = 19 then .int .i64 ((len : Nat) : Int) else if d = 20 then .int .i64 ((k : Nat) : Int) else if d = 21 then .pointer (some ⟨b, off + k * 2, none⟩) else if d = 22 then .pointer (some ⟨b, off + k * 2, none⟩) else if d = 23 then .int .i64 q else if d = 24 then .pointer (some ⟨m, 0, none⟩) else if d = 25 then .int .i64 ((n : Nat) : Int) else undef) _ rfl
end Go.Proofs.YtpggkfdnpdhkfaaGreat

namespace Go.Proofs.YtpggkfdnpdhkfaaGreat
open Go.RowKit
set_option maxRecDepth 100000
set_option linter.unusedVariables false

set_option maxHeartbeats 2000000 in
theorem givenM_any {w : World} {m d p : Nat} (h : MtBlk w m d p) : Calls Tryz.prog 45 #[at0 m] w fun e w' => e = .returned (.bool true) ∧ w' = w := by
  have c0 := h.c0
  clear h
  unfold at0 at *
  go_enter Tryz.func45, Tryz.ntmps45
  go_wp2_with fail
  go_ret
  exact ⟨rfl, rfl⟩

set_option maxHeartbeats 2000000 in
theorem endM_any {M : PoM} (S : PoolS M) {w : World} {m p d : Nat} {P : Po} {L : Dl} {X : Nat → Prop} (h : Mt M w m p d P L X) {n c : Nat} (hF : P.Fine n c) : Calls Tryz.prog 49 #[at0 m] w fun e w' => e = .returned (.int .i64 P.D.fin) ∧ Below w.heap.size w w' := by
  have hE := hF.wet.dev
  have HS := hide (stream_any w d P.D L (S.dev h.pool) n hE.sp hE.n2 hE.n1 (Nat.le_trans hF.ss (by omega)))
  have c0 := h.blk.c0
  have HSB := hide hE.sbn
  have HSS := hide hF.ss
  have HFIN : Hid (P.D.fin = ((P.D.sb : Nat) : Int) + ((P.D.ss.length : Nat) : Int)) := by show P.D.fin = _; unfold Ds.fin; omega
  obtain ⟨sb, hsb⟩ : ∃ sb, sb = P.D.sb := ⟨_, rfl⟩
  rw [← hsb] at HS HSB HFIN
  clear h hF hE hsb
  unfold at0 at *
  go_enter Tryz.func49, Tryz.ntmps49
  go_wp2_with fail
  refine HS.out.mono ?_
  rintro e w1 ⟨hb1, ⟨sa, sl, sc⟩, rfl, _, hl, _⟩
  simp only [Sl.val] at hl ⊢
  have hsl : sl ≤ 65536 := by rw [hl]; exact HSS.out
  have hsb9 : sb ≤ 900000000000 := HSB.out
  have HF : Hid (P.D.fin = ((sb : Nat) : Int) + ((sl : Nat) : Int)) := by rw [hl]; exact HFIN
  have HB := hide hb1
  clear hb1 hl c0
  go_wp2_with fail
  go_ret
  exact ⟨by rw [HF.out]; rfl, HB.out⟩

set_option maxHeartbeats 2000000 in
theorem syncM_any {M : PoM} (S : PoolS M) {w : World} {m p d : Nat} {P : Po} {L : Dl} {X : Nat → Prop} (h : Mt M w m p d P L X) {n c : Nat} (hs : P.D.Sane n) (hf : P.D.gone = false → P.D.Fit P.D.units P.D.tr.length) (hF : ({ P with D := P.D.sync } : Po).Fine n c) :
    Calls Tryz.prog 16 #[at0 m] w fun e w' => e = .returned (.tuple #[]) ∧ MDid M w m p d L X w' P.syncM := by
  have HG := hide (givenM_any h.blk)
  have HS := hide (sync_any w d P.D L (S.dev h.pool) n hs hf)
  have c0 := h.blk.c0
  have HM := hide h
  have HFi := hide hF
  clear h hs hf hF
  unfold at0 at *
  go_enter Tryz.func16, Tryz.ntmps16
  go_wp2_with fail
  refine HG.out.mono ?_
  rintro e w' ⟨rfl, hw⟩
  obtain rfl := hw.symm
  clear hw
  go_wp2_with fail
  refine HS.out.mono ?_
  rintro e w1 ⟨rfl, L1, hT⟩
  have h1 := HM.out.turn S hT
  have H1 := hide h1
  have c1 := h1.mt.blk.c1
  have HY := hide (S.synced w1 p d _ L1 X n c h1.mt.pool HFi.out)
  clear h1 hT c0
  unfold at0 at *
  go_wp2_with fail
  refine HY.out.mono ?_
  rintro e w2 ⟨ha, rfl⟩
  have HE := hide (H1.out.did (H1.out.mt.act ha))
  clear ha c1
  go_wp2_with fail
  go_end0
  exact ⟨rfl, HE.out⟩

set_option maxHeartbeats 2000000 in
theorem pagesM_any {M : PoM} (S : PoolS M) {w : World} {m p d : Nat} {P : Po} {L : Dl} {X : Nat → Prop} (h : Mt M w m p d P L X) {n : Nat} (hn : P.D.sp.length = 512 * n) (hn2 : n ≤ 64) : Calls Tryz.prog 33 #[at0 m] w fun e w' => e = .returned (.int .i64 ((n : Nat) : Int)) ∧ w' = w := by
  have HG := hide (givenM_any h.blk)
  have HS := hide (pages_any w d P.D L (S.dev h.pool) n hn hn2)
  have c0 := h.blk.c0
  clear h
  unfold at0 at *
  go_enter Tryz.func33, Tryz.ntmps33
  go_wp2_with fail
  refine HG.out.mono ?_
  rintro e w' ⟨rfl, hw⟩
  obtain rfl := hw.symm
  clear hw
  go_wp2_with fail
  refine HS.out.mono ?_
  rintro e w' ⟨rfl, hw⟩
  obtain rfl := hw.symm
  clear hw
  go_wp2_with fail
  go_ret
  exact ⟨rfl, rfl⟩

set_option maxHeartbeats 2000000 in
theorem readM_ok {M : PoM} (S : PoolS M) {w : World} {m p d : Nat} {P : Po} {L : Dl} {X : Nat → Prop} (h : Mt M w m p d P L X) {n c : Nat} (hF : P.Fine n c) (k : Nat) (hk : k < n) : Calls Tryz.prog 22 #[at0 m, .int .i64 ((k : Nat) : Int)] w fun e w' => MDid M w m p d L X w' (P.letIn k) ∧ ∃ s : Sl, e = .returned (.tuple #[s.val, .int .i64 0]) ∧ Own 5 1 w' s (vals ((P.letIn k).con k)) ∧ s.len = 512 := by
  have HG := hide (givenM_any h.blk)
  have HS := hide (S.read w p d P L X n c k h.pool hF hk)
  have c1 := h.blk.c1
  have HM := hide h
  clear h hF
  unfold at0 at *
  go_enter Tryz.func22, Tryz.ntmps22
  go_wp2_with fail
  refine HG.out.mono ?_
  rintro e w' ⟨rfl, hw⟩
  obtain rfl := hw.symm
  clear hw
  go_wp2_with fail
  refine HS.out.mono ?_
  rintro e w1 ⟨ha, ⟨sa, sl, sc⟩, rfl, ho, hl⟩
  have HE : Hid (MDid M w m p d L X w1 (P.letIn k) ∧ Own 5 1 w1 ⟨sa, sl, sc⟩ (vals ((P.letIn k).con k)) ∧ (Sl.mk sa sl sc).len = 512) := ⟨HM.out.act ha, ho, hl⟩
  clear ha ho hl c1
  simp only [Sl.val]
  go_wp2_with fail
  go_ret2
  exact ⟨HE.out.1, ⟨sa, sl, sc⟩, rfl, HE.out.2⟩

set_option maxHeartbeats 2000000 in
theorem evictM_any {M : PoM} (S : PoolS M) {w : World} {m p d : Nat} {P : Po} {L : Dl} {X : Nat → Prop} (h : Mt M w m p d P L X) {n c : Nat} (hF : P.Fine n c) (k : Int) (hw : (Lit.int .i64 k).wf = true) : Calls Tryz.prog 20 #[at0 m, .int .i64 k] w fun e w' => MDid M w m p d L X w' (P.evictAny k) ∧ e = .returned (.int .i64 (if 0 ≤ k ∧ (P.m k.toNat).isSome = true then 0 else 3)) := by
  have HG := hide (givenM_any h.blk)
  have HS : Hid (Calls Tryz.prog 63 #[at0 p, .int .i64 k] w fun e w' => MDid M w m p d L X w' (P.evictAny k) ∧ e = .returned (.int .i64 (if 0 ≤ k ∧ (P.m k.toNat).isSome = true then 0 else 3))) := by
    show Calls _ _ _ _ _
    unfold Po.evictAny
    by_cases hk : 0 ≤ k ∧ (P.m k.toNat).isSome = true
    · rw [if_pos hk, if_pos hk]
      obtain ⟨x, rfl⟩ : ∃ x : Nat, k = ((x : Nat) : Int) := ⟨k.toNat, by omega⟩
      rw [Int.toNat_natCast] at hk ⊢
      refine (S.evict w p d P L X n c x h.pool hF hk.2).mono ?_
      rintro e w' ⟨ha, r⟩
      exact ⟨h.act ha, r⟩
    · rw [if_neg hk, if_neg hk]
      refine (S.evictNone w p d P L X n c k h.pool hF hk hw).mono ?_
      rintro e w' ⟨hb, r⟩
      exact ⟨⟨L, X, h.same S hb⟩, r⟩
  have c1 := h.blk.c1
  generalize (if 0 ≤ k ∧ (P.m k.toNat).isSome = true then (0 : Int) else 3) = rr at *
  clear h hF
  unfold at0 at *
  go_enter Tryz.func20, Tryz.ntmps20
  go_wp2_with fail
  refine HG.out.mono ?_
  rintro e w' ⟨rfl, hw'⟩
  obtain rfl := hw'.symm
  clear hw'
  go_wp2_with fail
  refine HS.out.mono ?_
  rintro e w1 ⟨ha, rfl⟩
  have HE := hide ha
  clear ha c1
  go_wp2_with fail
  go_ret
  exact ⟨HE.out, rfl⟩
end Go.Proofs.YtpggkfdnpdhkfaaGreat

namespace Go.Proofs.YtpggkfdnpdhkfaaGreat
open Go.RowKit
set_option maxRecDepth 100000
set_option linter.unusedVariables false

theorem rBelowM {w w1 w2 : World} (h : Below w.heap.size w w1) (k : Below w1.heap.size w1 w2) : Below w.heap.size w w2 := h.trans (k.mono h.size)
theorem puts_take (P : Po) (n : Nat) (l : List Ix) (z : Int) (k : Nat) (hk : k < l.length) : P.puts n (ims (l.take (k + 1))) z = (P.puts n (ims (l.take k)) z).putA n (l.getD k Ix.zero).im z := by
  rw [List.take_succ_eq_append_getElem hk, ims_append]
  unfold Po.puts
  rw [List.foldl_append, show l.getD k Ix.zero = l[k] by simp [List.getD, hk]]
  rfl
/-- Put of any image, by the page's own number. -/
theorem putAny {M : PoM} (S : PoolS M) {w : World} {m p d : Nat} {P : Po} {L : Dl} {X : Nat → Prop} (h : Mt M w m p d P L X) {n c : Nat} (hF : P.Fine n c) (q : Int) (a : Option Addr) (cap : Nat) (ys : List Nat) (hy : Came w a 512 cap ys) (hoff : Off (fun i => X i ∨ L.F d i) a 512) (z : Int) (hz : (Lit.int .i64 z).wf = true) :
    Calls Tryz.prog 87 #[at0 p, .int .i64 q, .slice a 512 cap, .int .i64 z] w fun e w' => e = .returned (.int .i64 (if 0 ≤ q ∧ q < ((n : Nat) : Int) then 0 else 3)) ∧ MDid M w m p d L X w' (P.putA n ⟨q, ys⟩ z) := by
  unfold Po.putA
  by_cases hq : 0 ≤ q ∧ q < ((n : Nat) : Int)
  · rw [if_pos hq, if_pos (show 0 ≤ (Im.mk q ys).page ∧ (Im.mk q ys).page < ((n : Nat) : Int) from hq)]
    obtain ⟨x, rfl⟩ : ∃ x : Nat, q = ((x : Nat) : Int) := ⟨q.toNat, by omega⟩
    refine (S.put w p d P L X n c x a cap ys z h.pool hF (by omega) hy hoff hz).mono ?_
    rintro e w' ⟨ha, r⟩
    exact ⟨r, h.act ha⟩
  · rw [if_neg hq, if_neg (show ¬ (0 ≤ (Im.mk q ys).page ∧ (Im.mk q ys).page < ((n : Nat) : Int)) from hq)]
    refine (S.putNone w p d P L X n c q a 512 cap z h.pool hF hq).mono ?_
    rintro e w' ⟨hb, r⟩
    exact ⟨r, ⟨L, X, h.same S hb⟩⟩

set_option maxHeartbeats 8000000 in
theorem putM_any {M : PoM} (S : PoolS M) {w : World} {m p d : Nat} {P : Po} {L : Dl} {X : Nat → Prop} (h : Mt M w m p d P L X) {n c : Nat} (hF : P.Fine n c) (v : Sl) (l : List Ix) (hg : Gr (fun k => ¬ (X k ∨ L.F d k) ∧ k < w.heap.size) w v l) (hl : ∀ x ∈ l, x.bs.length = 512) (hc : c + 4 * l.length ≤ 9000) (z : Int) (hz : (Lit.int .i64 z).wf = true) :
    Calls Tryz.prog 48 #[at0 m, v.val, .int .i64 z] w fun e w' => e = .returned (.tuple #[]) ∧ MDid M w m p d L X w' (P.puts n (ims l) z) := by
  obtain ⟨va, len, vc⟩ := v
  have hlen : l.length = len := hg.len
  have hbig : len ≤ 1000000 := hg.big
  have HST : Hid (MDid M w m p d L X w (P.puts n (ims (l.take 0)) z)) := ⟨L, X, h.same S (Below.refl _ _)⟩
  have HG := hide hg
  have HF := hide hF
  have HL := hide hl
  have HC := hide hc
  have HZ := hide hz
  have HLN := hide hlen
  clear h hF hg hl hc hz hlen
  unfold at0 Sl.val
  simp only
  go_enter Tryz.func48, Tryz.ntmps48
  go_wp2_with fail
  go_loopw [10] (fun i wr => ∃ k : Nat, k ≤ len ∧ i = .int .i64 k ∧ Hid (MDid M w m p d L X wr (P.puts n (ims (l.take k)) z))) (fun i _ => len - (intOf i).toNat)
  case atStart => exact ⟨0, by omega, rfl, HST⟩
  case round =>
    obtain ⟨k, hk, rfl, hD⟩ := hrel
    rcases Nat.lt_or_ge k len with hlt | hge
    · obtain ⟨L1, X1, h1⟩ := hD.out
      have hg1 := HG.out.keep (Kept6.frm h1.frm (fun i hi => hi.1))
      obtain ⟨b, off, ha, c0, c1⟩ := hg1.cell k hlt
      simp only at ha
      subst ha
      have hat := hg1.at (i := k) hlt
      have hmem : l.getD k Ix.zero ∈ l := getD_mem _ (by rw [HLN.out]; exact hlt)
      have hbl := HL.out _ hmem
      have hpt := puts_take P n l z k (by rw [HLN.out]; exact hlt)
      have hF1 : (P.puts n (ims (l.take k)) z).Fine n (c + 4 * k) := by
        have hlk : (ims (l.take k)).length = k := by rw [ims_length, List.length_take, HLN.out]; omega
        have := HF.out.puts (z := z) (ims (l.take k)) (by rw [hlk]; have := HC.out; rw [HLN.out] at this; omega) (fun i hi => by
          obtain ⟨x, hx, rfl⟩ := List.mem_map.1 hi
          exact HL.out x (List.mem_of_mem_take hx)) (fun i hi => by
          obtain ⟨x, hx, rfl⟩ := List.mem_map.1 hi
          exact (HG.out.bs x (List.mem_of_mem_take hx)).came.bs.2.1)
        rw [hlk] at this
        exact this
      obtain ⟨x, hx⟩ : ∃ x, x = l.getD k Ix.zero := ⟨_, rfl⟩
      rw [← hx] at c0 c1 hat hbl hpt
      obtain ⟨q, ⟨sa, sl, sc⟩, bs⟩ := x
      have hsl : sl = 512 := by have h5 : bs.length = 512 := hbl; have h6 : bs.length = sl := hat.len; omega
      subst hsl
      replace c0 : wr.cell? ⟨b, off + k * 2, none⟩ = some (.int .i64 q) := c0
      replace c1 : wr.cell? ⟨b, off + k * 2 + 1, none⟩ = some (.slice sa 512 sc) := c1
      obtain ⟨wa, hwa⟩ : ∃ wa, wa = wr.alloc (.cells #[.int .i64 q, .slice sa 512 sc] 76) := ⟨_, rfl⟩
      have hA := below_alloc wr (.cells #[.int .i64 q, .slice sa 512 sc] 76)
      have hBX := imBlk_new wr q (.slice sa 512 sc)
      rw [← hwa] at hA hBX
      have hAd : Below wr.heap.size wr wa.drew := rBelowM hA (below_drew wa)
      have h2 := h1.mt.same S hAd
      have hcm := (hat.below hAd (Nat.le_refl _)).came
      have hoff : Off (fun i => X1 i ∨ L1.F d i) sa 512 := by
        intro ad e h0 hk'
        have hn := hat.home ad e h0
        exact (h1.foot _ hk').elim hn.1 (fun e => by have := hn.2; omega)
      have hpa := putAny S h2.mt hF1 q sa sc bs hcm hoff z HZ.out
      have hno : ¬ (X1 wr.heap.size ∨ L1.F d wr.heap.size) := fun e => by
        rcases e with e | e
        · have := S.lt h1.mt.pool _ e
          omega
        · have := (S.dev h1.mt.pool).lt e
          omega
      have hlt2 : wr.heap.size < wa.drew.heap.size := (Array.getElem?_eq_some_iff.1 (show wa.drew.heap[wr.heap.size]? = _ from hBX)).1
      have HR : Hid (∀ {Q : Exit → Act → World → Prop} {A : Act}, _) := fun {Q A} => mput3 wa m wr.heap.size p q z _ sa 512 sc (fun w2 => MDid M wa.drew m p d L1 X1 w2 ((P.puts n (ims (l.take k)) z).putA n ⟨q, bs⟩ z)) ⟨h2.mt.blk.c1, (Addr.cell0 hBX).trans rfl, (Addr.cell0 hBX).trans rfl⟩ hpa (fun w2 hw2 => by
        obtain ⟨L3, X3, h3⟩ := hw2
        have hb3 : w2.heap[wr.heap.size]? = _ := (h3.frm.block _ hlt2 hno).trans hBX
        exact ⟨h3.mt.blk.c1, (Addr.cell0 hb3).trans rfl, (Addr.cell0 hb3).trans rfl⟩) (Q := Q) (A := A)
      have HN : Hid (∀ w2, MDid M wa.drew m p d L1 X1 w2 ((P.puts n (ims (l.take k)) z).putA n ⟨q, bs⟩ z) → MDid M w m p d L X w2 (P.puts n (ims (l.take (k + 1))) z)) := fun w2 hw2 => by
        rw [hpt]
        exact (h1.trans h2).did hw2
      have i3 : ((k : Nat) : Int) < ((len : Nat) : Int) := by omega
      clear hx hpt hF1 hat hbl hmem hg1 h1 h2 hcm hoff hpa hno hlt2 hAd hA hBX
      go_wp2_with fail
      rw [← hwa]
      refine Pl.region_is (ops := Pl.find 3 ((Tryz.f48.body).getD .skip)) (by kernel_rfl) ?_
      refine HR.out (by rfl) (by rfl) (by rfl) (by rfl) (by rfl) (fun u w2 hw2 => ?_)
      have HD2 := hide (HN.out w2 hw2)
      clear hw2 hwa HR HN c0 c1 hD
      simp only [Act.put, List.setIfInBounds_toArray, List.set_cons_zero, List.set_cons_succ]
      go_wp2_with fail
      go_roundw
      case rel => exact ⟨k + 1, by omega, by go_num, HD2⟩
      case measure => simp only [intOf]; omega
    · obtain rfl : k = len := by omega
      have i3 : ¬ ((k : Nat) : Int) < ((k : Nat) : Int) := by omega
      have HE : Hid (MDid M w m p d L X wr (P.puts n (ims l) z)) := by
        have := hD.out
        rw [List.take_of_length_le (by rw [HLN.out]; exact Nat.le_refl _)] at this
        exact this
      clear hD
      go_wp2_with fail
      go_end0
      exact ⟨rfl, HE.out⟩

/-- What Apply leaves. -/
def Po.apply (P : Po) (n : Nat) (g : List Im) : Po := ({ P with D := P.D.append (recd g) } : Po).puts n g (P.D.append (recd g)).fin
open Classical in
/-- What Apply tells. -/
noncomputable def Po.applyE (P : Po) (n : Nat) (g : List Im) : Int := if ¬ May g then 1 else if ((n : Nat) : Int) ≤ (g.getD (g.length - 1) Im.zero).page then 3 else if 65536 < P.D.ss.length + (recd g).length then 10 else 0
theorem append_ss (D : Ds) (b : List Nat) : (D.append b).ss = D.ss ++ b ∧ (D.append b).sb = D.sb ∧ (D.append b).sp = D.sp := ⟨rfl, (D.spend_same b.length).2.1, (D.spend_same b.length).1⟩
theorem Po.Fine.append {P : Po} {n c : Nat} (h : P.Fine n c) (b : List Nat) (hb : P.D.ss.length + b.length ≤ 65536) : ({ P with D := P.D.append b } : Po).Fine n c :=
  ⟨h.ok.dev (append_ss P.D b).2.2 _, ⟨h.wet.dev.append b hb, h.wet.sh⟩, h.cap, by show (P.D.append b).ss.length ≤ _; rw [(append_ss P.D b).1, List.length_append]; exact hb⟩
theorem fin_wf {P : Po} {n c : Nat} (h : P.Fine n c) : (Lit.int .i64 P.D.fin).wf = true := by
  have h1 := h.wet.dev.sbn
  have h2 := h.ss
  unfold Ds.fin
  simp only [Lit.wf, show IntKind.i64.min = -9223372036854775808 by decide, show IntKind.i64.max = 9223372036854775807 by decide, Bool.and_eq_true, decide_eq_true_eq]
  omega
set_option maxHeartbeats 8000000 in
theorem applyM_no {M : PoM} (S : PoolS M) {w : World} {m p d : Nat} {P : Po} {L : Dl} {X : Nat → Prop} (h : Mt M w m p d P L X) {D : Nat → Prop} (v : Sl) (l : List Ix) (hg : Gr D w v l) (hm : ¬ May (ims l)) :
    Calls Tryz.prog 13 #[at0 m, v.val] w fun e w' => e = .returned (.int .i64 1) ∧ Below w.heap.size w w' := by
  have HG := hide (givenM_any h.blk)
  have HE := hide (encode_no w v l hg hm)
  clear h hg hm
  obtain ⟨va, len, vc⟩ := v
  unfold at0 at *
  unfold Sl.val at *
  simp only at *
  go_enter Tryz.func13, Tryz.ntmps13
  go_wp2_with fail
  refine HG.out.mono ?_
  rintro e w' ⟨rfl, hw⟩
  obtain rfl := hw.symm
  clear hw
  go_wp2_with fail
  refine HE.out.mono ?_
  rintro e w1 ⟨rfl, hb⟩
  have HB := hide hb
  clear hb
  go_wp2_with fail
  go_ret
  exact ⟨rfl, HB.out⟩

set_option maxHeartbeats 8000000 in
theorem applyM_any {M : PoM} (S : PoolS M) {w : World} {m p d : Nat} {P : Po} {L : Dl} {X : Nat → Prop} (h : Mt M w m p d P L X) {n c : Nat} (hF : P.Fine n c) (hc : c + 24 ≤ 9000) (v : Sl) (l : List Ix) (hg : Gr (fun k => ¬ (X k ∨ L.F d k) ∧ k < w.heap.size) w v l) :
    Calls Tryz.prog 13 #[at0 m, v.val] w fun e w' => e = .returned (.int .i64 (P.applyE n (ims l))) ∧ MDid M w m p d L X w' (if P.applyE n (ims l) = 0 then P.apply n (ims l) else P) := by
  unfold Po.applyE
  by_cases hm : May (ims l)
  case neg =>
    rw [if_pos hm, if_neg (by decide)]
    refine (applyM_no S h v l hg hm).mono ?_
    rintro e w' ⟨rfl, hb⟩
    exact ⟨rfl, L, X, h.same S hb⟩
  rw [if_neg (not_not_intro hm)]
  have HG := hide (givenM_any h.blk)
  have HE := hide (encode_ok w v l hg hm)
  have hlen := hg.len
  have hml : (ims l).length = l.length := ims_length l
  have h1 := hm.1
  have h6 := hm.2.1
  have HM := hide h
  have HF := hide hF
  have HGR := hide hg
  have HMY := hide hm
  have HP := hide (fun (w' : World) (Q : Po) (L' : Dl) (X' : Nat → Prop) (hh : Mt M w' m p d Q L' X') (hs : Q.D.sp.length = 512 * n) => pagesM_any S hh hs hF.wet.dev.n2)
  have hlast : (ims l).getD ((ims l).length - 1) Im.zero = (l.getD (v.len - 1) Ix.zero).im := by rw [ims_getD, hml, hlen]
  obtain ⟨va, len, vc⟩ := v
  replace hlen : l.length = len := hlen
  replace hlast : (ims l).getD ((ims l).length - 1) Im.zero = (l.getD (len - 1) Ix.zero).im := hlast
  have hl1 : 1 ≤ len := by omega
  have hl6 : len ≤ 6 := by omega
  obtain ⟨b, off, ha, c0, c1⟩ := hg.cell (len - 1) (by show len - 1 < len; omega)
  simp only at ha
  subst ha
  have hrl : (recd (ims l)).length = 7 + 513 * len := by rw [recd_length hm.len, hml, hlen]
  have HRB := hide (recd_bytes hg.imB hm)
  rw [hlast, hrl]
  obtain ⟨q, hq⟩ : ∃ q, q = (l.getD (len - 1) Ix.zero).page := ⟨_, rfl⟩
  rw [show (l.getD (len - 1) Ix.zero).im.page = q from hq.symm]
  rw [← hq] at c0
  have HCC : Hid (∀ w', Below w.heap.size w w' → w'.cell? ⟨b, off + (len - 1) * 2, none⟩ = some (.int .i64 q)) := fun w' hb => (hb.cell (World.block_lt_of_cell? w _ c0)).trans c0
  have HC := hide hc
  have HRL := hide hrl
  have HLN := hide hlen
  have hss9 := hF.ss
  have hmm : ((len : Nat) : Int) - 1 = (((len - 1 : Nat)) : Int) := by omega
  clear c0 c1 hq hlast hm hF hg h hc hrl hml hlen h1 h6
  have HSUB : Hid (∀ w : World, (do eqGuard .sub 3 (.tmp 19) (.const (.int .i64 1)) (.int .i64 ((len : Nat) : Int)) (.int .i64 1); binOp .sub 3 (.int .i64 ((len : Nat) : Int)) (.int .i64 1) : Sem Value).run Tryz.prog w = .ok (.int .i64 ((len - 1 : Nat) : Int)) w) := fun w => subN len 1 _ _ hl1 (by omega) w
  have HPG : Hid (∀ w1, Below w.heap.size w w1 → Calls Tryz.prog 33 #[.pointer (some ⟨m, 0, none⟩)] w1.drew fun e w2 => e = .returned (.int .i64 ((n : Nat) : Int)) ∧ w2 = w1.drew) := fun w1 hb => pagesM_any S (HM.out.same S (rBelowM hb (below_drew w1))).mt HF.out.ok.sp HF.out.wet.dev.n2
  clear HP
  unfold at0 at *
  unfold Sl.val at *
  simp only at *
  by_cases hq : ((n : Nat) : Int) ≤ q
  · have hd : decide (((n : Nat) : Int) ≤ q) = true := decide_eq_true hq
    rw [if_pos hq, if_neg (by decide)]
    clear hq
    go_enter Tryz.func13, Tryz.ntmps13
    go_wp2_with fail
    refine HG.out.mono ?_
    rintro e w' ⟨rfl, hw⟩
    obtain rfl := hw.symm
    clear hw
    go_wp2_with fail
    refine HE.out.mono ?_
    rintro e w1 ⟨r, rfl, ho, hb1⟩
    obtain ⟨⟨ra, rl, rc⟩, rfl, hown, hsl, hblk⟩ := ho.own
    simp only at hsl
    have HOW := hide hown
    have HSL : Hid (rl = 7 + 513 * len) := hsl.trans HRL.out
    have HBK := hide hblk
    have HB1 := hide (rBelowM hb1 (below_drew w1))
    have HR : Hid (∀ {Q : Exit → Act → World → Prop} {A : Act}, _) := fun {Q A} => mapp6 w1 m b off len vc (len - 1) n q (by omega) (HCC.out w1 hb1) (HSUB.out) (HPG.out w1 hb1) (Q := Q) (A := A)
    clear ho hown hsl hblk hb1
    simp only [Sl.val]
    go_wp2_with fail
    refine Pl.region_is (ops := Pl.find 6 ((Tryz.f13.body).getD .skip)) (by kernel_rfl) ?_
    refine HR.out (by rfl) (by rfl) (by rfl) (by rfl) (fun u w2 hw2 => ?_)
    clear HR
    simp only [Act.put, List.setIfInBounds_toArray, List.set_cons_zero, List.set_cons_succ]
    rw [← hw2] at HB1
    have HOW2 : Hid (Own 5 1 w2 ⟨ra, rl, rc⟩ (vals (recd (ims l)))) := by rw [hw2]; exact HOW.out.frame (fun k hk => rfl)
    clear hw2 HOW
    rw [hd]
    go_wp2_with fail
    go_ret
    exact ⟨rfl, L, X, HM.out.same S HB1.out⟩
  have hd : decide (((n : Nat) : Int) ≤ q) = false := decide_eq_false hq
  rw [if_neg hq]
  clear hq
  by_cases hs : 65536 < P.D.ss.length + (7 + 513 * len)
  · rw [if_pos hs, if_neg (by decide)]
    have HAF : Hid (∀ w' a cap, Below w.heap.size w w' → Calls Tryz.prog 47 #[.pointer (some ⟨d, 0, none⟩), .slice a (7 + 513 * len) cap] w' fun e w2 => e = .returned (.int .i64 10) ∧ w2 = w') := fun w' a cap hb => append_full w' d P.D L (S.dev (HM.out.same S hb).mt.pool) n HF.out.ok.sp HF.out.wet.dev.n2 HF.out.wet.dev.n1 a (7 + 513 * len) cap HF.out.ss hs
    clear hs
    go_enter Tryz.func13, Tryz.ntmps13
    go_wp2_with fail
    refine HG.out.mono ?_
    rintro e w' ⟨rfl, hw⟩
    obtain rfl := hw.symm
    clear hw
    go_wp2_with fail
    refine HE.out.mono ?_
    rintro e w1 ⟨r, rfl, ho, hb1⟩
    obtain ⟨⟨ra, rl, rc⟩, rfl, hown, hsl, hblk⟩ := ho.own
    simp only at hsl
    have HOW := hide hown
    have HSL : Hid (rl = 7 + 513 * len) := hsl.trans HRL.out
    have HBK := hide hblk
    have HB1 := hide (rBelowM hb1 (below_drew w1))
    have HR : Hid (∀ {Q : Exit → Act → World → Prop} {A : Act}, _) := fun {Q A} => mapp6 w1 m b off len vc (len - 1) n q (by omega) (HCC.out w1 hb1) (HSUB.out) (HPG.out w1 hb1) (Q := Q) (A := A)
    clear ho hown hsl hblk hb1
    simp only [Sl.val]
    go_wp2_with fail
    refine Pl.region_is (ops := Pl.find 6 ((Tryz.f13.body).getD .skip)) (by kernel_rfl) ?_
    refine HR.out (by rfl) (by rfl) (by rfl) (by rfl) (fun u w2 hw2 => ?_)
    clear HR
    simp only [Act.put, List.setIfInBounds_toArray, List.set_cons_zero, List.set_cons_succ]
    rw [← hw2] at HB1
    have HOW2 : Hid (Own 5 1 w2 ⟨ra, rl, rc⟩ (vals (recd (ims l)))) := by rw [hw2]; exact HOW.out.frame (fun k hk => rfl)
    clear hw2 HOW
    rw [hd]
    have c0w := (HM.out.same S HB1.out).mt.blk.c0
    obtain rfl := HSL.out
    have HA := hide (HAF.out w2 ra rc HB1.out)
    clear HAF
    go_wp2_with fail
    refine HA.out.mono ?_
    rintro e w' ⟨rfl, hw⟩
    obtain rfl := hw.symm
    clear hw
    go_wp2_with fail
    go_ret
    exact ⟨rfl, L, X, HM.out.same S HB1.out⟩
  rw [if_neg hs, if_pos rfl]
  have HS := hide (Nat.not_lt.1 hs)
  clear hs
  go_enter Tryz.func13, Tryz.ntmps13
  go_wp2_with fail
  refine HG.out.mono ?_
  rintro e w' ⟨rfl, hw⟩
  obtain rfl := hw.symm
  clear hw
  go_wp2_with fail
  refine HE.out.mono ?_
  rintro e w1 ⟨r, rfl, ho, hb1⟩
  obtain ⟨⟨ra, rl, rc⟩, rfl, hown, hsl, hblk⟩ := ho.own
  simp only at hsl
  have HOW := hide hown
  have HSL : Hid (rl = 7 + 513 * len) := hsl.trans HRL.out
  have HBK := hide hblk
  have HB1 := hide (rBelowM hb1 (below_drew w1))
  have HR : Hid (∀ {Q : Exit → Act → World → Prop} {A : Act}, _) := fun {Q A} => mapp6 w1 m b off len vc (len - 1) n q (by omega) (HCC.out w1 hb1) (HSUB.out) (HPG.out w1 hb1) (Q := Q) (A := A)
  clear ho hown hsl hblk hb1
  simp only [Sl.val]
  go_wp2_with fail
  refine Pl.region_is (ops := Pl.find 6 ((Tryz.f13.body).getD .skip)) (by kernel_rfl) ?_
  refine HR.out (by rfl) (by rfl) (by rfl) (by rfl) (fun u w2 hw2 => ?_)
  clear HR
  simp only [Act.put, List.setIfInBounds_toArray, List.set_cons_zero, List.set_cons_succ]
  rw [← hw2] at HB1
  have HOW2 : Hid (Own 5 1 w2 ⟨ra, rl, rc⟩ (vals (recd (ims l)))) := by rw [hw2]; exact HOW.out.frame (fun k hk => rfl)
  clear hw2 HOW
  rw [hd]
  obtain rfl := HSL.out
  have h2 := HM.out.same S HB1.out
  have hE := HF.out.wet.dev
  have hcm := HOW2.out.came HRB.out
  have hoff : Off (L.F d) ra (7 + 513 * len) := fun ad e _ hk => by
    have h5 := HBK.out ad.block (by simp [Sl.blk, e])
    have h6 := (S.dev HM.out.pool).lt hk
    omega
  have HA := hide (append_ok w2 d P.D L (S.dev h2.mt.pool) n hE.sp hE.n2 hE.n1 ra (7 + 513 * len) rc _ hcm hoff hE.al (by have := hE.kl; omega) HS.out)
  have c0w := h2.mt.blk.c0
  have H2 := hide h2
  clear h2 hE hcm hoff HBK
  unfold at0 at HA
  go_wp2_with fail
  refine HA.out.mono ?_
  rintro e w3 ⟨rfl, L3, hT⟩
  have h3 := H2.out.trans (H2.out.mt.turn S hT)
  have hF3 := HF.out.append (recd (ims l)) (by rw [HRL.out]; exact HS.out)
  have HEND := hide (endM_any S h3.mt hF3)
  have H3 := hide h3
  have HF3 := hide hF3
  clear h3 hF3 hT HA c0w
  unfold at0 at HEND
  obtain ⟨fz, hfz⟩ : ∃ fz, fz = (P.D.append (recd (ims l))).fin := ⟨_, rfl⟩
  have HFZ := hide hfz
  rw [show (Po.mk (P.D.append (recd (ims l))) P.l P.h P.m P.sy).D.fin = fz from hfz.symm] at HEND
  clear hfz
  go_wp2_with fail
  refine HEND.out.mono ?_
  rintro e w4 ⟨rfl, hb4⟩
  have h4 := H3.out.trans (H3.out.mt.same S hb4)
  have hg4 : Gr (fun k => ¬ (X k ∨ L3.F d k) ∧ k < w4.heap.size) w4 ⟨some ⟨b, off, none⟩, len, vc⟩ l :=
    (HGR.out.keep (Kept6.frm h4.frm (fun i hi => hi.1))).mono (fun k hk _ => ⟨fun e => (h4.foot k e).elim hk.1 (fun e => by have := hk.2; omega), Nat.lt_of_lt_of_le hk.2 h4.frm.size⟩)
  have hwf := fin_wf HF3.out
  have HPUT := hide (putM_any S h4.mt HF3.out _ l hg4 (fun x hx => HMY.out.len _ (List.mem_map.2 ⟨x, hx, rfl⟩)) (by have := HC.out; rw [HLN.out]; omega) _ hwf)
  have H4 := hide h4
  clear h4 hg4 hwf hb4 HEND H3
  rw [show (Po.mk (P.D.append (recd (ims l))) P.l P.h P.m P.sy).D.fin = fz from HFZ.out.symm] at HPUT
  unfold at0 at HPUT
  unfold Sl.val at HPUT
  simp only at HPUT
  go_wp2_with fail
  refine HPUT.out.mono ?_
  rintro e w5 ⟨rfl, hD⟩
  have HD : Hid (MDid M w m p d L X w5 (P.apply n (ims l))) := by
    have := H4.out.did hD
    rw [HFZ.out] at this
    exact this
  clear hD HPUT
  go_wp2_with fail
  go_ret
  exact ⟨rfl, HD.out⟩
end Go.Proofs.YtpggkfdnpdhkfaaGreat
