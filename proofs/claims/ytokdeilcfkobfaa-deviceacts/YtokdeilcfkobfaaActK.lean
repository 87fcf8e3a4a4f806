/-
  What an act does, on both sides.
-/
import Derived.Test.YtokdeilcfkobfaaActJ
namespace Go.Proofs.Ytokdeilcfkobfaa
open Go.RowKit
variable {K : Home}

/-- What the landed device does; what the document's does. -/
def DevDoes (p : Nat) (Ld : Dl) (f : Nat) (args : Array Value) (r0 : Value) (D' : Ds) (w : World) : Prop := Calls Try.prog f args w fun e w1 => e = .returned r0 ∧ ∃ Ld', Turned w p Ld w1 D' Ld'
def DocDoes (K : Home) (f : Nat) (args : Array Value) (mk : Value → Value) (A' : Da) (w : World) : Prop := Calls Try.prog f args w fun e w2 => Below w.heap.size w w2 ∧ ∃ (d' : Dv) (L' : DvL), e = .returned (mk (d'.val L')) ∧ DvIn K w2 d' L' ∧ d'.abs = A'
theorem same_below (w : World) : Below w.heap.size w w := ⟨rfl, rfl, rfl, Nat.le_refl _, fun _ _ => rfl⟩
theorem abs_len (d : Dv) : d.abs.done.length = d.done.length := by show (d.done.map _).length = _; rw [List.length_map]

theorem write_pair {n tot m : Nat} {D : Ds} {d : Dv} (hr : Rel D d.abs) (g : Good n tot m d.abs) (ht : tot ≤ 400) (hm : m ≤ 800) (hn1 : 1 ≤ n) (hn2 : n ≤ 64) (pg : Int) (len : Nat) (bs : List Nat) (hbl : bs.length = len) (hx : Bytes bs) :
    ∃ (r0 : Int) (D' : Ds) (A' : Da), Rel D' A' ∧ Good n tot (m + 4) A' ∧
      (∀ w p Ld a cap, DevM w p D Ld → Came w a len cap bs → Off (Ld.F p) a len → DevDoes p Ld 13 #[at0 p, .int .i64 pg, .slice a len cap] (.int .i64 r0) D' w) ∧
      (∀ K w L a cap, DvIn K w d L → BsS K w ⟨a, len, cap⟩ bs → DocDoes K 15 #[d.val L, .int .i64 pg, .slice a len cap] (fun v => .tuple #[v, .int .i64 r0]) A' w) := by
  have hsane := hr.sane g ht (by omega) hn1 hn2
  have hst : d.now.st.length ≤ 10000 := by have h1 : d.abs.now.base.toNat + d.now.st.length ≤ tot := g.nt; omega
  have hdl : d.done.length ≤ 900 := by have := g.len; rw [abs_len] at this; omega
  by_cases hin : 0 ≤ pg ∧ pg < ((n : Nat) : Int)
  · by_cases hl : len = 512
    · subst hl
      obtain ⟨k, rfl⟩ : ∃ k : Nat, pg = (k : Int) := ⟨pg.toNat, by omega⟩
      have hk : k < n := by omega
      refine ⟨0, D.write k bs, wrActs d.abs k bs 4, hr.write k bs hbl (by rw [g.np]; omega), g.write ht k hk bs hbl hx 4 (by omega), fun w p Ld a cap hd hc ho => ?_, fun K w L a cap hd hb => ?_⟩
      · exact write_ok w p D Ld hd n hsane.sp hn2 (fun x hx => (hsane.wr x hx).len) (by rw [hr.wr]; have h1 : (wrOf d.abs.done).length ≤ d.abs.done.length := by rw [← pendA_wr]; exact pendA_le _
                                                                                        have := g.len; omega) hr.pw.hl k hk a cap bs hc ho
      · exact refWrite_ok d L w hd n k g.kp g.np hn2 hk ⟨a, 512, cap⟩ bs hb rfl hst g.mx hdl
    · refine ⟨1, D, d.abs, hr, ⟨g.np, g.kp, g.nb0, g.kb0, g.nt, g.kt, g.valid, g.fold1, g.fold2, g.parts, Nat.le_trans g.len (by omega), g.mx⟩, fun w p Ld a cap hd hc ho => ?_, fun K w L a cap hd hb => ?_⟩
      · refine (write_arg w p D Ld hd n hsane.sp hn2 pg hin a len cap hl).mono ?_
        rintro e w' ⟨rfl, rfl⟩
        exact ⟨rfl, Ld, Turned.same hd (same_below _)⟩
      · refine (refWrite_arg d L w hd n pg g.kp hn2 hin a len cap hl).mono ?_
        rintro e w' ⟨hb', L', rfl, hd'⟩
        exact ⟨hb', d, L', rfl, hd', rfl⟩
  · refine ⟨3, D, d.abs, hr, ⟨g.np, g.kp, g.nb0, g.kb0, g.nt, g.kt, g.valid, g.fold1, g.fold2, g.parts, Nat.le_trans g.len (by omega), g.mx⟩, fun w p Ld a cap hd hc ho => ?_, fun K w L a cap hd hb => ?_⟩
    · refine (write_none w p D Ld hd n hsane.sp hn2 pg hin _).mono ?_
      rintro e w' ⟨rfl, rfl⟩
      exact ⟨rfl, Ld, Turned.same hd (same_below _)⟩
    · refine (refWrite_none d L w hd n pg g.kp hn2 hin _).mono ?_
      rintro e w' ⟨hb', L', rfl, hd'⟩
      exact ⟨hb', d, L', rfl, hd', rfl⟩

theorem append_pair {n tot m : Nat} {D : Ds} {d : Dv} (hr : Rel D d.abs) (g : Good n tot m d.abs) (hm : m ≤ 800) (hn1 : 1 ≤ n) (hn2 : n ≤ 64) (len : Nat) (bs : List Nat) (hbl : bs.length = len) (hx : Bytes bs) (ht : tot + len ≤ 400) :
    ∃ (D' : Ds) (A' : Da), Rel D' A' ∧ Good n (tot + len) (m + 4) A' ∧
      (∀ w p Ld a cap, DevM w p D Ld → Came w a len cap bs → Off (Ld.F p) a len → DevDoes p Ld 16 #[at0 p, .slice a len cap] (.int .i64 0) D' w) ∧
      (∀ K w L a cap, DvIn K w d L → BsS K w ⟨a, len, cap⟩ bs → DocDoes K 17 #[d.val L, .slice a len cap] (fun v => .tuple #[v, .int .i64 0]) A' w) := by
  have hsane := hr.sane g (by omega) (by omega) hn1 hn2
  have hst0 : d.abs.now.base.toNat + d.now.st.length ≤ tot := g.nt
  have hkt := g.kt
  have hdl : d.done.length ≤ 1000 := by have := g.len; rw [abs_len] at this; omega
  have hss : D.ss.length = d.now.st.length := by rw [hr.ss]; rfl
  have hga := g.act ⟨-1, bs, false, 0⟩ (.app rfl rfl (by show bs.length ≤ 400; omega) rfl hx) (by omega)
  have hap : (apOf [(⟨-1, bs, false, 0⟩ : Pt)]).length = len := by
    simp only [apOf, if_neg neg1, if_neg nff, List.append_nil]
    exact hbl
  rw [hap] at hga
  refine ⟨D.append bs, d.abs.act ⟨-1, bs, false, 0⟩, hr.append bs, ⟨hga.np, hga.kp, hga.nb0, hga.kb0, hga.nt, hga.kt, hga.valid, hga.fold1, hga.fold2, hga.parts, Nat.le_trans hga.len (by omega), hga.mx⟩, fun w p Ld a cap hd hc ho => ?_, fun K w L a cap hd hb => ?_⟩
  · exact append_ok w p D Ld hd n hsane.sp hn2 hn1 a len cap bs hc ho hr.pw.hl (by rw [hr.ap]; omega) (by omega)
  · have hpg : d.now.pg.length = 512 * n := g.np
    exact refAppend_any d L ⟨a, len, cap⟩ bs w hd hb (by omega) (by omega) (by omega) g.mx hdl

theorem Good.more {n tot m m' : Nat} {A : Da} (g : Good n tot m A) (h : m ≤ m') : Good n tot m' A := ⟨g.np, g.kp, g.nb0, g.kb0, g.nt, g.kt, g.valid, g.fold1, g.fold2, g.parts, Nat.le_trans g.len h, g.mx⟩

theorem trim_pair {n tot m : Nat} {D : Ds} {d : Dv} (hr : Rel D d.abs) (g : Good n tot m d.abs) (ht : tot ≤ 400) (hm : m ≤ 800) (hn1 : 1 ≤ n) (hn2 : n ≤ 64) (i : Int) (hi : (Lit.int .i64 i).wf = true) :
    ∃ (r0 : Int) (D' : Ds) (A' : Da), Rel D' A' ∧ Good n tot (m + 4) A' ∧
      (∀ w p Ld, DevM w p D Ld → DevDoes p Ld 18 #[at0 p, .int .i64 i] (.int .i64 r0) D' w) ∧
      (∀ K w L, DvIn K w d L → DocDoes K 19 #[d.val L, .int .i64 i] (fun v => .tuple #[v, .int .i64 r0]) A' w) := by
  have hsane := hr.sane g ht (by omega) hn1 hn2
  have hst0 : d.abs.now.base.toNat + d.now.st.length ≤ tot := g.nt
  have hkt := g.kt
  have hdl : d.done.length ≤ 1000 := by have := g.len; rw [abs_len] at this; omega
  have hss : D.ss.length = d.now.st.length := by rw [hr.ss]; rfl
  have hsb : D.sb = d.now.base.toNat := hr.sb
  have hb0 : 0 ≤ d.now.base := g.nb0
  have hbe : d.abs.now.base = d.now.base := rfl
  rw [hbe] at hst0
  have hpg : d.now.pg.length = 512 * n := g.np
  have hus : D.units ≤ 1000000000 := by have h2 := hsane.tl; have h4 : D.ap.length ≤ 400 := by rw [hr.ap]; omega
                                        unfold Ds.units; omega
  by_cases hin : d.now.base ≤ i ∧ i - d.now.base ≤ d.now.st.length
  · obtain ⟨k, rfl⟩ : ∃ k : Nat, i = (k : Int) := ⟨i.toNat, by omega⟩
    have hga := g.act ⟨-1, [], true, (k : Int)⟩ (.cut rfl rfl rfl hin.1 hin.2) ht
    have hap : (apOf [(⟨-1, [], true, (k : Int)⟩ : Pt)]).length = 0 := by simp only [apOf, if_neg neg1, if_pos, List.length_nil]
    rw [hap] at hga
    refine ⟨0, D.trim k, d.abs.act ⟨-1, [], true, (k : Int)⟩, hr.trim g.nb0 k, hga.more (by omega), fun w p Ld hd => ?_, fun K w L hd => ?_⟩
    · exact trim_ok w p D Ld hd n hsane.sp hn2 hn1 k (by omega) (by omega) (by omega) hr.pw.hl hus hsane.tl
    · exact refTrim_ok d L (k : Int) w hd hi hin.1 hin.2 (by omega) (by omega) g.mx hdl
  · refine ⟨1, D, d.abs, hr, g.more (by omega), fun w p Ld hd => ?_, fun K w L hd => ?_⟩
    · refine (trim_bad w p D Ld hd n hsane.sp hn2 hn1 i (by omega) (by omega)).mono ?_
      rintro e w' ⟨rfl, hw'⟩
      exact ⟨rfl, Ld, Turned.same hd (by first | exact hw' | (subst hw'; exact same_below _))⟩
    · refine (refTrim_err d L i w hd hi hb0 (by omega)).mono ?_
      rintro e w' ⟨hb', rfl⟩
      exact ⟨hb', d, L, rfl, hd.keep hb' (Nat.le_refl _), rfl⟩

theorem sync_pair {n tot m : Nat} {D : Ds} {d : Dv} (hr : Rel D d.abs) (g : Good n tot m d.abs) (ht : tot ≤ 400) (hm : m ≤ 800) (hn1 : 1 ≤ n) (hn2 : n ≤ 64) :
    ∃ (D' : Ds) (A' : Da), Rel D' A' ∧ Good n tot (m + 4) A' ∧
      (∀ w p Ld, DevM w p D Ld → DevDoes p Ld 20 #[at0 p] (.tuple #[]) D' w) ∧
      (∀ K w L, DvIn K w d L → DocDoes K 21 #[d.val L] (fun v => v) A' w) := by
  have hsane := hr.sane g ht (by omega) hn1 hn2
  obtain ⟨s1, s2, s3⟩ := hr.sync g ht
  refine ⟨D.sync, d.abs.sync, s2, s3.more (by omega), fun w p Ld hd => sync_any w p D Ld hd n hsane s1, fun K w L hd => ?_⟩
  refine (refSync_any d L w hd).mono ?_
  rintro e w' ⟨hb', L', rfl, hd'⟩
  exact ⟨hb', d.sync, L', rfl, hd', d.sync_abs⟩

theorem arm_pair {n tot m : Nat} {D : Ds} {d : Dv} (hr : Rel D d.abs) (g : Good n tot m d.abs) (ht : tot ≤ 400) (hm : m ≤ 800) (hn1 : 1 ≤ n) (hn2 : n ≤ 64) (i : Int) (hi : i ≤ 9223372036854775807) :
    ∃ (D' : Ds) (A' : Da), Rel D' A' ∧ Good n tot (m + 4) A' ∧
      (∀ w p Ld, DevM w p D Ld → DevDoes p Ld 22 #[at0 p, .int .i64 i] (.tuple #[]) D' w) ∧
      (∀ K w L, DvIn K w d L → DocDoes K 23 #[d.val L, .int .i64 i] (fun v => v) A' w) := by
  have hsane := hr.sane g ht (by omega) hn1 hn2
  refine ⟨D.arm i, d.abs.arm i, hr.arm i hi, (g.arm i hi).more (by omega), fun w p Ld hd => ?_, fun K w L hd => ?_⟩
  · refine (arm_any w p D Ld hd n hsane.sp hn2 hn1 i).mono ?_
    rintro e w' ⟨rfl, hd', hf, _⟩
    exact ⟨rfl, Ld, Turned.cell hd' hf⟩
  · refine (refArm_any d L i w hd).mono ?_
    rintro e w' ⟨hb', L', rfl, hd'⟩
    exact ⟨hb', d.arm i, L', rfl, hd', d.arm_abs i⟩

theorem crash_pair {n tot m : Nat} {D : Ds} {d : Dv} (hr : Rel D d.abs) (g : Good n tot m d.abs) (ht : tot ≤ 400) (hm : m ≤ 800) (hn1 : 1 ≤ n) (hn2 : n ≤ 64) (i : Int) (hi : (Lit.int .i64 i).wf = true) (pl : Nat) (hpl : pl ≤ 1000) (ps : List Bool) :
    ∃ (D' : Ds) (A' : Da), Rel D' A' ∧ Good n tot (m + 4) A' ∧
      (∀ w p Ld pa pc, DevM w p D Ld → Pat w pa pl ps → Off (Ld.F p) pa pl → DevDoes p Ld 24 #[at0 p, .slice pa pl pc, .int .i64 i] (.tuple #[]) D' w) ∧
      (∀ K w L pa pc, DvIn K w d L → Pat w pa pl ps → DocDoes K 25 #[d.val L, .slice pa pl pc, .int .i64 i] (fun v => v) A' w) := by
  have hsane := hr.sane g ht (by omega) hn1 hn2
  have hdl : d.done.length ≤ 1000 := by have := g.len; rw [abs_len] at this; omega
  obtain ⟨s1, s2, s3, s4⟩ := hr.crash g ht (by omega) hn1 hn2 ps i
  refine ⟨_, _, s3, s4.more (by omega), fun w p Ld pa pc hd hp ho => crash_any w p D Ld hd n hsane pa pl pc ps hp ho (by omega) i _ _ rfl s1, fun K w L pa pc hd hp => ?_⟩
  refine (refCrash_any d L w hd pa pl pc ps hp hpl i hi hdl s2).mono ?_
  rintro e w' ⟨hb', L', rfl, hd'⟩
  exact ⟨hb', _, L', rfl, hd', rfl⟩

end Go.Proofs.Ytokdeilcfkobfaa
