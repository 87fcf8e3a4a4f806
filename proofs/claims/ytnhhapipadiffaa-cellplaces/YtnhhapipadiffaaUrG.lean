/-
  An undoing is read back: awake; and the law of which undoings are alike: its walk.
-/
import Derived.Test.YtnhhapipadiffaaUrF
namespace Go.Proofs.Ytnhhapipadiffaa
open Go.RowKit

/-- Bytes of an undoing that may be, told. -/
structure Enc (w : World) (a : Option Addr) (n cap : Nat) (u : Un) : Prop where
  came : Came w a n cap u.bytes
  len : n = u.bytes.length
  few : n ≤ 66

theorem Enc.keep {w w' : World} {a : Option Addr} {n cap : Nat} {u : Un} (h : Enc w a n cap u) (hb : Below w.heap.size w w') : Enc w' a n cap u := ⟨h.came.keep hb (Nat.le_refl _), h.len, h.few⟩

theorem encodeU_yes (u : Un) (a : Option Addr) (len cap : Nat) (w : World) (h : Fs w a len cap u.row.xs) (hf : u.fits) (hm : u.may = true) :
    Calls Try.prog 32 #[u.val (.slice a len cap)] w fun e w' => ∃ (x : Option Addr) (n c : Nat), e = .returned (.tuple #[.slice x n c, .int .i64 0]) ∧ Below w.heap.size w w' ∧ Enc w' x n c u := by
  refine (encodeU_any u a len cap w h hf).mono ?_
  rintro e w' ⟨v, rfl, hb, ho, _⟩
  have h66 := Un.bytes_66 hm
  obtain ⟨x, c, rfl, hc⟩ := (ho hm).cameN (Un.bytes_bytes hm) rfl (by omega)
  rw [hm]
  exact ⟨x, _, c, rfl, hb, hc, rfl, h66⟩

theorem encodeU_no (u : Un) (a : Option Addr) (len cap : Nat) (w : World) (h : Fs w a len cap u.row.xs) (hf : u.fits) (hm : u.may = false) :
    Calls Try.prog 32 #[u.val (.slice a len cap)] w fun e w' => e = .returned (.tuple #[.slice none 0 0, .int .i64 1]) ∧ Below w.heap.size w w' := by
  refine (encodeU_any u a len cap w h hf).mono ?_
  rintro e w' ⟨v, rfl, hb, _, hn⟩
  rw [hm, hn hm]
  exact ⟨rfl, hb⟩

theorem decodeU_yes (u : Un) (hf : u.fits) (hm : u.may = true) (x : Option Addr) (n c : Nat) (w : World) (h : Enc w x n c u) :
    Calls Try.prog 36 #[.slice x n c] w fun e w' => ∃ (a : Option Addr) (len cap : Nat), e = .returned (.tuple #[u.val (.slice a len cap), .int .i64 0]) ∧ Below w.heap.size w w' ∧ Fs w' a len cap u.row.xs := by
  refine (decodeU_any x n c u.bytes w h.came (by have := h.few; omega)).mono ?_
  rintro e w' ⟨hb, _, hy⟩
  obtain ⟨_, a, len, cap, rfl, hfs, _⟩ := hy u (dec_undo hm hf)
  exact ⟨a, len, cap, rfl, hb, hfs⟩

/-- A box for an undoing. -/
theorem box_un (w : World) (u : Un) (a : Option Addr) (len cap : Nat) : ∃ W, (Instr.storeAt 30 (.pointer (some ⟨w.heap.size, 0, none⟩)) (u.val (.slice a len cap))).run Try.prog (w.alloc (.cells #[.int .i64 0, .int .i64 0, .int .i64 0, .int .i64 0, .int .i64 0, .int .i64 0, .float .f64 0, .bool false, .slice none 0 0, .int .i64 0, .int .i64 0, .int .i64 0] 30)) = .ok () W ∧ UnBlk W w.heap.size u (.slice a len cap) ∧ Below w.heap.size w W :=
  ⟨setUn (w.alloc (.cells #[.int .i64 0, .int .i64 0, .int .i64 0, .int .i64 0, .int .i64 0, .int .i64 0, .float .f64 0, .bool false, .slice none 0 0, .int .i64 0, .int .i64 0, .int .i64 0] 30)) w.heap.size u (.slice a len cap), st_un _ _ zeroU (.slice none 0 0) (unBlk_new w zeroU (.slice none 0 0)) u a len cap, setUn_blk (unBlk_new w zeroU (.slice none 0 0)) u _, setUn_below (below_alloc w _) (Nat.le_refl _) u _⟩

theorem unSelf_any (u : Un) (a : Option Addr) (len cap : Nat) (b : Option Addr) (len' cap' : Nat) (w : World) (h : Fs w a len cap u.row.xs) (h' : Fs w b len' cap' u.row.xs) :
    Calls Try.prog 31 #[u.val (.slice a len cap), u.val (.slice b len' cap')] w fun e w' => e = .returned (.bool true) ∧ Below w.heap.size w w' := by
  have := unSame_any u u a len cap b len' cap' w h h'
  rw [Un.same_self] at this
  exact this

theorem refUnSelf_any (u : Un) (a : Option Addr) (len cap : Nat) (b : Option Addr) (len' cap' : Nat) (w : World) (h : Fs w a len cap u.row.xs) (h' : Fs w b len' cap' u.row.xs) :
    Calls Try.prog 26 #[u.val (.slice a len cap), u.val (.slice b len' cap')] w fun e w' => e = .returned (.bool true) ∧ Below w.heap.size w w' := by
  have := refUnSame_any u u a len cap b len' cap' w h h'
  rw [Un.same_self] at this
  exact this

end Go.Proofs.Ytnhhapipadiffaa
