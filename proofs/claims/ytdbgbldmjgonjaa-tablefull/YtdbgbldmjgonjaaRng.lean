/-
  A range over a function: what is known of plain statements serves within a round too, where nothing is deferred; what a round keeps. Nothing of the program.
-/
import Derived.RangeFuncNested
import Derived.RangeFuncBound
import Derived.RangeFuncCalls
import Derived.RangeFuncLeaves
import Derived.Shelf.Abstract
import Derived.Shelf.RegionOpen
import Derived.OwnWalkIn
import Derived.TacticsInMore
import Derived.LoopNIn
import Derived.LoopIn
import Derived.RangeFuncBox
import Derived.Test.YtdbgbldmjgonjaaSlB
namespace Go.Proofs.Ytdbgbldmjgonjaa
open Go.RowKit

/-- Nothing is deferred by these operations. -/
def noDef (ops : Array Oper) : Bool := ops.toList.all fun o => match o.op with | .defer _ => false | _ => true

theorem noDef_at {ops : Array Oper} (h : noDef ops = true) {i : Nat} {o : Oper} (ho : ops[i]? = some o) : ∀ c, o.op ≠ .defer c := by
  intro c hc
  have hm : o ∈ ops.toList := Array.mem_toList_iff.2 (Array.mem_of_getElem? ho)
  have := List.all_eq_true.1 h o hm
  rw [hc] at this
  cases this

theorem rows_round {P : Program} {row : String} {args : Array Value} {w : World} {R : Value → World → Prop} {l n : Nat} (h : Rows P row args w R) : RowsIn (Fence.wide.inRound l) n P row args w R :=
  fun c cs _ => let ⟨v, w', r, s⟩ := h c cs; ⟨v, w', r, stepsIn_wide.2 s⟩

theorem calls_round {P : Program} {f : FuncId} {args : Array Value} {w : World} {R : Ending → World → Prop} {l n : Nat} (h : Calls P f args w R) : CallsIn (Fence.wide.inRound l) n P f args w R := CallsIn.inRound l (callsIn_wide.2 h)

theorem ops_round {P : Program} {ops : Array Oper} {Q : Exit → Act → World → Prop} {l n : Nat} (hd : noDef ops = true) (hq : ∀ a w, ¬ Q .outgrown a w) : ∀ (L : List Nat) (a : Act) (w : World), wpOps P ops Q L a w → wpOpsIn (Fence.wide.inRound l) n P ops Q L a w
  | [], _, _, h => h
  | i :: rest, a, w, h => by
    have hL : ¬ LetsOut Q := fun ⟨a, w, h⟩ => hq a w h
    unfold wpOps at h
    unfold wpOpsIn
    cases ho : ops[i]? with
    | none =>
      rw [ho] at h
      exact ops_round hd hq rest a w h
    | some o =>
      rw [ho] at h
      simp only at h ⊢
      split at h
      · rename_i hw
        rw [if_pos hw]
        rcases h with h | ⟨_, h⟩
        · refine ⟨fun _ _ => trivial, ?_⟩
          unfold Oper.wp at h
          rw [Oper.semAt_eq _ _ o (noDef_at hd ho)]
          revert h
          cases (execOp a.eval o).run P w with
          | ok x w' =>
            cases x with
            | value v => exact fun h => ops_round hd hq rest _ _ h
            | skip => exact fun h => ops_round hd hq rest _ _ h
            | defer d => exact fun h => ops_round hd hq rest _ _ h
            | enter f args =>
              intro h
              refine ⟨(fun e => by cases e), (calls_round h).mono ?_⟩
              intro e w'' he
              cases e with
              | returned v => exact ops_round hd hq rest _ _ he
              | panicked chain => exact he
              | outgrown => exact he
            | row r args =>
              intro h
              exact ⟨(fun e => by cases e), (rows_round h).mono fun v w'' hv => ops_round hd hq rest _ _ hv⟩
            | _ => exact fun h => h.elim
          | halt x w' =>
            cases x with
            | panic v => exact fun h => h
            | _ => exact fun h => h.elim
        · exact absurd h hL
      · rename_i hw
        rw [if_neg hw]
        exact ⟨fun _ _ => trivial, ops_round hd hq rest _ _ h⟩

theorem list_round {P : Program} {ops : Array Oper} {Q : Exit → Act → World → Prop} {a : Act} {w : World} {l n id : Nat} (hd : noDef ops = true) (hq : ∀ a w, ¬ Q .outgrown a w) (h : wpList P ops Q ops.toList a w) : (Code.region id ops false).wpIn (Fence.wide.inRound l) n P Q a w :=
  wpIn_region (ops_round hd hq _ a w (by rw [List.range_eq_range', ← Array.length_toList, wpOps_eq_wpList ops.toList 0 (by simp)]; exact h))

theorem lit_round {P : Program} {L : List Oper} {Q : Exit → Act → World → Prop} {a : Act} {w : World} {l n id : Nat} (hd : noDef L.toArray = true) (hq : ∀ a w, ¬ Q .outgrown a w) (h : wpList P L.toArray Q L a w) : (Code.region id L.toArray false).wpIn (Fence.wide.inRound l) n P Q a w :=
  list_round hd hq (by simpa using h)

theorem draw_round {P : Program} {ops : Array Oper} {S : World → Prop} {Q : Exit → Act → World → Prop} {a : Act} {w : World} {l n id : Nat} (hm : P.follows .mixedOrders = true) (hd : noDef ops = true) (hq : ∀ a w, ¬ Q .outgrown a w)
    (h : wpAnyH P .any ops (NoPanic Q) S ops.size (Array.replicate ops.size false) a w.drew) : (Code.region id ops true).wpIn (Fence.wide.inRound l) n P Q a w := by
  refine wpIn_mono (Q := NoPanic Q) (wpIn_region_draw fun t => ?_) NoPanic.imp
  simp only [Region.schedule, hm, Bool.true_or, if_true]
  exact ops_round (Q := NoPanic Q) hd (fun a w hh => hq a w hh) _ a _ (wpAny_sound ops.size t _ a _ (wpAny_of_held _ _ _ _ h))

/-- A plain contract's drawn statement, within a round. -/
theorem Pl.H.startR {P : Program} {ops : Array Oper} {S : World → Prop} {Q : Exit → Act → World → Prop} {n m : Nat} {f : Nat → Value} {w : World} {l id : Nat} {A : Act} (hm : P.follows .mixedOrders = true) (hd : noDef ops = true) (hq : ∀ a w, ¬ Q .outgrown a w) (hA : Pl.At n A f) (h : Pl.H P ops S Q n ops.size (Array.replicate ops.size false) f w.drew) :
    (Code.region id ops true).wpIn (Fence.wide.inRound l) m P Q A w := draw_round hm hd hq (h A hA)

/-- Where the region stands in a function, within the body of a range over a function too. -/
def Pl.findR (id : Nat) : Code → Array Oper
  | .region k ops _ => if k = id then ops else #[]
  | .seq a b => findR id a ++ findR id b
  | .cond _ a b => findR id a ++ findR id b
  | .block _ a => findR id a
  | .loop a => findR id a
  | .scope a => findR id a
  | .rangeFunc _ _ a b => findR id a ++ findR id b
  | _ => #[]

theorem Pl.region_isR {P : Program} {F : Fence} {m : Nat} {Q : Exit → Act → World → Prop} {A : Act} {w : World} {id : Nat} {l ops : Array Oper} {b : Bool} (h : l = ops) (hh : (Code.region id ops b).wpIn F m P Q A w) : (Code.region id l b).wpIn F m P Q A w := by
  rw [h]
  exact hh

/-- What a frame of blocks of cells keeps, a round keeps. -/
theorem Frm.keeps {F : Nat → Prop} {w w' : World} (h : Frm F w w') (hF : ∀ k, k < w.heap.size → F k → ∃ C t fr, w.heap[k]? = some (Obj.cells C t fr)) : KeepsOthers w w' := by
  refine ⟨h.size, fun k o hk ho => ?_⟩
  have hlt := (Array.getElem?_eq_some_iff.1 hk).1
  refine (h.block k hlt (fun hf => ?_)).trans hk
  obtain ⟨C, t, fr, hc⟩ := hF k hlt hf
  rw [hk] at hc
  cases hc
  cases ho

/-- The iterator's own box stays. -/
def KeptBox (b : Nat) (w w' : World) : Prop := w'.heap[b]? = w.heap[b]?
theorem keptBox_t {b : Nat} {x y z : World} (h : KeptBox b x y) (k : KeptBox b y z) : KeptBox b x z := k.trans h
theorem keptBox_b {b : Nat} {w : World} (hb : b < w.heap.size) (W : World) (l : Nat) (o o' : Obj) (hl : w.heap.size ≤ l) (_ : W.heap[l]? = some o) (_ : o.isCells = false) (_ : o.isWalk = false) : KeptBox b W (W.putObj l o') :=
  World.putObj_heap_other (fun e => by omega)

/-- What is said of blocks of cells stays where nothing but other things turn. -/
theorem grown_cells {W W' : World} {row : Option Nat} (hg : W.grownBy W' row) (hr : ∀ r, row = some r → ∃ o : Obj, W.heap[r]? = some o ∧ o.isCells = false) {k : Nat} {C : Array Value} {t : TypeId} {fr : Nat × Nat} (hk : W.heap[k]? = some (Obj.cells C t fr)) : W'.heap[k]? = W.heap[k]? := by
  refine hg.block k (Array.getElem?_eq_some_iff.1 hk).1 (fun e => ?_)
  obtain ⟨o, ho, hc⟩ := hr k e.symm
  rw [hk] at ho
  cases ho
  cases hc

theorem Below.grownB {n : Nat} {w W W' : World} {row : Option Nat} (h : Below n w W) (hg : W.grownBy W' row) (hr : ∀ r, row = some r → n ≤ r) (hn : n ≤ W.heap.size) : Below n w W' :=
  h.trans ((Below.refl n W).grown hg hn hr)

end Go.Proofs.Ytdbgbldmjgonjaa
