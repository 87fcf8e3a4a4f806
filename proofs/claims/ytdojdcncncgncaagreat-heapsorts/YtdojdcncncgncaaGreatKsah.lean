/-
  Lemmas.
-/
import Derived.Test.YtdojdcncncgncaaGreatKsaf
import Derived.Test.YtdojdcncncgncaaGreatKsag
import Derived.Defers
import Derived.Recover
namespace Go.Proofs.YtdojdcncncgncaaGreat
open Go.RowKit
set_option linter.unusedVariables false
set_option maxRecDepth 100000
set_option maxHeartbeats 4000000
variable {w w':World}{a:Option Addr}{len cap b c d base:Nat}{v:Value}{xs:List Nat}{n e:Int}{A:Act}
def Za2 (xs : List Nat) (ks : List Int) : List It × Nat × Int :=
  if ks.all (fun k => decide (1 ≤ k) && decide (k ≤ 5)) then
    match tks xs ks [] 0 with
    | none => ([], 0, 4)
    | some (l, q) => (l, q, 0)
  else ([], 0, 1)
def ZaK (xs : List Nat) (ks : List Int) (w : World) (e : Ending) (w' : World) : Prop :=
  ∃ v, e = .returned (.tuple #[v, .int .i64 ((Za2 xs ks).2.1 : Nat), .int .i64 (Za2 xs ks).2.2]) ∧ Below w.heap.size w w' ∧ OwnsI w' w.heap.size v (Za2 xs ks).1 ∧ ∀ i ∈ (Za2 xs ks).1, i.fits
theorem ZkD {ks : List Int} {j : Nat} (hj : j < ks.length) (h : ¬ (1 ≤ ks.getD j 0 ∧ ks.getD j 0 ≤ 5)) : Za2 xs ks = ([], 0, 1) := by
 have : ks.all (fun k => decide (1 ≤ k) && decide (k ≤ 5)) = false := by
  rw [List.all_eq_false]
  refine ⟨ks[j], List.getElem_mem hj, ?_⟩
  simp [List.getD, hj] at h
  simp
  omega
 unfold Za2
 rw [this]
 rfl
theorem ZbN {ks : List Int} (h : ∀ t, t < ks.length → 1 ≤ ks.getD t 0 ∧ ks.getD t 0 ≤ 5) : Za2 xs ks = match tks xs ks [] 0 with
    | none => ([], 0, 4)
    | some (l, q) => (l, q, 0) := by
  have : ks.all (fun k => decide (1 ≤ k) && decide (k ≤ 5)) = true := by
   rw [List.all_eq_true]
   intro k hk
   obtain ⟨t, ht, rfl⟩ := List.getElem_of_mem hk
   have := h t ht
   simp [List.getD, ht] at this
   simp [this]
  unfold Za2
  rw [this]
  rfl
theorem Zgf (b c d:Nat)(w:World)(v4 v5 v6:Value)(h4:w.cell? ⟨b,0,none⟩=some v4)(f4:w.frozen? ⟨b,0,none⟩=false)(h5:w.cell? ⟨c,0,none⟩=some v5)(f5:w.frozen? ⟨c,0,none⟩=false)(h6:w.cell? ⟨d,0,none⟩=some v6)(f6:w.frozen? ⟨d,0,none⟩=false)(hcb:c≠b)(hdb:d≠b)(hdc:d≠c) :
    CallsD Tryz.prog 176 #[.pointer (some ⟨b,0,none⟩),.pointer (some ⟨c,0,none⟩),.pointer (some ⟨d,0,none⟩)] (.panicking thrown) w fun e u' w' =>
     e=.returned (.tuple #[])∧u'=.panicking [{ v:=.iface 40 (.int .i64 4),recovered:=true }]∧w'=((w.setCell ⟨b,0,none⟩ (.slice none 0 0)).setCell ⟨c,0,none⟩ (.int .i64 0)).setCell ⟨d,0,none⟩ (.int .i64 4):=by
 refine callsD_of_wpS Tryz.func176 rfl fun c₀ cs hu=>?_
 apply wpS_seq
 apply wpS_region
 simp [wpOpsS,go_sem,recoverD,hu,thrown,Tryz.ntmps176,Exit.thenS]
 refine wpS_cond (t:=true) (by simp [Act.eval,Array.replicate]) ?_
 simp only [if_true]
 apply wpS_region
 simp [wpOpsS,go_sem,h4,f4,h5,f5,h6,f6,bodyPostS,results,Tryz.results176]
theorem Ziy (b c d : Nat) (w : World) :
    CallsD Tryz.prog 176 #[.pointer (some ⟨b, 0, none⟩), .pointer (some ⟨c, 0, none⟩), .pointer (some ⟨d, 0, none⟩)] .returning w fun e u' w' => e = .returned (.tuple #[]) ∧ u' = .returning ∧ w' = w := by
  refine callsD_of_wpS Tryz.func176 rfl fun c₀ cs hu => ?_
  apply wpS_seq
  apply wpS_region
  simp [wpOpsS, go_sem, recoverD, hu, Tryz.ntmps176, Exit.thenS]
  refine wpS_cond (t := false) (by simp [Act.eval, Array.replicate]) ?_
  simp only [Bool.false_eq_true, if_false]
  refine wpS_of_wp (wp_skip ?_)
  cases c₀
  simp_all [bodyPostS, results, Tryz.results176]
structure Res (w : World) (b c d : Nat) (v : Value) (n e : Int) : Prop where
  h4 : w.heap[b]? = some (Obj.cells #[v] 155 (0, 0))
  h5 : w.heap[c]? = some (Obj.cells #[.int .i64 n] 3 (0, 0))
  h6 : w.heap[d]? = some (Obj.cells #[.int .i64 e] 40 (0, 0))
section
variable {w : World} {b c d : Nat} {v : Value} {n e : Int}
theorem Res.c4 (h : Res w b c d v n e) : w.cell? ⟨b, 0, none⟩ = some v := by have := h.h4; simp [World.cell?, this]
theorem Res.c5 (h : Res w b c d v n e) : w.cell? ⟨c, 0, none⟩ = some (.int .i64 n) := by have := h.h5; simp [World.cell?, this]
theorem Res.c6 (h : Res w b c d v n e) : w.cell? ⟨d, 0, none⟩ = some (.int .i64 e) := by have := h.h6; simp [World.cell?, this]
theorem Res.f4 (h : Res w b c d v n e) : w.frozen? ⟨b, 0, none⟩ = false := frozen_of_row w b _ _ 155 h.h4
theorem Res.f5 (h : Res w b c d v n e) : w.frozen? ⟨c, 0, none⟩ = false := frozen_of_row w c _ _ 3 h.h5
theorem Res.f6 (h : Res w b c d v n e) : w.frozen? ⟨d, 0, none⟩ = false := frozen_of_row w d _ _ 40 h.h6
theorem Res.bc (h : Res w b c d v n e) : b ≠ c := by
 intro x; have h4 := h.h4; have h5 := h.h5; rw [x, h5] at h4; simp at h4
theorem Res.bd (h : Res w b c d v n e) : b ≠ d := by
 intro x; have h4 := h.h4; have h5 := h.h6; rw [x, h5] at h4; simp at h4
theorem Res.cd (h : Res w b c d v n e) : c ≠ d := by
 intro x; have h4 := h.h5; have h5 := h.h6; rw [x, h5] at h4; simp at h4
theorem Res.set4 (h : Res w b c d v n e) (v' : Value) : Res (w.setCell ⟨b, 0, none⟩ v') b c d v' n e := by
 refine ⟨?_, (Below.heap_setCell w ⟨b, 0, none⟩ v' c h.bc.symm).trans h.h5, (Below.heap_setCell w ⟨b, 0, none⟩ v' d h.bd.symm).trans h.h6⟩
 have := heap_setCell_same w b 0 _ 155 v' h.h4
 simpa using this
theorem Res.set5 (h : Res w b c d v n e) (n' : Int) : Res (w.setCell ⟨c, 0, none⟩ (.int .i64 n')) b c d v n' e := by
 refine ⟨(Below.heap_setCell w ⟨c, 0, none⟩ _ b h.bc).trans h.h4, ?_, (Below.heap_setCell w ⟨c, 0, none⟩ _ d h.cd.symm).trans h.h6⟩
 have := heap_setCell_same w c 0 _ 3 (.int .i64 n') h.h5
 simpa using this
theorem Res.set6 (h : Res w b c d v n e) (e' : Int) : Res (w.setCell ⟨d, 0, none⟩ (.int .i64 e')) b c d v n e' := by
 refine ⟨(Below.heap_setCell w ⟨d, 0, none⟩ _ b h.bd).trans h.h4, (Below.heap_setCell w ⟨d, 0, none⟩ _ c h.cd).trans h.h5, ?_⟩
 have := heap_setCell_same w d 0 _ 40 (.int .i64 e') h.h6
 simpa using this
theorem Res.set (h : Res w b c d v n e) (v' : Value) (n' e' : Int) : Res (((w.setCell ⟨b, 0, none⟩ v').setCell ⟨c, 0, none⟩ (.int .i64 n')).setCell ⟨d, 0, none⟩ (.int .i64 e')) b c d v' n' e' :=
  ((h.set4 v').set5 n').set6 e'
theorem Res.results (h : Res w b c d v n e) (tmps : Array Value) (t4 : tmps.getD 4 undef = .pointer (some ⟨b, 0, none⟩)) (t5 : tmps.getD 5 undef = .pointer (some ⟨c, 0, none⟩)) (t6 : tmps.getD 6 undef = .pointer (some ⟨d, 0, none⟩))
    {a : Option Addr} {len cap : Nat} (hv : v = .slice a len cap) : (Go.results Tryz.f159 tmps).run Tryz.prog w = .ok (.tuple #[v, .int .i64 n, .int .i64 e]) w := by
  have c4 := h.c4
  have c5 := h.c5
  have c6 := h.c6
  have t4' : tmps[4]?.getD undef = .pointer (some ⟨b, 0, none⟩) := by simpa using t4
  have t5' : tmps[5]?.getD undef = .pointer (some ⟨c, 0, none⟩) := by simpa using t5
  have t6' : tmps[6]?.getD undef = .pointer (some ⟨d, 0, none⟩) := by simpa using t6
  subst hv
  simp [Go.results, Tryz.results159, t4', t5', t6', go_sem, c4, c5, c6]
theorem ZdS {B : Nat} {w0 : World} (hb : Below B w0 w) (hB : B ≤ b) (hc : B ≤ c) (hd : B ≤ d) (v' : Value) (n' e' : Int) : Below B w0 (((w.setCell ⟨b, 0, none⟩ v').setCell ⟨c, 0, none⟩ (.int .i64 n')).setCell ⟨d, 0, none⟩ (.int .i64 e')) :=
  ((hb.setCell (p := ⟨b, 0, none⟩) hB v').setCell (p := ⟨c, 0, none⟩) hc _).setCell (p := ⟨d, 0, none⟩) hd _
end
theorem Zns (w : World) : Res (((w.alloc (.cells #[.slice none 0 0] 155)).alloc (.cells #[.int .i64 0] 3)).alloc (.cells #[.int .i64 0] 40)) w.heap.size (w.heap.size + 1) (w.heap.size + 1 + 1) (.slice none 0 0) 0 0 ∧
    Below w.heap.size w (((w.alloc (.cells #[.slice none 0 0] 155)).alloc (.cells #[.int .i64 0] 3)).alloc (.cells #[.int .i64 0] 40)) := by
  have b1 := Zaa w (.cells #[.slice none 0 0] 155)
  have b2 := Zaa (w.alloc (.cells #[.slice none 0 0] 155)) (.cells #[.int .i64 0] 3)
  have b3 := Zaa ((w.alloc (.cells #[.slice none 0 0] 155)).alloc (.cells #[.int .i64 0] 3)) (.cells #[.int .i64 0] 40)
  have n1 := heap_alloc_new w (.cells #[.slice none 0 0] 155)
  have n2 := heap_alloc_new (w.alloc (.cells #[.slice none 0 0] 155)) (.cells #[.int .i64 0] 3)
  have n3 := heap_alloc_new ((w.alloc (.cells #[.slice none 0 0] 155)).alloc (.cells #[.int .i64 0] 3)) (.cells #[.int .i64 0] 40)
  have s1 : (w.alloc (.cells #[.slice none 0 0] 155)).heap.size = w.heap.size + 1 := by simp
  have s2 : ((w.alloc (.cells #[.slice none 0 0] 155)).alloc (.cells #[.int .i64 0] 3)).heap.size = w.heap.size + 1 + 1 := by simp
  rw [s1] at n2 b2
  rw [s2] at n3 b3
  refine ⟨⟨?_, ?_, n3⟩, (b1.trans (b2.mono (by omega))).trans (b3.mono (by omega))⟩
  · rw [b3.block _ (by omega), b2.block _ (by omega)]
    exact n1
  · rw [b3.block _ (by omega)]
    exact n2
theorem Res.only {w w' : World} {b c d p : Nat} {v : Value} {n e : Int} (h : Res w b c d v n e) (ho : Only p w w') (hb : b ≠ p) (hc : c ≠ p) (hd : d ≠ p) : Res w' b c d v n e :=
  ⟨(ho.block b (Array.getElem?_eq_some_iff.1 h.h4).1 hb).trans h.h4, (ho.block c (Array.getElem?_eq_some_iff.1 h.h5).1 hc).trans h.h5, (ho.block d (Array.getElem?_eq_some_iff.1 h.h6).1 hd).trans h.h6⟩
theorem Res.stay {w w' : World} {b c d : Nat} {v : Value} {n e : Int} (h : Res w b c d v n e) (hs : Zeg w w') : Res w' b c d v n e :=
  ⟨(hs b _ _ _ h.h4 (by decide)).trans h.h4, (hs c _ _ _ h.h5 (by decide)).trans h.h5, (hs d _ _ _ h.h6 (by decide)).trans h.h6⟩
theorem RdX.re {p:Nat}{q q':Nat}(h:RdX w p a len cap q xs)(hab:0<len→∀bb oo,a=some ⟨bb,oo,none⟩→bb<base)(hb:Below base w w')(hr:Rd w' p a len cap q')(hq:q'≤len):RdX w' p a len cap q' xs:=by
 refine⟨hr,⟨h.bs.1,h.bs.2.1,fun i hi=>?_⟩,h.ne,h.cap,hq,h.big⟩
 obtain⟨bb,off,ha,hc⟩:=h.bs.2.2 i hi
 refine⟨bb,off,ha,?_⟩
 rw [hb.cell (p:=⟨bb,off+i,none⟩) (hab (by omega) bb off ha)]
 exact hc
theorem OwnsI.setOther {l:List It}(h:OwnsI w base v l){g:Nat}{C:Array Value}{t:TypeId}{fr:Nat × Nat}(hp:w.heap[g]? = some (Obj.cells C t fr))(ht:t≠158)(o:Nat)(u:Value):OwnsI (w.setCell ⟨g,o,none⟩ u) base v l:=by
 refine⟨h.1,?_⟩
 rcases h.2 with hn | ⟨g',cap,cur,hv,hbg,hg,rest⟩
 · exact .inl hn
 · refine .inr ⟨g',cap,cur,hv,hbg,?_,rest⟩
   rw [Below.heap_setCell w ⟨g,o,none⟩ u g' ?_]
   · exact hg
   · intro e
     have e':g'=g:=e
     subst e'
     rw [hg] at hp
     simp only [Option.some.injEq,Obj.cells.injEq] at hp
     exact ht hp.2.1.symm
theorem Zcu (i : It) (w : World) : (Instr.buildSlice 155 1 #[(0, i.val)]).run Tryz.prog w = .ok (.slice (some ⟨w.heap.size, 0, none⟩) 1 1) (w.alloc (.cells #[.int .i64 i.kind, .int .i64 i.n, .float .f64 i.x, .string i.s] 158)) := by
  simp [go_sem, It.val]
theorem ZaV (b : Nat) (v : Value) (w : World) (hv : v = .slice a len cap) (h : w.cell? ⟨b, 0, none⟩ = some v) : (Instr.loadAt 155 (.pointer (some ⟨b, 0, none⟩))).run Tryz.prog w = .ok v w := by
 subst hv
 simp [go_sem, h]
theorem Zbt (b : Nat) (v u : Value) (w : World) (hv : v = .slice a len cap) (h : w.cell? ⟨b, 0, none⟩ = some u) (hf : w.frozen? ⟨b, 0, none⟩ = false) : (Instr.storeAt 155 (.pointer (some ⟨b, 0, none⟩)) v).run Tryz.prog w = .ok () (w.setCell ⟨b, 0, none⟩ v) := by
 subst hv
 simp [go_sem, h, hf]
theorem Zlb (b : Nat) (n : Int) (u : Value) (w : World) (h : w.cell? ⟨b, 0, none⟩ = some u) (hf : w.frozen? ⟨b, 0, none⟩ = false) : (Instr.storeAt 3 (.pointer (some ⟨b, 0, none⟩)) (.int .i64 n)).run Tryz.prog w = .ok () (w.setCell ⟨b, 0, none⟩ (.int .i64 n)) := by
  simp [go_sem, h, hf]
theorem Zh6 (b : Nat) (n : Int) (u : Value) (w : World) (h : w.cell? ⟨b, 0, none⟩ = some u) (hf : w.frozen? ⟨b, 0, none⟩ = false) : (Instr.storeAt 40 (.pointer (some ⟨b, 0, none⟩)) (.int .i64 n)).run Tryz.prog w = .ok () (w.setCell ⟨b, 0, none⟩ (.int .i64 n)) := by
  simp [go_sem, h, hf]
theorem Zb7 : ∀ args w, (callFunc 177 args).run Tryz.prog w = .ok (.enter 177 args) w := Pl.enters Tryz.func177 (by kernel_rfl) (by kernel_rfl)
namespace Pd
section
variable {P : Program} {ops : Array Oper} {ds : List Deferred} {n : Nat} {f : Nat → Value} {w : World}
theorem load1 (i : Nat) (t : TypeId) (x : Operand) (v : Value) (h : (op ops i).op = .load t x) (hx : inB n x = true) (hv : (Instr.loadAt t (ev f x)).run P w = .ok v w) :
    ∀ A, At ds n A f → (execOp A.eval (op ops i)).run P w = .ok (.value v) w := by
  intro A hA
  exact load (S := fun w' => w' = w) i t x v h hx (fun w' e => by rw [e]; exact hv) A hA w rfl
theorem move1 (i : Nat) (x : Operand) (h : (op ops i).op = .move x) (hx : inB n x = true) : ∀ A, At ds n A f → (execOp A.eval (op ops i)).run P w = .ok (.value (ev f x)) w :=
  fun A hA => move (S := fun _ => True) i x h hx A hA w trivial
end
end Pd
theorem Zls {w : World} {b : Nat} {v : Value} {t : TypeId} (h : w.heap[b]? = some (Obj.cells #[v] t (0, 0))) : w.cell? ⟨b, 0, none⟩ = some v := by simp [World.cell?, h]
theorem Pd.upd_comm (f : Nat → Value) (d e : Nat) (v u : Value) (h : d ≠ e) : Pd.upd (Pd.upd f d v) e u = Pd.upd (Pd.upd f e u) d v := by
 funext x
 simp only [Pd.upd]
 by_cases h1 : x = e
 · have h2 : ¬ x = d := fun k => h (k.symm.trans h1)
   simp [h1, h.symm]
 · simp [h1]
theorem Zn2 (w:World)(base b c d p:Nat)(v:Value)(l:List It)(a:Option Addr)(len cap q:Nat)(xs:List Nat)(k:Int)(hk:1≤k∧k≤5)(hres:Res w b c d v 0 0)(hrd:RdX w p a len cap q xs)(hown:OwnsI w base v l)(hfl:∀i∈l,i.fits)(hbase:base≤w.heap.size)(hbb:base≤b)(hbc:base≤c)(hbd:base≤d)(hbp:base≤p)(hpb:b≠p)(hpc:c≠p)(hpd:d≠p)(hab:0<len→∀bb oo,a=some ⟨bb,oo,none⟩→bb<base)(hll:l.length≤1000)(hlen:len≤100000)(ds:List Deferred)(i:It)(m:Nat)(htk:tk (xs.drop q) k=some (i,m))(hfi:i.fits)
    {Q:Exit→Act→World→Prop}(hsz:A.tmps.size=43)(hdf:A.defers=ds)(s4:A.tmps.getD 4 undef=.pointer (some ⟨b,0,none⟩))(s5:A.tmps.getD 5 undef=.pointer (some ⟨c,0,none⟩))(s6:A.tmps.getD 6 undef=.pointer (some ⟨d,0,none⟩))(s9:A.tmps.getD 9 undef=.pointer (some ⟨p,0,none⟩))(s11:A.tmps.getD 11 undef=.int .i64 k)
    (hend:∀(u:Nat→Value) v' w',Res w' b c d v' 0 0→RdX w' p a len cap (q+m) xs→OwnsI w' base v' (l ++ [i])→(∀x∈l ++ [i],x.fits)→Below base w w'→Q .normal ((((((A).put (some 34) (u 34)).put (some 35) (u 35)).put (some 36) (u 36)).put (some 37) (u 37)).put (some 38) v') w') :
    (Code.region 12 (Pl.find 12 ((Tryz.f159.body).getD .skip)) true).wp Tryz.prog Q A w:=by
  have hq0:=(show OwnsI w.drew base v l from hown)
  have hA:=Pd.At.same (v:=.int .i64 k) (d:=11) (Pd.At.same (v:=.pointer (some ⟨p,0,none⟩)) (d:=9) (Pd.At.same (v:=.pointer (some ⟨d,0,none⟩)) (d:=6) (Pd.At.same (v:=.pointer (some ⟨c,0,none⟩)) (d:=5) (Pd.At.same (v:=.pointer (some ⟨b,0,none⟩)) (d:=4) (Pd.At.here hsz hdf) s4) s5) s6) s9) s11
  obtain⟨va,vl,vc,hv⟩:∃a len cap,v=.slice a len cap:=by
   obtain⟨a',c',e,_⟩:=hown.is hfl
   exact⟨a',_,c',e⟩
  have hresD:Res w.drew b c d v 0 0:=⟨hres.h4,hres.h5,hres.h6⟩
  have hrdD:RdX w.drew p a len cap q xs:=⟨hrd.rd,hrd.bs,hrd.ne,hrd.cap,hrd.le,hrd.big⟩
  refine Pd.G.start (by kernel_rfl) hA ?_
  rw [show (Pl.find 12 ((Tryz.f159.body).getD .skip)).size=6 by kernel_rfl]
  refine Pd.G.two 0 1 (by kernel_rfl) ?_ ?_
  · refine Pd.GOp.value 0 34 v w.drew (by kernel_rfl) (by kernel_rfl) (by kernel_rfl) (Pd.load1 0 155 (.tmp 4) _ (by kernel_rfl) (by decide) (ZaV b v w.drew hv hresD.c4)) ?_
    refine Pd.G.one 1 (by kernel_rfl) ?_
    refine Pd.GOp.value 1 35 (.int .i64 k) w.drew (by kernel_rfl) (by kernel_rfl) (by kernel_rfl) (Pd.move1 1 (.tmp 11) (by kernel_rfl) (by decide)) ?_
    refine Pd.G.one 2 (by kernel_rfl) ?_
    refine Pd.GOp.call 2 36 177 [(.tmp 9),(.tmp 35)] #[198,3] (by kernel_rfl) (by kernel_rfl) (by kernel_rfl) (by kernel_rfl) (by decide) Zb7 (Calls.mono (Zc2 p a len cap q xs k hk w.drew hrdD) ?_)
    rintro e w1 ⟨ho1,hst1⟩
    rw [htk] at hst1
    obtain⟨rfl,hrd1⟩:=hst1
    have hres1:=hresD.only ho1 hpb hpc hpd
    have hown1:OwnsI w1 base v l:=hq0.only ho1 hrdD.rd (by decide)
    have hb1:Below base w w1:=((Below.refl base w).drew).trans (ho1.below hbase hbp)
    refine .inl ⟨i.val,rfl,?_⟩
    refine Pd.G.one 3 (by kernel_rfl) ?_
    refine Pd.GOp.value 3 37 (.slice (some ⟨w1.heap.size,0,none⟩) 1 1) (w1.alloc (.cells #[.int .i64 i.kind,.int .i64 i.n,.float .f64 i.x,.string i.s] 158)) (by kernel_rfl) (by kernel_rfl) (by kernel_rfl) (Pd.one 3 155 (.tmp 36) _ _ (by kernel_rfl) (by decide) (Zcu i w1)) ?_
    have hres2:Res (w1.alloc (.cells #[.int .i64 i.kind,.int .i64 i.n,.float .f64 i.x,.string i.s] 158)) b c d v 0 0:=hres1.stay (Zeg.below (Zaa w1 _))
    have hown2:OwnsI (w1.alloc (.cells #[.int .i64 i.kind,.int .i64 i.n,.float .f64 i.x,.string i.s] 158)) base v l:=hown1.keep (Zaa w1 _) (Nat.le_refl _)
    have hb2:Below base w (w1.alloc (.cells #[.int .i64 i.kind,.int .i64 i.n,.float .f64 i.x,.string i.s] 158)):=hb1.alloc (Nat.le_trans hbase hb1.size) _
    have hrd2:Rd (w1.alloc (.cells #[.int .i64 i.kind,.int .i64 i.n,.float .f64 i.x,.string i.s] 158)) p a len cap (q+m):=hrd1.rd.keep (Zaa w1 _) (Nat.le_refl _)
    obtain⟨v',w3,hr3,ho3,hb3,hs3⟩:=ZaE (w1.alloc (.cells #[.int .i64 i.kind,.int .i64 i.n,.float .f64 i.x,.string i.s] 158)) 0 base v l hown2 _ 1 1 [i] (ZbV w1 i hfi) (fun e=>by cases e) (by omega) (Nat.le_trans hbase hb2.size)
    have hfl3:∀x∈l ++ [i],x.fits:=fun x hx=>by
        rcases List.mem_append.1 hx with h | h
        · exact hfl x h
        · simp at h;rw [h];exact hfi
    obtain⟨a3,c3,e3,_⟩:=ho3.is hfl3
    have hres3:=hres2.stay hs3
    have hrd3:Rd w3 p a len cap (q+m):=(hs3 p _ _ _ hrd2 (by decide)).trans hrd2
    have hbb3:Below base w w3:=hb2.trans hb3
    refine Pd.G.one 4 (by kernel_rfl) ?_
    refine Pd.GOp.value 4 38 v' w3 (by kernel_rfl) (by kernel_rfl) (by kernel_rfl) (Pd.app 4 155 (.tmp 34) (.tmp 37) _ _ (by kernel_rfl) (by decide) (by decide) (fun ty=>hr3)) ?_
    refine Pd.G.one 5 (by kernel_rfl) ?_
    refine Pd.GOp.store 5 (w3.setCell ⟨b,0,none⟩ v') (by kernel_rfl) (by kernel_rfl) (by kernel_rfl) (Pd.storeV 5 155 (.tmp 4) (.tmp 38) _ (by kernel_rfl) (by decide) (by decide) (Zbt b v' v w3 e3 hres3.c4 hres3.f4)) ?_
    refine Pd.G.done (by kernel_rfl) (fun A' hA'=>?_)
    have hb4:Below base w (w3.setCell ⟨b,0,none⟩ v'):=hbb3.setCell (p:=⟨b,0,none⟩) hbb v'
    have hrd4:RdX (w3.setCell ⟨b,0,none⟩ v') p a len cap (q+m) xs:=hrd.re hab hb4 ((Below.heap_setCell w3 ⟨b,0,none⟩ v' p hpb.symm).trans hrd3) hrd1.le
    have hA2:=Pd.At.ext hA' (((((hA.put 34 _).put 35 _).put 36 _).put 37 _).put 38 _)
    rw [hA2]
    exact hend (fun d=>if d=34 then v else if d=35 then .int .i64 k else if d=36 then i.val else if d=37 then .slice (some ⟨w1.heap.size,0,none⟩) 1 1 else v') v' _ (hres3.set4 v') hrd4 (ho3.setOther hres3.h4 (by decide) 0 v') hfl3 hb4
  · refine Pd.GOp.value 1 35 (.int .i64 k) w.drew (by kernel_rfl) (by kernel_rfl) (by kernel_rfl) (Pd.move1 1 (.tmp 11) (by kernel_rfl) (by decide)) ?_
    refine Pd.G.two 0 2 (by kernel_rfl) ?_ ?_
    · refine Pd.GOp.value 0 34 v w.drew (by kernel_rfl) (by kernel_rfl) (by kernel_rfl) (Pd.load1 0 155 (.tmp 4) _ (by kernel_rfl) (by decide) (ZaV b v w.drew hv hresD.c4)) ?_
      refine Pd.G.one 2 (by kernel_rfl) ?_
      refine Pd.GOp.call 2 36 177 [(.tmp 9),(.tmp 35)] #[198,3] (by kernel_rfl) (by kernel_rfl) (by kernel_rfl) (by kernel_rfl) (by decide) Zb7 (Calls.mono (Zc2 p a len cap q xs k hk w.drew hrdD) ?_)
      rintro e w1 ⟨ho1,hst1⟩
      rw [htk] at hst1
      obtain⟨rfl,hrd1⟩:=hst1
      have hres1:=hresD.only ho1 hpb hpc hpd
      have hown1:OwnsI w1 base v l:=hq0.only ho1 hrdD.rd (by decide)
      have hb1:Below base w w1:=((Below.refl base w).drew).trans (ho1.below hbase hbp)
      refine .inl ⟨i.val,rfl,?_⟩
      refine Pd.G.one 3 (by kernel_rfl) ?_
      refine Pd.GOp.value 3 37 (.slice (some ⟨w1.heap.size,0,none⟩) 1 1) (w1.alloc (.cells #[.int .i64 i.kind,.int .i64 i.n,.float .f64 i.x,.string i.s] 158)) (by kernel_rfl) (by kernel_rfl) (by kernel_rfl) (Pd.one 3 155 (.tmp 36) _ _ (by kernel_rfl) (by decide) (Zcu i w1)) ?_
      have hres2:Res (w1.alloc (.cells #[.int .i64 i.kind,.int .i64 i.n,.float .f64 i.x,.string i.s] 158)) b c d v 0 0:=hres1.stay (Zeg.below (Zaa w1 _))
      have hown2:OwnsI (w1.alloc (.cells #[.int .i64 i.kind,.int .i64 i.n,.float .f64 i.x,.string i.s] 158)) base v l:=hown1.keep (Zaa w1 _) (Nat.le_refl _)
      have hb2:Below base w (w1.alloc (.cells #[.int .i64 i.kind,.int .i64 i.n,.float .f64 i.x,.string i.s] 158)):=hb1.alloc (Nat.le_trans hbase hb1.size) _
      have hrd2:Rd (w1.alloc (.cells #[.int .i64 i.kind,.int .i64 i.n,.float .f64 i.x,.string i.s] 158)) p a len cap (q+m):=hrd1.rd.keep (Zaa w1 _) (Nat.le_refl _)
      obtain⟨v',w3,hr3,ho3,hb3,hs3⟩:=ZaE (w1.alloc (.cells #[.int .i64 i.kind,.int .i64 i.n,.float .f64 i.x,.string i.s] 158)) 0 base v l hown2 _ 1 1 [i] (ZbV w1 i hfi) (fun e=>by cases e) (by omega) (Nat.le_trans hbase hb2.size)
      have hfl3:∀x∈l ++ [i],x.fits:=fun x hx=>by
          rcases List.mem_append.1 hx with h | h
          · exact hfl x h
          · simp at h;rw [h];exact hfi
      obtain⟨a3,c3,e3,_⟩:=ho3.is hfl3
      have hres3:=hres2.stay hs3
      have hrd3:Rd w3 p a len cap (q+m):=(hs3 p _ _ _ hrd2 (by decide)).trans hrd2
      have hbb3:Below base w w3:=hb2.trans hb3
      refine Pd.G.one 4 (by kernel_rfl) ?_
      refine Pd.GOp.value 4 38 v' w3 (by kernel_rfl) (by kernel_rfl) (by kernel_rfl) (Pd.app 4 155 (.tmp 34) (.tmp 37) _ _ (by kernel_rfl) (by decide) (by decide) (fun ty=>hr3)) ?_
      refine Pd.G.one 5 (by kernel_rfl) ?_
      refine Pd.GOp.store 5 (w3.setCell ⟨b,0,none⟩ v') (by kernel_rfl) (by kernel_rfl) (by kernel_rfl) (Pd.storeV 5 155 (.tmp 4) (.tmp 38) _ (by kernel_rfl) (by decide) (by decide) (Zbt b v' v w3 e3 hres3.c4 hres3.f4)) ?_
      refine Pd.G.done (by kernel_rfl) (fun A' hA'=>?_)
      have hb4:Below base w (w3.setCell ⟨b,0,none⟩ v'):=hbb3.setCell (p:=⟨b,0,none⟩) hbb v'
      have hrd4:RdX (w3.setCell ⟨b,0,none⟩ v') p a len cap (q+m) xs:=hrd.re hab hb4 ((Below.heap_setCell w3 ⟨b,0,none⟩ v' p hpb.symm).trans hrd3) hrd1.le
      rw [Pd.upd_comm _ 35 34 _ _ (by decide)] at hA'
      have hA2:=Pd.At.ext hA' (((((hA.put 34 _).put 35 _).put 36 _).put 37 _).put 38 _)
      rw [hA2]
      exact hend (fun d=>if d=34 then v else if d=35 then .int .i64 k else if d=36 then i.val else if d=37 then .slice (some ⟨w1.heap.size,0,none⟩) 1 1 else v') v' _ (hres3.set4 v') hrd4 (ho3.setOther hres3.h4 (by decide) 0 v') hfl3 hb4
    · refine Pd.GOp.call 2 36 177 [(.tmp 9),(.tmp 35)] #[198,3] (by kernel_rfl) (by kernel_rfl) (by kernel_rfl) (by kernel_rfl) (by decide) Zb7 (Calls.mono (Zc2 p a len cap q xs k hk w.drew hrdD) ?_)
      rintro e w1 ⟨ho1,hst1⟩
      rw [htk] at hst1
      obtain⟨rfl,hrd1⟩:=hst1
      have hres1:=hresD.only ho1 hpb hpc hpd
      have hown1:OwnsI w1 base v l:=hq0.only ho1 hrdD.rd (by decide)
      have hb1:Below base w w1:=((Below.refl base w).drew).trans (ho1.below hbase hbp)
      refine .inl ⟨i.val,rfl,?_⟩
      refine Pd.G.two 0 3 (by kernel_rfl) ?_ ?_
      · refine Pd.GOp.value 0 34 v w1 (by kernel_rfl) (by kernel_rfl) (by kernel_rfl) (Pd.load1 0 155 (.tmp 4) _ (by kernel_rfl) (by decide) (ZaV b v w1 hv hres1.c4)) ?_
        refine Pd.G.one 3 (by kernel_rfl) ?_
        refine Pd.GOp.value 3 37 (.slice (some ⟨w1.heap.size,0,none⟩) 1 1) (w1.alloc (.cells #[.int .i64 i.kind,.int .i64 i.n,.float .f64 i.x,.string i.s] 158)) (by kernel_rfl) (by kernel_rfl) (by kernel_rfl) (Pd.one 3 155 (.tmp 36) _ _ (by kernel_rfl) (by decide) (Zcu i w1)) ?_
        have hres2:Res (w1.alloc (.cells #[.int .i64 i.kind,.int .i64 i.n,.float .f64 i.x,.string i.s] 158)) b c d v 0 0:=hres1.stay (Zeg.below (Zaa w1 _))
        have hown2:OwnsI (w1.alloc (.cells #[.int .i64 i.kind,.int .i64 i.n,.float .f64 i.x,.string i.s] 158)) base v l:=hown1.keep (Zaa w1 _) (Nat.le_refl _)
        have hb2:Below base w (w1.alloc (.cells #[.int .i64 i.kind,.int .i64 i.n,.float .f64 i.x,.string i.s] 158)):=hb1.alloc (Nat.le_trans hbase hb1.size) _
        have hrd2:Rd (w1.alloc (.cells #[.int .i64 i.kind,.int .i64 i.n,.float .f64 i.x,.string i.s] 158)) p a len cap (q+m):=hrd1.rd.keep (Zaa w1 _) (Nat.le_refl _)
        obtain⟨v',w3,hr3,ho3,hb3,hs3⟩:=ZaE (w1.alloc (.cells #[.int .i64 i.kind,.int .i64 i.n,.float .f64 i.x,.string i.s] 158)) 0 base v l hown2 _ 1 1 [i] (ZbV w1 i hfi) (fun e=>by cases e) (by omega) (Nat.le_trans hbase hb2.size)
        have hfl3:∀x∈l ++ [i],x.fits:=fun x hx=>by
            rcases List.mem_append.1 hx with h | h
            · exact hfl x h
            · simp at h;rw [h];exact hfi
        obtain⟨a3,c3,e3,_⟩:=ho3.is hfl3
        have hres3:=hres2.stay hs3
        have hrd3:Rd w3 p a len cap (q+m):=(hs3 p _ _ _ hrd2 (by decide)).trans hrd2
        have hbb3:Below base w w3:=hb2.trans hb3
        refine Pd.G.one 4 (by kernel_rfl) ?_
        refine Pd.GOp.value 4 38 v' w3 (by kernel_rfl) (by kernel_rfl) (by kernel_rfl) (Pd.app 4 155 (.tmp 34) (.tmp 37) _ _ (by kernel_rfl) (by decide) (by decide) (fun ty=>hr3)) ?_
        refine Pd.G.one 5 (by kernel_rfl) ?_
        refine Pd.GOp.store 5 (w3.setCell ⟨b,0,none⟩ v') (by kernel_rfl) (by kernel_rfl) (by kernel_rfl) (Pd.storeV 5 155 (.tmp 4) (.tmp 38) _ (by kernel_rfl) (by decide) (by decide) (Zbt b v' v w3 e3 hres3.c4 hres3.f4)) ?_
        refine Pd.G.done (by kernel_rfl) (fun A' hA'=>?_)
        have hb4:Below base w (w3.setCell ⟨b,0,none⟩ v'):=hbb3.setCell (p:=⟨b,0,none⟩) hbb v'
        have hrd4:RdX (w3.setCell ⟨b,0,none⟩ v') p a len cap (q+m) xs:=hrd.re hab hb4 ((Below.heap_setCell w3 ⟨b,0,none⟩ v' p hpb.symm).trans hrd3) hrd1.le
        rw [Pd.upd_comm _ 36 34 _ _ (by decide)] at hA'
        rw [Pd.upd_comm _ 35 34 _ _ (by decide)] at hA'
        have hA2:=Pd.At.ext hA' (((((hA.put 34 _).put 35 _).put 36 _).put 37 _).put 38 _)
        rw [hA2]
        exact hend (fun d=>if d=34 then v else if d=35 then .int .i64 k else if d=36 then i.val else if d=37 then .slice (some ⟨w1.heap.size,0,none⟩) 1 1 else v') v' _ (hres3.set4 v') hrd4 (ho3.setOther hres3.h4 (by decide) 0 v') hfl3 hb4
      · refine Pd.GOp.value 3 37 (.slice (some ⟨w1.heap.size,0,none⟩) 1 1) (w1.alloc (.cells #[.int .i64 i.kind,.int .i64 i.n,.float .f64 i.x,.string i.s] 158)) (by kernel_rfl) (by kernel_rfl) (by kernel_rfl) (Pd.one 3 155 (.tmp 36) _ _ (by kernel_rfl) (by decide) (Zcu i w1)) ?_
        have hres2:Res (w1.alloc (.cells #[.int .i64 i.kind,.int .i64 i.n,.float .f64 i.x,.string i.s] 158)) b c d v 0 0:=hres1.stay (Zeg.below (Zaa w1 _))
        refine Pd.G.one 0 (by kernel_rfl) ?_
        refine Pd.GOp.value 0 34 v (w1.alloc (.cells #[.int .i64 i.kind,.int .i64 i.n,.float .f64 i.x,.string i.s] 158)) (by kernel_rfl) (by kernel_rfl) (by kernel_rfl) (Pd.load1 0 155 (.tmp 4) _ (by kernel_rfl) (by decide) (ZaV b v (w1.alloc (.cells #[.int .i64 i.kind,.int .i64 i.n,.float .f64 i.x,.string i.s] 158)) hv hres2.c4)) ?_
        have hown2:OwnsI (w1.alloc (.cells #[.int .i64 i.kind,.int .i64 i.n,.float .f64 i.x,.string i.s] 158)) base v l:=hown1.keep (Zaa w1 _) (Nat.le_refl _)
        have hb2:Below base w (w1.alloc (.cells #[.int .i64 i.kind,.int .i64 i.n,.float .f64 i.x,.string i.s] 158)):=hb1.alloc (Nat.le_trans hbase hb1.size) _
        have hrd2:Rd (w1.alloc (.cells #[.int .i64 i.kind,.int .i64 i.n,.float .f64 i.x,.string i.s] 158)) p a len cap (q+m):=hrd1.rd.keep (Zaa w1 _) (Nat.le_refl _)
        obtain⟨v',w3,hr3,ho3,hb3,hs3⟩:=ZaE (w1.alloc (.cells #[.int .i64 i.kind,.int .i64 i.n,.float .f64 i.x,.string i.s] 158)) 0 base v l hown2 _ 1 1 [i] (ZbV w1 i hfi) (fun e=>by cases e) (by omega) (Nat.le_trans hbase hb2.size)
        have hfl3:∀x∈l ++ [i],x.fits:=fun x hx=>by
            rcases List.mem_append.1 hx with h | h
            · exact hfl x h
            · simp at h;rw [h];exact hfi
        obtain⟨a3,c3,e3,_⟩:=ho3.is hfl3
        have hres3:=hres2.stay hs3
        have hrd3:Rd w3 p a len cap (q+m):=(hs3 p _ _ _ hrd2 (by decide)).trans hrd2
        have hbb3:Below base w w3:=hb2.trans hb3
        refine Pd.G.one 4 (by kernel_rfl) ?_
        refine Pd.GOp.value 4 38 v' w3 (by kernel_rfl) (by kernel_rfl) (by kernel_rfl) (Pd.app 4 155 (.tmp 34) (.tmp 37) _ _ (by kernel_rfl) (by decide) (by decide) (fun ty=>hr3)) ?_
        refine Pd.G.one 5 (by kernel_rfl) ?_
        refine Pd.GOp.store 5 (w3.setCell ⟨b,0,none⟩ v') (by kernel_rfl) (by kernel_rfl) (by kernel_rfl) (Pd.storeV 5 155 (.tmp 4) (.tmp 38) _ (by kernel_rfl) (by decide) (by decide) (Zbt b v' v w3 e3 hres3.c4 hres3.f4)) ?_
        refine Pd.G.done (by kernel_rfl) (fun A' hA'=>?_)
        have hb4:Below base w (w3.setCell ⟨b,0,none⟩ v'):=hbb3.setCell (p:=⟨b,0,none⟩) hbb v'
        have hrd4:RdX (w3.setCell ⟨b,0,none⟩ v') p a len cap (q+m) xs:=hrd.re hab hb4 ((Below.heap_setCell w3 ⟨b,0,none⟩ v' p hpb.symm).trans hrd3) hrd1.le
        rw [Pd.upd_comm _ 37 34 _ _ (by decide)] at hA'
        rw [Pd.upd_comm _ 36 34 _ _ (by decide)] at hA'
        rw [Pd.upd_comm _ 35 34 _ _ (by decide)] at hA'
        have hA2:=Pd.At.ext hA' (((((hA.put 34 _).put 35 _).put 36 _).put 37 _).put 38 _)
        rw [hA2]
        exact hend (fun d=>if d=34 then v else if d=35 then .int .i64 k else if d=36 then i.val else if d=37 then .slice (some ⟨w1.heap.size,0,none⟩) 1 1 else v') v' _ (hres3.set4 v') hrd4 (ho3.setOther hres3.h4 (by decide) 0 v') hfl3 hb4
theorem Zn3 (w:World)(base b c d p:Nat)(v:Value)(l:List It)(a:Option Addr)(len cap q:Nat)(xs:List Nat)(k:Int)(hk:1≤k∧k≤5)(hres:Res w b c d v 0 0)(hrd:RdX w p a len cap q xs)(hown:OwnsI w base v l)(hfl:∀i∈l,i.fits)(hbase:base≤w.heap.size)(hbb:base≤b)(hbc:base≤c)(hbd:base≤d)(hbp:base≤p)(hpb:b≠p)(hpc:c≠p)(hpd:d≠p)(hab:0<len→∀bb oo,a=some ⟨bb,oo,none⟩→bb<base)(hll:l.length≤1000)(hlen:len≤100000)(ds:List Deferred)(htk:tk (xs.drop q) k=none)
    {Q:Exit→Act→World→Prop}(hsz:A.tmps.size=43)(hdf:A.defers=ds)(s4:A.tmps.getD 4 undef=.pointer (some ⟨b,0,none⟩))(s5:A.tmps.getD 5 undef=.pointer (some ⟨c,0,none⟩))(s6:A.tmps.getD 6 undef=.pointer (some ⟨d,0,none⟩))(s9:A.tmps.getD 9 undef=.pointer (some ⟨p,0,none⟩))(s11:A.tmps.getD 11 undef=.int .i64 k)
    (hdie:∀A' w',A'.defers=ds→A'.tmps.getD 4 undef=.pointer (some ⟨b,0,none⟩)→A'.tmps.getD 5 undef=.pointer (some ⟨c,0,none⟩)→A'.tmps.getD 6 undef=.pointer (some ⟨d,0,none⟩)→Res w' b c d v 0 0→Below base w w'→Q (.panic thrown) A' w') :
    (Code.region 12 (Pl.find 12 ((Tryz.f159.body).getD .skip)) true).wp Tryz.prog Q A w:=by
  have hA:=Pd.At.same (v:=.int .i64 k) (d:=11) (Pd.At.same (v:=.pointer (some ⟨p,0,none⟩)) (d:=9) (Pd.At.same (v:=.pointer (some ⟨d,0,none⟩)) (d:=6) (Pd.At.same (v:=.pointer (some ⟨c,0,none⟩)) (d:=5) (Pd.At.same (v:=.pointer (some ⟨b,0,none⟩)) (d:=4) (Pd.At.here hsz hdf) s4) s5) s6) s9) s11
  obtain⟨va,vl,vc,hv⟩:∃a len cap,v=.slice a len cap:=by
   obtain⟨a',c',e,_⟩:=hown.is hfl
   exact⟨a',_,c',e⟩
  have hresD:Res w.drew b c d v 0 0:=⟨hres.h4,hres.h5,hres.h6⟩
  have hrdD:RdX w.drew p a len cap q xs:=⟨hrd.rd,hrd.bs,hrd.ne,hrd.cap,hrd.le,hrd.big⟩
  refine Pd.G.start (by kernel_rfl) hA ?_
  rw [show (Pl.find 12 ((Tryz.f159.body).getD .skip)).size=6 by kernel_rfl]
  refine Pd.G.two 0 1 (by kernel_rfl) ?_ ?_
  · refine Pd.GOp.value 0 34 v w.drew (by kernel_rfl) (by kernel_rfl) (by kernel_rfl) (Pd.load1 0 155 (.tmp 4) _ (by kernel_rfl) (by decide) (ZaV b v w.drew hv hresD.c4)) ?_
    refine Pd.G.one 1 (by kernel_rfl) ?_
    refine Pd.GOp.value 1 35 (.int .i64 k) w.drew (by kernel_rfl) (by kernel_rfl) (by kernel_rfl) (Pd.move1 1 (.tmp 11) (by kernel_rfl) (by decide)) ?_
    refine Pd.G.one 2 (by kernel_rfl) ?_
    refine Pd.GOp.call 2 36 177 [(.tmp 9),(.tmp 35)] #[198,3] (by kernel_rfl) (by kernel_rfl) (by kernel_rfl) (by kernel_rfl) (by decide) Zb7 (Calls.mono (Zc2 p a len cap q xs k hk w.drew hrdD) ?_)
    rintro e w1 ⟨ho1,hst1⟩
    rw [htk] at hst1
    simp only at hst1
    subst hst1
    refine .inr ⟨thrown,rfl,fun A' hA'=>?_⟩
    exact hdie A' w1 hA'.2.1 (hA'.2.2 4 (by decide)) (hA'.2.2 5 (by decide)) (hA'.2.2 6 (by decide)) (hresD.only ho1 hpb hpc hpd) (((Below.refl base w).drew).trans (ho1.below hbase hbp))
  · refine Pd.GOp.value 1 35 (.int .i64 k) w.drew (by kernel_rfl) (by kernel_rfl) (by kernel_rfl) (Pd.move1 1 (.tmp 11) (by kernel_rfl) (by decide)) ?_
    refine Pd.G.two 0 2 (by kernel_rfl) ?_ ?_
    · refine Pd.GOp.value 0 34 v w.drew (by kernel_rfl) (by kernel_rfl) (by kernel_rfl) (Pd.load1 0 155 (.tmp 4) _ (by kernel_rfl) (by decide) (ZaV b v w.drew hv hresD.c4)) ?_
      refine Pd.G.one 2 (by kernel_rfl) ?_
      refine Pd.GOp.call 2 36 177 [(.tmp 9),(.tmp 35)] #[198,3] (by kernel_rfl) (by kernel_rfl) (by kernel_rfl) (by kernel_rfl) (by decide) Zb7 (Calls.mono (Zc2 p a len cap q xs k hk w.drew hrdD) ?_)
      rintro e w1 ⟨ho1,hst1⟩
      rw [htk] at hst1
      simp only at hst1
      subst hst1
      refine .inr ⟨thrown,rfl,fun A' hA'=>?_⟩
      exact hdie A' w1 hA'.2.1 (hA'.2.2 4 (by decide)) (hA'.2.2 5 (by decide)) (hA'.2.2 6 (by decide)) (hresD.only ho1 hpb hpc hpd) (((Below.refl base w).drew).trans (ho1.below hbase hbp))
    · refine Pd.GOp.call 2 36 177 [(.tmp 9),(.tmp 35)] #[198,3] (by kernel_rfl) (by kernel_rfl) (by kernel_rfl) (by kernel_rfl) (by decide) Zb7 (Calls.mono (Zc2 p a len cap q xs k hk w.drew hrdD) ?_)
      rintro e w1 ⟨ho1,hst1⟩
      rw [htk] at hst1
      simp only at hst1
      subst hst1
      refine .inr ⟨thrown,rfl,fun A' hA'=>?_⟩
      exact hdie A' w1 hA'.2.1 (hA'.2.2 4 (by decide)) (hA'.2.2 5 (by decide)) (hA'.2.2 6 (by decide)) (hresD.only ho1 hpb hpc hpd) (((Below.refl base w).drew).trans (ho1.below hbase hbp))
theorem OwnsI.setRes {w : World} {base b c d : Nat} {v0 : Value} {n e : Int} {l : List It} {v : Value} (h : OwnsI w base v l) (hr : Res w.drew b c d v0 n e) (u : Value) {a : Option Addr} {len cap : Nat} (_hu : u = .slice a len cap) (q : Nat) :
    OwnsI (((w.drew.setCell ⟨b, 0, none⟩ u).setCell ⟨c, 0, none⟩ (.int .i64 (q : Nat))).setCell ⟨d, 0, none⟩ (.int .i64 0)) base v l := by
  have h0 : OwnsI w.drew base v l := h
  have r1 := hr.set4 u
  have r2 := r1.set5 (q : Nat)
  exact ((h0.setOther hr.h4 (by decide) 0 u).setOther r1.h5 (by decide) 0 _).setOther r2.h6 (by decide) 0 _
theorem Zop (w:World)(base b c d p:Nat)(v:Value)(l:List It)(a:Option Addr)(len cap q:Nat)(hres:Res w b c d v 0 0)(hrd:Rd w p a len cap q)(hown:OwnsI w base v l)(hfl:∀i∈l,i.fits)(hbb:base≤b)(hbc:base≤c)(hbd:base≤d)(hpb:b≠p)(hpc:c≠p)(hpd:d≠p)(ds:List Deferred)
    {Q:Exit→Act→World→Prop}(hsz:A.tmps.size=43)(hdf:A.defers=ds)(s4:A.tmps.getD 4 undef=.pointer (some ⟨b,0,none⟩))(s5:A.tmps.getD 5 undef=.pointer (some ⟨c,0,none⟩))(s6:A.tmps.getD 6 undef=.pointer (some ⟨d,0,none⟩))(s9:A.tmps.getD 9 undef=.pointer (some ⟨p,0,none⟩))
    (hend:∀(u:Nat→Value) w',Res w' b c d v (q:Nat) 0→OwnsI w' base v l→Below base w w'→Q .normal ((((A).put (some 40) (u 40)).put (some 41) (u 41)).put (some 42) (u 42)) w') :
    (Code.region 14 (Pl.find 14 ((Tryz.f159.body).getD .skip)) true).wp Tryz.prog Q A w:=by
  have hA:=Pd.At.same (v:=.pointer (some ⟨p,0,none⟩)) (d:=9) (Pd.At.same (v:=.pointer (some ⟨d,0,none⟩)) (d:=6) (Pd.At.same (v:=.pointer (some ⟨c,0,none⟩)) (d:=5) (Pd.At.same (v:=.pointer (some ⟨b,0,none⟩)) (d:=4) (Pd.At.here hsz hdf) s4) s5) s6) s9
  obtain⟨va,vl,vc,hv⟩:∃a len cap,v=.slice a len cap:=by
   obtain⟨a',c',e,_⟩:=hown.is hfl
   exact⟨a',_,c',e⟩
  have hresD:Res w.drew b c d v 0 0:=⟨hres.h4,hres.h5,hres.h6⟩
  have hrdD:Rd w.drew p a len cap q:=hrd
  have r1:=hresD.set4 v
  have r2:=r1.set5 (q:Nat)
  have r3:=r2.set6 0
  have q1:Rd (w.drew.setCell ⟨b,0,none⟩ v) p a len cap q:=(Below.heap_setCell _ ⟨b,0,none⟩ v p hpb.symm).trans hrdD
  have q2:=(Below.heap_setCell (w.drew.setCell ⟨b,0,none⟩ v) ⟨c,0,none⟩ (.int .i64 (q:Nat)) p hpc.symm).trans q1
  have q3:=(Below.heap_setCell ((w.drew.setCell ⟨b,0,none⟩ v).setCell ⟨c,0,none⟩ (.int .i64 (q:Nat))) ⟨d,0,none⟩ (.int .i64 0) p hpd.symm).trans q2
  have hS0:w.drew.heap[b]? = some (Obj.cells #[v] 155 (0,0))∧Rd w.drew p a len cap q:=⟨hresD.h4,hrdD⟩
  have hS1:(w.drew.setCell ⟨b,0,none⟩ v).heap[b]? = some (Obj.cells #[v] 155 (0,0))∧Rd (w.drew.setCell ⟨b,0,none⟩ v) p a len cap q:=⟨r1.h4,q1⟩
  have hS2:((w.drew.setCell ⟨b,0,none⟩ v).setCell ⟨c,0,none⟩ (.int .i64 (q:Nat))).heap[b]? = some (Obj.cells #[v] 155 (0,0))∧Rd ((w.drew.setCell ⟨b,0,none⟩ v).setCell ⟨c,0,none⟩ (.int .i64 (q:Nat))) p a len cap q:=⟨r2.h4,q2⟩
  have hS3:(((w.drew.setCell ⟨b,0,none⟩ v).setCell ⟨c,0,none⟩ (.int .i64 (q:Nat))).setCell ⟨d,0,none⟩ (.int .i64 0)).heap[b]? = some (Obj.cells #[v] 155 (0,0))∧Rd (((w.drew.setCell ⟨b,0,none⟩ v).setCell ⟨c,0,none⟩ (.int .i64 (q:Nat))).setCell ⟨d,0,none⟩ (.int .i64 0)) p a len cap q:=⟨r3.h4,q3⟩
  refine Pd.H.start (S:=fun w'=>w'.heap[b]? = some (Obj.cells #[v] 155 (0,0))∧Rd w' p a len cap q) (by kernel_rfl) hA hS0 ?_
  rw [show (Pl.find 14 ((Tryz.f159.body).getD .skip)).size=6 by kernel_rfl]
  refine Pd.H.take 0 40 (v) (by kernel_rfl) (by kernel_rfl) (by kernel_rfl) (Pd.free 0 (by kernel_rfl)) (Pd.load 0 155 (.tmp 4) _ (by kernel_rfl) (by decide) (fun w' hS=>ZaV b v w' hv (Zls hS.1))) hS0 ?_
  refine Pd.H.take 1 41 (.pointer (some ⟨p,1,none⟩)) (by kernel_rfl) (by kernel_rfl) (by kernel_rfl) (Pd.free 1 (by kernel_rfl)) (Pd.field 1 198 (.tmp 9) 1 _ (by kernel_rfl) (by decide) (Zcb p)) hS0 ?_
  refine Pd.H.take 2 42 (.int .i64 (q:Nat)) (by kernel_rfl) (by kernel_rfl) (by kernel_rfl) (Pd.free 2 (by kernel_rfl)) (Pd.load 2 3 (.tmp 41) _ (by kernel_rfl) (by decide) (fun w' hS=>Zam p 1 _ w' (Rd.c1 hS.2))) hS0 ?_
  refine Pd.H.store 3 (w.drew.setCell ⟨b,0,none⟩ v) (by kernel_rfl) (by kernel_rfl) (by kernel_rfl) (Pd.free 3 (by kernel_rfl)) (Pd.storeV 3 155 (.tmp 4) (.tmp 40) _ (by kernel_rfl) (by decide) (by decide) (Zbt b v v w.drew hv hresD.c4 hresD.f4)) hS1 ?_
  refine Pd.H.store 4 ((w.drew.setCell ⟨b,0,none⟩ v).setCell ⟨c,0,none⟩ (.int .i64 (q:Nat))) (by kernel_rfl) (by kernel_rfl) (by kernel_rfl) (Pd.free 4 (by kernel_rfl)) (Pd.storeV 4 3 (.tmp 5) (.tmp 42) _ (by kernel_rfl) (by decide) (by decide) (Zlb c _ _ _ r1.c5 r1.f5)) hS2 ?_
  refine Pd.H.store 5 (((w.drew.setCell ⟨b,0,none⟩ v).setCell ⟨c,0,none⟩ (.int .i64 (q:Nat))).setCell ⟨d,0,none⟩ (.int .i64 0)) (by kernel_rfl) (by kernel_rfl) (by kernel_rfl) (Pd.free 5 (by kernel_rfl)) (Pd.storeV 5 40 (.tmp 6) (.const (.int .i64 0)) _ (by kernel_rfl) (by decide) (by decide) (Zh6 d _ _ _ r2.c6 r2.f6)) hS3 ?_
  refine Pd.H.done (by kernel_rfl) (fun A' hA'=>?_)
  rw [Pd.At.ext hA' (((hA.put 40 _).put 41 _).put 42 _)]
  exact hend (fun d=>if d=40 then v else if d=41 then .pointer (some ⟨p,1,none⟩) else .int .i64 (q:Nat)) _ r3 (hown.setRes hresD v hv q) (((((Below.refl base w).drew).setCell (p:=⟨b,0,none⟩) hbb v).setCell (p:=⟨c,0,none⟩) hbc _).setCell (p:=⟨d,0,none⟩) hbd _)
theorem Zoa (w3:World)(a:Option Addr)(len cap:Nat)(hbs:Bs w a len xs)(hc:len≤cap)(hl:len≤9223372036854775807)(hb:Below w.heap.size w w3):RdX (w3.alloc (.cells #[.slice a len cap,.int .i64 0] 198)) w3.heap.size a len cap 0 xs:=by
 refine⟨heap_alloc_new w3 _,(hbs.keep hb (Nat.le_refl _)).keep (Zaa w3 _) (Nat.le_refl _),?_,hc,Nat.zero_le _,hl⟩
 intro h0 b o e
 obtain⟨b',o',e',hcell⟩:=hbs.2.2 0 h0
 rw [e] at e'
 simp only [Option.some.injEq,Addr.mk.injEq,and_true] at e'
 have:=World.block_lt_of_cell? w _ hcell
 have h2:=hb.size
 simp only at this
 omega
theorem Zis (a:Option Addr)(len cap:Nat)(xs:List Nat)(ka:Option Addr)(klen kcap:Nat)(ks:List Int)(w:World)(hb:Came w a len cap xs)(hk:Ks w ka klen ks)(hl:len≤100000)(hkl:klen≤1000) :
    Calls Tryz.prog 159 #[.slice a len cap,.slice ka klen kcap] w (ZaK xs ks w):=by
  have hmf:∀(fn:Fn) (first cap:Array Value) (w:World),(Instr.makeFunc fn first cap).run Tryz.prog w=.ok (.func fn first cap) w:=fun _ _ _ _=>rfl
  have HC:=hide hb
  have HK:=hide hk
  have HKL:=hide hk.1
  clear hb hk
  go_enter_defers Tryz.func159,Tryz.ntmps159
  go_wp2_with fail
  have hres:=Zns w
  generalize (((w.alloc (.cells #[.slice none 0 0] 155)).alloc (.cells #[.int .i64 0] 3)).alloc (.cells #[.int .i64 0] 40))=w3 at hres ⊢
  have HR:=hide hres.1
  have HB3:=hide hres.2
  clear hres
  have HK3:=hide (HK.out.keep HB3.out (Nat.le_refl _))
  go_loop [14] (fun i=>∃j:Nat,j≤klen∧i=.int .i64 j∧Hid (∀t,t<j→1≤ks.getD t 0∧ks.getD t 0≤5)) (fun i=>klen-(intOf i).toNat)
  case atStart=>exact ⟨0,by omega,rfl,fun t ht=>by omega⟩
  case round =>
   obtain⟨j,hj,rfl,hgood⟩:=hrel
   rcases Nat.lt_or_ge j klen with hlt | hge
   · obtain⟨b,off,rfl,hcell⟩:=HK3.out.2 j hlt
     obtain⟨k,hkk⟩:∃k,k=ks.getD j 0:=⟨_,rfl⟩
     rw [← hkk] at hcell
     have HKK:=hide hkk
     clear hkk
     by_cases hok:1≤k∧k≤5
     · have i1:¬k<1:=by omega
       have i2:¬5<k:=by omega
       have HOK:=hide hok
       clear hok
       go_wp2_with fail
       go_round
       case rel =>
        refine⟨j+1,by omega,by go_num,?_⟩
        intro t ht
        by_cases e:t=j
        · rw [e,← HKK.out]
          exact HOK.out
        · exact hgood.out t (by omega)
       case measure=>simp only [intOf];omega
     · have HO:Hid (Za2 xs ks=([],0,1)):=ZkD (j:=j) (by rw [HKL.out];exact hlt) (by rw [← HKK.out];exact hok)
       have c4:=HR.out.c4
       have c5:=HR.out.c5
       have c6:=HR.out.c6
       have f4:=HR.out.f4
       have f5:=HR.out.f5
       have f6:=HR.out.f6
       have HE:=hide (HR.out.set (.slice none 0 0) 0 1)
       have HBE:=hide (ZdS HB3.out (b:=w.heap.size) (c:=w.heap.size+1) (d:=w.heap.size+1+1) (Nat.le_refl _) (by omega) (by omega) (.slice none 0 0) 0 1)
       have hkb:k<1∨(¬k<1∧5<k):=by omega
       clear hok
       rcases hkb with h1 | ⟨h1,h2⟩
       · go_wp2_with fail
         refine⟨_,HE.out.results _ (by rfl) (by rfl) (by rfl) rfl,?_⟩
         unfold ZaK
         rw [HO.out]
         exact⟨_,rfl,HBE.out,OwnsI.nil _ _,fun i hi=>by cases hi⟩
       · go_wp2_with fail
         refine⟨_,HE.out.results _ (by rfl) (by rfl) (by rfl) rfl,?_⟩
         unfold ZaK
         rw [HO.out]
         exact⟨_,rfl,HBE.out,OwnsI.nil _ _,fun i hi=>by cases hi⟩
   · have HG:Hid (∀t,t<klen→1≤ks.getD t 0∧ks.getD t 0≤5):=fun t ht=>hgood.out t (by omega)
     clear hgood
     go_wp2_with fail
     have hw4:=Zoa w3 a len cap HC.out.bs HC.out.le HC.out.big HB3.out
     have hres4:=HR.out.stay (Zeg.below (Zaa w3 (.cells #[.slice a len cap,.int .i64 0] 198)))
     have hb4:=HB3.out.trans ((Zaa w3 (.cells #[.slice a len cap,.int .i64 0] 198)).mono HB3.out.size)
     have hp3:w.heap.size+1+1<w3.heap.size:=(Array.getElem?_eq_some_iff.1 HR.out.h6).1
     generalize (w3.alloc (.cells #[.slice a len cap,.int .i64 0] 198))=w4 at hw4 hres4 hb4 ⊢
     have HW4:=hide hw4
     have HR4:=hide hres4
     have HB4:=hide hb4
     have HP3:=hide hp3
     have HAB:Hid (0<len→∀bb oo,a=some ⟨bb,oo,none⟩→bb<w.heap.size):=by
      intro h0 bb oo e
      obtain⟨b',o',e',hc⟩:=HC.out.bs.2.2 0 h0
      rw [e] at e'
      simp only [Option.some.injEq,Addr.mk.injEq,and_true] at e'
      rw [e'.1]
      exact World.block_lt_of_cell? w _ hc
     have HXS:Hid (Bytes xs):=HC.out.bs.2.1
     have HXL:Hid (xs.length=len):=HC.out.bs.1
     clear hw4 hres4 hb4 hp3
     go_loopw [30] (fun i wr=>∃(j:Nat) (v:Value) (l:List It) (q:Nat),j≤klen∧i=.int .i64 j∧Hid (Res wr w.heap.size (w.heap.size+1) (w.heap.size+1+1) v 0 0)∧Hid (RdX wr w3.heap.size a len cap q xs)∧Hid (OwnsI wr w.heap.size v l)∧Hid (∀i∈l,i.fits)∧Hid (Below w.heap.size w wr)∧Hid (tks xs ks [] 0=tks xs (ks.drop j) l q)∧Hid (l.length=j)) (fun i _=>klen-(intOf i).toNat)
     case atStart=>exact ⟨0,.slice none 0 0,[],0,by omega,rfl,HR4,HW4,hide (OwnsI.nil _ _),hide (fun i hi=>by cases hi),HB4,hide (by simp),hide rfl⟩
     case round =>
      obtain⟨j,v,l,q,hj,rfl,hR,hX,hO,hF,hB,hT,hL⟩:=hrel
      rcases Nat.lt_or_ge j klen with hlt | hge
      · obtain⟨b,off,rfl,hcell⟩:=(HK.out.keep hB.out (Nat.le_refl _)).2 j hlt
        obtain⟨k,hkk⟩:∃k,k=ks.getD j 0:=⟨_,rfl⟩
        rw [← hkk] at hcell
        have HKK:Hid (1≤k∧k≤5):=by rw [hkk];exact HG.out j hlt
        have hd:ks.drop j=k :: ks.drop (j+1):=by
         have hj':j<ks.length:=by rw [HKL.out];exact hlt
         rw [List.drop_eq_getElem_cons hj',hkk]
         simp [List.getD,hj']
        have hT':=hT.out
        rw [hd] at hT'
        simp only [tks] at hT'
        clear hkk hd
        cases htk:tk (xs.drop q) k with
        | none =>
         rw [htk] at hT'
         have HO:Hid (Za2 xs ks=([],0,4)):=by
          rw [ZbN (fun t ht=>HG.out t (by rw [← HKL.out];exact ht)),hT']
          trivial
         have HTK:=hide htk
         clear hT' htk
         go_wp2_with fail
         refine Pl.q9 (ops:=Pl.find 12 ((Tryz.f159.body).getD .skip)) ?_
         refine Zn3 wr w.heap.size w.heap.size (w.heap.size+1) (w.heap.size+1+1) w3.heap.size v l a len cap q xs k HKK.out hR.out hX.out hO.out hF.out hB.out.size (Nat.le_refl _) (by omega) (by omega) (by have:=HP3.out;omega) (by have:=HP3.out;omega) (by have:=HP3.out;omega) (by have:=HP3.out;omega) HAB.out (by rw [hL.out];omega) hl _ HTK.out (by rfl) (by rfl) (by rfl) (by rfl) (by rfl) (by rfl) (by rfl) ?_
         intro A' w' hd h4 h5 h6 hres hb
         show Leaves Tryz.prog Tryz.f159 A'.tmps (ZaK xs ks w) A'.defers (.panicking thrown) w'
         rw [hd]
         refine leaves_cons (f:=176) (args:=#[.pointer (some ⟨w.heap.size,0,none⟩),.pointer (some ⟨w.heap.size+1,0,none⟩),.pointer (some ⟨w.heap.size+1+1,0,none⟩)]) (by simp) (by simp [go_sem]) ?_
         refine(Zgf w.heap.size (w.heap.size+1) (w.heap.size+1+1) w' _ _ _ hres.c4 hres.f4 hres.c5 hres.f5 hres.c6 hres.f6 (by omega) (by omega) (by omega)).mono ?_
         rintro e u' w'' ⟨rfl,rfl,rfl⟩
         refine⟨_,(hres.set (.slice none 0 0) 0 4).results _ h4 h5 h6 rfl,?_⟩
         unfold ZaK
         rw [HO.out]
         exact⟨_,rfl,ZdS (hB.out.trans hb) (Nat.le_refl _) (by omega) (by omega) _ _ _,OwnsI.nil _ _,fun i hi=>by cases hi⟩
        | some im =>
         obtain⟨i,m⟩:=im
         rw [htk] at hT'
         simp only at hT'
         have hfx:=ZdI (xs:=xs.drop q) (fun x hx=>HXS.out x (List.mem_of_mem_drop hx)) (by rw [List.length_drop,HXL.out];omega) HKK.out htk
         have HFI:=hide hfx.1
         have HT2:=hide hT'
         have HTK:=hide htk
         clear hT' htk hfx
         go_wp2_with fail
         refine Pl.q9 (ops:=Pl.find 12 ((Tryz.f159.body).getD .skip)) ?_
         refine Zn2 wr w.heap.size w.heap.size (w.heap.size+1) (w.heap.size+1+1) w3.heap.size v l a len cap q xs k HKK.out hR.out hX.out hO.out hF.out hB.out.size (Nat.le_refl _) (by omega) (by omega) (by have:=HP3.out;omega) (by have:=HP3.out;omega) (by have:=HP3.out;omega) (by have:=HP3.out;omega) HAB.out (by rw [hL.out];omega) hl _ i m HTK.out HFI.out (by rfl) (by rfl) (by rfl) (by rfl) (by rfl) (by rfl) (by rfl) ?_
         intro u v' w' r1 r2 r3 r4 r5
         have R1:=hide r1
         have R2:=hide r2
         have R3:=hide r3
         have R4:=hide r4
         have R5:=hide (hB.out.trans r5)
         clear r1 r2 r3 r4 r5
         simp only [Act.put,List.setIfInBounds_toArray,List.set_cons_zero,List.set_cons_succ]
         go_wp2_with fail
         go_roundw
         case rel=>exact ⟨j+1,v',l ++ [i],q+m,by omega,by go_num,R1,R2,R3,R4,R5,HT2,hide (by rw [List.length_append,hL.out];rfl)⟩
         case measure=>simp only [intOf];omega
      · have hjk:j=klen:=by omega
        subst hjk
        have HO:Hid (Za2 xs ks=(l,q,0)):=by
         have:=hT.out
         rw [List.drop_of_length_le (by rw [HKL.out];exact Nat.le_refl _)] at this
         simp only [tks] at this
         rw [ZbN (fun t ht=>HG.out t (by rw [← HKL.out];exact ht)),this]
         trivial
        clear hT
        go_wp2_with fail
        refine Pl.q9 (ops:=Pl.find 14 ((Tryz.f159.body).getD .skip)) ?_
        refine Zop wr w.heap.size w.heap.size (w.heap.size+1) (w.heap.size+1+1) w3.heap.size v l a len cap q hR.out hX.out.rd hO.out hF.out (Nat.le_refl _) (by omega) (by omega) (by have:=HP3.out;omega) (by have:=HP3.out;omega) (by have:=HP3.out;omega) _ (by rfl) (by rfl) (by rfl) (by rfl) (by rfl) (by rfl) ?_
        intro u w' r1 r2 r3
        have R1:=hide r1
        have R2:=hide r2
        have R3:=hide (hB.out.trans r3)
        clear r1 r2 r3
        simp only [Act.put,List.setIfInBounds_toArray,List.set_cons_zero,List.set_cons_succ]
        go_wp2_with fail
        refine leaves_cons (f:=176) (args:=#[.pointer (some ⟨w.heap.size,0,none⟩),.pointer (some ⟨w.heap.size+1,0,none⟩),.pointer (some ⟨w.heap.size+1+1,0,none⟩)]) (by simp) (by simp [go_sem]) ?_
        refine(Ziy w.heap.size (w.heap.size+1) (w.heap.size+1+1) w').mono ?_
        rintro e u' w'' ⟨rfl,rfl,rfl⟩
        obtain⟨va,vc,hv,_⟩:=R2.out.is hF.out
        refine⟨_,R1.out.results _ (by rfl) (by rfl) (by rfl) hv,?_⟩
        unfold ZaK
        rw [HO.out]
        exact⟨_,rfl,R3.out,R2.out,hF.out⟩
end Go.Proofs.YtdojdcncncgncaaGreat
