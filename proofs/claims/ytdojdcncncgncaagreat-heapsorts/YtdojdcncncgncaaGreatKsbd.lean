/-
  Lemmas.
-/
import Derived.Test.YtdojdcncncgncaaGreatKsbc
namespace Go.Proofs.YtdojdcncncgncaaGreat
open Go.RowKit
set_option linter.unusedVariables false
set_option maxRecDepth 100000
set_option maxHeartbeats 4000000
variable {w:World}{lo hi p k0 k1 k2 a b i:Nat}{l:List Hr}
def upK (a b : Rw) : Prop := Fl.rk a.key < Fl.rk b.key
theorem Zcg {a b : Nat} (ha : a < 18446744073709551616) (hb : b < 18446744073709551616) : Fl.less a b = true ↔ Fl.rk a < Fl.rk b := by
  rw [← Fl.rk_less a b ha hb]; simp
theorem Zc4 {a b : Nat} (ha : a < 18446744073709551616) (hb : b < 18446744073709551616) : Fl.less a b = false ↔ Fl.rk b ≤ Fl.rk a := by
  rw [← Fl.rk_less a b ha hb]; simp
theorem Zm4 {a b : Nat} (ha : a < 18446744073709551616) (hb : b < 18446744073709551616) (ka : Fl.key a = a) (kb : Fl.key b = b) (h : Fl.rk a = Fl.rk b) : a = b := by
  rw [← ka, ← kb, ← Fl.of_rk a ha, ← Fl.of_rk b hb, h]
structure ZdU (r : Rw) : Prop where
  fit : r.key < 18446744073709551616
  key : Fl.key r.key = r.key
theorem Zie (r : Rw) : insK [] r = [r] := rfl
theorem Zgw (x : Rw) (l : List Rw) (r : Rw) : insK (x :: l) r = if Fl.less x.key r.key = true then x :: insK l r else r :: x :: l := by
 unfold insK
 by_cases h : Fl.less x.key r.key = true
 · rw [if_pos h, show posK r.key (x :: l) = posK r.key l + 1 by rw [posK, if_pos h]]
   simp
 · rw [if_neg h, show posK r.key (x :: l) = 0 by rw [posK, if_neg h]]
   simp
theorem Zdh {r z : Rw} : ∀ {l : List Rw}, z ∈ insK l r ↔ z = r ∨ z ∈ l
  | [] => by simp [Zie]
  | x :: l => by
    rw [Zgw]
    split
    · rw [List.mem_cons, Zdh (l := l), List.mem_cons]
      constructor
      · rintro (h | h | h)
        · exact .inr (.inl h)
        · exact .inl h
        · exact .inr (.inr h)
      · rintro (h | h | h)
        · exact .inr (.inl h)
        · exact .inl h
        · exact .inr (.inr h)
    · rw [List.mem_cons]
theorem Zkm {r : Rw} (hr : ZdU r) : ∀ {l : List Rw}, (∀ x ∈ l, ZdU x ∧ x.key ≠ r.key) → l.Pairwise upK → (insK l r).Pairwise upK
 | [], _, _ => by rw [Zie]; exact List.pairwise_singleton _ _
 | x :: l, hg, hp => by
  obtain ⟨hx, hl⟩ := List.pairwise_cons.1 hp
  have hgx := hg x List.mem_cons_self
  rw [Zgw]
  split
  · rename_i h
    refine List.pairwise_cons.2 ⟨fun z hz => ?_, Zkm hr (fun y hy => hg y (List.mem_cons_of_mem _ hy)) hl⟩
    rcases Zdh.1 hz with rfl | hz
    · exact (Zcg hgx.1.fit hr.fit).1 h
    · exact hx z hz
  · rename_i h
    have h1 : Fl.rk r.key ≤ Fl.rk x.key := (Zc4 hgx.1.fit hr.fit).1 (by simpa using h)
    have h2 : Fl.rk r.key ≠ Fl.rk x.key := fun e => hgx.2 (Zm4 hr.fit hgx.1.fit hr.key hgx.1.key e).symm
    have h3 : upK r x := Nat.lt_of_le_of_ne h1 h2
    refine List.pairwise_cons.2 ⟨fun z hz => ?_, hp⟩
    rcases List.mem_cons.1 hz with rfl | hz
    · exact h3
    · exact Nat.lt_trans h3 (hx z hz)
theorem ZhA : ∀ {l m : List Rw}, l.Pairwise upK → m.Pairwise upK → (∀ z, z ∈ l ↔ z ∈ m) → l = m
 | [], [], _, _, _ => rfl
 | [], y :: m, _, _, h => by have := (h y).2 List.mem_cons_self; cases this
 | x :: l, [], _, _, h => by have := (h x).1 List.mem_cons_self; cases this
 | x :: l, y :: m, h1, h2, h => by
  obtain ⟨hx, hl⟩ := List.pairwise_cons.1 h1
  obtain ⟨hy, hm⟩ := List.pairwise_cons.1 h2
  have irr : ∀ z : Rw, ¬ upK z z := fun z => Nat.lt_irrefl _
  have e : x = y := by
   rcases List.mem_cons.1 ((h x).1 List.mem_cons_self) with e | hx'
   · exact e
   · rcases List.mem_cons.1 ((h y).2 List.mem_cons_self) with e | hy'
     · exact e.symm
     · exact absurd (Nat.lt_trans (hx y hy') (hy x hx')) (irr x)
  subst e
  rw [ZhA hl hm (fun z => ⟨fun hz => ?_, fun hz => ?_⟩)]
  · rcases List.mem_cons.1 ((h z).1 (List.mem_cons_of_mem _ hz)) with e | h'
    · subst e; exact absurd (hx z hz) (irr z)
    · exact h'
  · rcases List.mem_cons.1 ((h z).2 (List.mem_cons_of_mem _ hz)) with e | h'
    · subst e; exact absurd (hy z hz) (irr z)
    · exact h'
def inK (lo hi : Nat) (r : Rw) : Prop := Fl.less r.key lo = false ∧ Fl.less r.key hi = true
theorem ZmN :∀(l:List Hr)(o:List Rw),(∀h∈l,ZdU h.r)→Zbs l→(∀x∈o,ZdU x)→o.Pairwise upK→(∀x∈o,∀h∈l,x.key≠h.r.key) →
    (l.foldl (Ze9 lo hi) o).Pairwise upK∧(∀x∈l.foldl (Ze9 lo hi) o,ZdU x)∧∀z,z∈l.foldl (Ze9 lo hi) o↔z∈o∨∃h∈l,h.r=z∧inK lo hi z
  | [],o,_,_,hg,hp,_=>⟨hp,hg,fun z=>by simp⟩
  | h :: l,o,hl,h1,hg,hp,hd=>by
   obtain⟨hh,h1'⟩:=List.pairwise_cons.1 h1
   have hgh:=hl h List.mem_cons_self
   rw [List.foldl_cons]
   by_cases hc:(Fl.less h.r.key lo || !(Fl.less h.r.key hi))=true
   · rw [show Ze9 lo hi o h=o by rw [Ze9,if_pos hc]]
     obtain⟨a,b,c⟩:=ZmN l o (fun x hx=>hl x (List.mem_cons_of_mem _ hx)) h1' hg hp (fun x hx g hg'=>hd x hx g (List.mem_cons_of_mem _ hg'))
     refine⟨a,b,fun z=>?_⟩
     rw [c z]
     constructor
     · rintro (hz | ⟨g,hg',rfl,hi'⟩)
       · exact .inl hz
       · exact .inr ⟨g,List.mem_cons_of_mem _ hg',rfl,hi'⟩
     · rintro (hz | ⟨g,hg',rfl,hi'⟩)
       · exact .inl hz
       · rcases List.mem_cons.1 hg' with rfl | hg'
         · rw [hi'.1,hi'.2] at hc;cases hc
         · exact .inr ⟨g,hg',rfl,hi'⟩
   · rw [show Ze9 lo hi o h=insK o h.r by rw [Ze9,if_neg hc]]
     have hin:inK lo hi h.r:=by
      cases q1:Fl.less h.r.key lo <;> cases q2:Fl.less h.r.key hi <;> rw [q1,q2] at hc <;> first | exact ⟨q1,q2⟩ | exact absurd rfl hc
     obtain⟨a,b,c⟩:=ZmN l (insK o h.r) (fun x hx=>hl x (List.mem_cons_of_mem _ hx)) h1' (fun x hx=>by rcases Zdh.1 hx with rfl | hx;exact hgh;exact hg x hx) (Zkm hgh (fun x hx=>⟨hg x hx,hd x hx h List.mem_cons_self⟩) hp) (fun x hx g hg'=>by
      rcases Zdh.1 hx with rfl | hx
      · exact hh g hg'
      · exact hd x hx g (List.mem_cons_of_mem _ hg'))
     refine⟨a,b,fun z=>?_⟩
     rw [c z,Zdh]
     constructor
     · rintro ((rfl | hz) | ⟨g,hg',rfl,hi'⟩)
       · exact .inr ⟨h,List.mem_cons_self,rfl,hin⟩
       · exact .inl hz
       · exact .inr ⟨g,List.mem_cons_of_mem _ hg',rfl,hi'⟩
     · rintro (hz | ⟨g,hg',rfl,hi'⟩)
       · exact .inl (.inr hz)
       · rcases List.mem_cons.1 hg' with rfl | hg'
         · exact .inl (.inl rfl)
         · exact .inr ⟨g,hg',rfl,hi'⟩
theorem Zcj (hl : ∀ h ∈ l, ZdU h.r) (h1 : Zbs l) : (ZaD lo hi l).Pairwise upK ∧ (∀ x ∈ ZaD lo hi l, ZdU x) ∧ ∀ z, z ∈ ZaD lo hi l ↔ ∃ h ∈ l, h.r = z ∧ inK lo hi z := by
 obtain ⟨a, b, c⟩ := ZmN (lo := lo) (hi := hi) l [] hl h1 (fun x hx => by cases hx) List.Pairwise.nil (fun x hx => by cases hx)
 exact ⟨a, b, fun z => by rw [show ZaD lo hi l = l.foldl (Ze9 lo hi) [] from rfl, c z]; simp⟩
theorem Zji {mid:Nat}(hlo:lo<18446744073709551616)(hmid:mid<18446744073709551616)(hhi:hi<18446744073709551616)(h1:Fl.less mid lo=false)(h2:Fl.less hi mid=false)(hl:∀h∈l,ZdU h.r)(ho:Zbs l) :
    ZaD lo mid l ++ ZaD mid hi l=ZaD lo hi l:=by
  obtain⟨a1,b1,c1⟩:=Zcj (lo:=lo) (hi:=mid) hl ho
  obtain⟨a2,b2,c2⟩:=Zcj (lo:=mid) (hi:=hi) hl ho
  obtain⟨a3,b3,c3⟩:=Zcj (lo:=lo) (hi:=hi) hl ho
  have r1:=(Zc4 hmid hlo).1 h1
  have r2:=(Zc4 hhi hmid).1 h2
  refine ZhA (List.pairwise_append.2 ⟨a1,a2,fun x hx y hy=>?_⟩) a3 (fun z=>?_)
  · obtain⟨g,hg,rfl,hi1⟩:=(c1 x).1 hx
    obtain⟨g',hg',rfl,hi2⟩:=(c2 y).1 hy
    have p1:=(Zcg (b1 _ hx).fit hmid).1 hi1.2
    have p2:=(Zc4 (b2 _ hy).fit hmid).1 hi2.1
    show Fl.rk g.r.key<Fl.rk g'.r.key
    omega
  · rw [List.mem_append,c1 z,c2 z,c3 z]
    constructor
    · rintro (⟨g,hg,rfl,hi1⟩ | ⟨g,hg,rfl,hi1⟩)
      · have k:=(hl g hg).fit
        have p1:=(Zcg k hmid).1 hi1.2
        have:Fl.rk g.r.key<Fl.rk hi:=by omega
        exact⟨g,hg,rfl,hi1.1,(Zcg k hhi).2 this⟩
      · have k:=(hl g hg).fit
        have p1:=(Zc4 k hmid).1 hi1.1
        have:Fl.rk lo≤Fl.rk g.r.key:=by omega
        exact⟨g,hg,rfl,(Zc4 k hlo).2 this,hi1.2⟩
    · rintro ⟨g,hg,rfl,hi1⟩
      cases q:Fl.less g.r.key mid with
      | true=>exact .inl ⟨g,hg,rfl,hi1.1,q⟩
      | false=>exact .inr ⟨g,hg,rfl,q,hi1.2⟩
theorem Zht (hl:∀h∈l,ZdU h.r)(ho:Zbs l)(hi1:1≤i)(hi2:i<(ZaD lo hi l).length):Fl.less (ZaD lo hi l)[i-1].key (ZaD lo hi l)[i].key=true:=by
 obtain⟨a,b,_⟩:=Zcj (lo:=lo) (hi:=hi) hl ho
 exact(Zcg (b _ (List.getElem_mem _)).fit (b _ (List.getElem_mem _)).fit).2 (List.pairwise_iff_getElem.1 a (i-1) i (by omega) hi2 (by omega))
theorem Gl.good {D:Nat→Prop}{s:Sl}{L:List Lb}(h:Gl D w s L):∀g∈allH (lfs L),ZdU g.r:=by
 intro g hg
 obtain⟨h1,h2,h3⟩:=Zea.1 hg
 refine⟨(ZjK ?_ h3).key,(ZdX hg).1⟩
 have hm:lf (lfs L) g.i∈lfs L:=Zbw h1
 obtain⟨x,hx,hxe⟩:=List.mem_map.1 hm
 rw [← hxe] at h2 ⊢
 have hk:g.k<x.v.len:=by
  have e:(bss x.l).length=x.v.len:=by rw [Zah,(h.it x hx).2.len]
  rw [← e];exact h2
 exact((h.it x hx).2.at hk).1.came.bs.2.1
def ZcR (w : World) (p : Nat) (k0 k1 k2 : Nat) : Prop := w.heap[p]? = some (Obj.cells #[.float .f64 k0, .float .f64 k1, .float .f64 k2] 62 (0, 0))
theorem ZcR.keep {w w' : World} {p k0 k1 k2 : Nat} (h : ZcR w p k0 k1 k2) (hb : Below w.heap.size w w') : ZcR w' p k0 k1 k2 := (hb.block p (Array.getElem?_eq_some_iff.1 h).1).trans h
theorem ZcR.c0 {w : World} {p k0 k1 k2 : Nat} (h : ZcR w p k0 k1 k2) : w.cell? ⟨p, 0, none⟩ = some (.float .f64 k0) := by unfold ZcR at h; rw [cell_of_row _ _ _ _ _ _ h]; rfl
theorem ZcR.c1 {w : World} {p k0 k1 k2 : Nat} (h : ZcR w p k0 k1 k2) : w.cell? ⟨p, 1, none⟩ = some (.float .f64 k1) := by unfold ZcR at h; rw [cell_of_row _ _ _ _ _ _ h]; rfl
theorem ZcR.c2 {w : World} {p k0 k1 k2 : Nat} (h : ZcR w p k0 k1 k2) : w.cell? ⟨p, 2, none⟩ = some (.float .f64 k2) := by unfold ZcR at h; rw [cell_of_row _ _ _ _ _ _ h]; rfl
theorem Zj7 (w : World) (k0 k1 k2 : Nat) : ZcR (w.alloc (.cells #[.float .f64 k0, .float .f64 k1, .float .f64 k2] 62)) w.heap.size k0 k1 k2 := heap_alloc_new w _
theorem ixA0 (q : Nat) (w : World) : (Instr.indexAt 62 (.pointer (some ⟨q, 0, none⟩)) (.int .i64 0)).run Tryz.prog w = .ok (.pointer (some ⟨q, 0, none⟩)) w := by simp [go_sem, Instr.indexAt]
theorem ixA1 (q : Nat) (w : World) : (Instr.indexAt 62 (.pointer (some ⟨q, 0, none⟩)) (.int .i64 1)).run Tryz.prog w = .ok (.pointer (some ⟨q, 1, none⟩)) w := by simp [go_sem, Instr.indexAt]
theorem ixA2 (q : Nat) (w : World) : (Instr.indexAt 62 (.pointer (some ⟨q, 0, none⟩)) (.int .i64 2)).run Tryz.prog w = .ok (.pointer (some ⟨q, 2, none⟩)) w := by simp [go_sem, Instr.indexAt]
theorem Zmj (h : 1 ≤ i) (hi : i ≤ 1000000) (x y : Operand) (w : World) : (do eqGuard .sub 3 x y (.int .i64 (i : Int)) (.int .i64 1); binOp .sub 3 (.int .i64 (i : Int)) (.int .i64 1) : Sem Value).run Tryz.prog w = .ok (.int .i64 ((i - 1 : Nat) : Int)) w := by
 have e : IntKind.i64.wrap ((i : Int) - 1) = ((i - 1 : Nat) : Int) := by rw [IntKind.wrap_i64]; omega
 simp [go_sem, eqGuard, e]
theorem ZhU : ∀ args w, (callFunc 12 args).run Tryz.prog w = .ok (.enter 12 args) w := Pl.enters Tryz.func12 (by kernel_rfl) (by kernel_rfl)
theorem ZnF {F:Prop}(HS:Zll F)(w0 w:World)(s:Sl)(L:List Lb)(hg:Gl (fun _=>True) w0 s L)(hm:MayH (lfs L))(p k0 k1 k2:Nat)(hk0:k0<18446744073709551616)(hk1:k1<18446744073709551616)(hk2:k2<18446744073709551616)(hk:ZcR w0 p k0 k1 k2)(hW:Below w0.heap.size w0 w)
    {Q:Exit→Act→World→Prop}{A:Act}(hsz:A.tmps.size=79)(hdf:A.defers=[])(s0:A.tmps.getD 0 undef=s.val)(s3:A.tmps.getD 3 undef=.pointer (some ⟨p,0,none⟩))
    (hend:∀(u:Nat→Value)(s1:Sl)(l1:List Rx)(s2:Sl)(l2:List Rx) w',Zb2 w' s1 l1→rws l1=ZaD k0 k1 (allH (lfs L))→Zb2 w' s2 l2→rws l2=ZaD k1 k2 (allH (lfs L))→Below w0.heap.size w0 w'→Q .normal (((((((((((((((A).put (some 32) (u 32)).put (some 33) (u 33)).put (some 34) (u 34)).put (some 35) (u 35)).put (some 36) (u 36)).put (some 38) (u 38)).put (some 39) (u 39)).put (some 40) (u 40)).put (some 41) (u 41)).put (some 42) (u 42)).put (some 37) (u 37)).put (some 43) (u 43)).put (some 5) (.slice s1.a s1.len s1.cap)).put (some 6) (.slice s2.a s2.len s2.cap)) w') :
    (Code.region 3 (Pl.find 3 ((Tryz.f7.body).getD .skip)) true).wp Tryz.prog Q A w:=by
  have hS0:Below w0.heap.size w0 w.drew:=hW.drew
  have hA:=Pl.At.same (v:=.pointer (some ⟨p,0,none⟩)) (d:=3) (Pl.At.same (v:=s.val) (d:=0) (Pl.At.here hsz hdf) s0) s3
  refine Pl.qa (S:=fun w'=>Below w0.heap.size w0 w') hA hS0 ?_
  rw [show (Pl.find 3 ((Tryz.f7.body).getD .skip)).size=14 by kernel_rfl]
  refine Pl.q0 0 32 (s.val) (Pl.q1) (Pl.q2 (.tmp 0)) hS0 ?_
  refine Pl.q0 1 33 (.pointer (some ⟨p,0,none⟩)) (Pl.q1) (Pl.qb 62 (.tmp 3) (.const (.int .i64 0)) (ixA0 p)) hS0 ?_
  refine Pl.q0 2 34 (.float .f64 k0) (Pl.q1) (Pl.q4 23 (.tmp 33) (fun w' hS=>ZaN (hk.keep hS).c0)) hS0 ?_
  refine Pl.q0 3 35 (.pointer (some ⟨p,1,none⟩)) (Pl.q1) (Pl.qb 62 (.tmp 3) (.const (.int .i64 1)) (ixA1 p)) hS0 ?_
  refine Pl.q0 4 36 (.float .f64 k1) (Pl.q1) (Pl.q4 23 (.tmp 35) (fun w' hS=>ZaN (hk.keep hS).c1)) hS0 ?_
  refine Pl.q0 6 38 (s.val) (Pl.q1) (Pl.q2 (.tmp 0)) hS0 ?_
  refine Pl.q0 7 39 (.pointer (some ⟨p,1,none⟩)) (Pl.q1) (Pl.qb 62 (.tmp 3) (.const (.int .i64 1)) (ixA1 p)) hS0 ?_
  refine Pl.q0 8 40 (.float .f64 k1) (Pl.q1) (Pl.q4 23 (.tmp 39) (fun w' hS=>ZaN (hk.keep hS).c1)) hS0 ?_
  refine Pl.q0 9 41 (.pointer (some ⟨p,2,none⟩)) (Pl.q1) (Pl.qb 62 (.tmp 3) (.const (.int .i64 2)) (ixA2 p)) hS0 ?_
  refine Pl.q0 10 42 (.float .f64 k2) (Pl.q1) (Pl.q4 23 (.tmp 41) (fun w' hS=>ZaN (hk.keep hS).c2)) hS0 ?_
  refine Pl.qd 5 37 12 [(.tmp 32),(.tmp 34),(.tmp 36)] #[22,23,23] (Pl.q1) ZhU (Calls.mono (HS.rows w.drew s L k0 k1 (hg.below hS0 (Nat.le_refl _)) hk0 hk1 hm) ?_)
  rintro e w1 ⟨hb1,s1,l1,rfl,hri1,hrl1⟩
  have hS1:Below w0.heap.size w0 w1:=Zab hS0 hb1
  refine⟨.slice s1.a s1.len s1.cap,rfl,hS1,?_⟩
  refine Pl.qd 11 43 12 [(.tmp 38),(.tmp 40),(.tmp 42)] #[22,23,23] (Pl.q1) ZhU (Calls.mono (HS.rows w1 s L k1 k2 (hg.below hS1 (Nat.le_refl _)) hk1 hk2 hm) ?_)
  rintro e w2 ⟨hb2,s2,l2,rfl,hri2,hrl2⟩
  have hS2:Below w0.heap.size w0 w2:=Zab hS1 hb2
  have hri1:=hri1.keep hb2
  refine⟨.slice s2.a s2.len s2.cap,rfl,hS2,?_⟩
  refine Pl.q0 12 5 (.slice s1.a s1.len s1.cap) (Pl.q1) (Pl.qf (.tmp 37)) hS2 ?_
  refine Pl.q0 13 6 (.slice s2.a s2.len s2.cap) (Pl.q1) (Pl.qf (.tmp 43)) hS2 ?_
  refine Pl.q7 (fun A' hA'=>?_)
  rw [Pl.At.ext hA' ((((((((((((((hA.put 32 _).put 33 _).put 34 _).put 35 _).put 36 _).put 38 _).put 39 _).put 40 _).put 41 _).put 42 _).put 37 _).put 43 _).put 5 _).put 6 _)]
  exact hend hA'.fn s1 l1 s2 l2 _ hri1 hrl1 hri2 hrl2 hS2
theorem ZnG (w0 w:World)(b off len c i:Nat)(hi1:1≤i)(hi2:i≤1000000)(hi:i<len)(x y:Rx)(hx:RwAt w0 b (off+(i-1)*6) x)(hy:RwAt w0 b (off+i*6) y)(hxf:x.r.key<18446744073709551616)(hyf:y.r.key<18446744073709551616)(h:Fl.less x.r.key y.r.key=true)(hW:Below w0.heap.size w0 w)
    {Q:Exit→Act→World→Prop}{A:Act}(hsz:A.tmps.size=79)(hdf:A.defers=[])(s7:A.tmps.getD 7 undef=.slice (some ⟨b,off,none⟩) len c)(s8:A.tmps.getD 8 undef=.int .i64 (i:Int))
    (hend:∀(u:Nat→Value) w',Below w0.heap.size w0 w'→Q .normal ((((((((((((((A).put (some 56) (u 56)).put (some 57) (u 57)).put (some 58) (u 58)).put (some 59) (u 59)).put (some 60) (u 60)).put (some 61) (u 61)).put (some 62) (u 62)).put (some 63) (u 63)).put (some 64) (u 64)).put (some 65) (u 65)).put (some 66) (u 66)).put (some 67) (u 67)).put (some 68) (.bool false)) w') :
    (Code.region 8 (Pl.find 8 ((Tryz.f7.body).getD .skip)) true).wp Tryz.prog Q A w:=by
  have hS0:Below w0.heap.size w0 w.drew:=hW.drew
  have hA:=Pl.At.same (v:=.int .i64 (i:Int)) (d:=8) (Pl.At.same (v:=.slice (some ⟨b,off,none⟩) len c) (d:=7) (Pl.At.here hsz hdf) s7) s8
  refine Pl.qa (S:=fun w'=>Below w0.heap.size w0 w') hA hS0 ?_
  rw [show (Pl.find 8 ((Tryz.f7.body).getD .skip)).size=13 by kernel_rfl]
  refine Pl.q0 0 56 (.slice (some ⟨b,off,none⟩) len c) (Pl.q1) (Pl.q2 (.tmp 7)) hS0 ?_
  refine Pl.q0 1 57 (.int .i64 (i:Int)) (Pl.q1) (Pl.q2 (.tmp 8)) hS0 ?_
  refine Pl.q0 2 58 (.int .i64 ((i-1:Nat):Int)) (Pl.q1) (Pl.qc .sub 3 3 (.tmp 57) (.const (.int .i64 1)) (.int .i64 (i:Int)) (.int .i64 1) (Zmj hi1 hi2 _ _)) hS0 ?_
  refine Pl.q0 3 59 (.pointer (some ⟨b,off+(i-1)*6,none⟩)) (Pl.q1) (Pl.qb 38 (.tmp 56) (.tmp 58) (Zbv b off len c (i-1) (by omega))) hS0 ?_
  refine Pl.q0 4 60 (.pointer (some ⟨b,off+(i-1)*6,none⟩)) (Pl.q1) (Pl.q5 33 (.tmp 59) 0 (ZiC b (off+(i-1)*6))) hS0 ?_
  refine Pl.q0 5 61 (.float .f64 x.r.key) (Pl.q1) (Pl.q4 23 (.tmp 60) (fun w' hS=>ZaN (hx.keep hS (Nat.le_refl _)).c0)) hS0 ?_
  refine Pl.q0 6 62 (.slice (some ⟨b,off,none⟩) len c) (Pl.q1) (Pl.q2 (.tmp 7)) hS0 ?_
  refine Pl.q0 7 63 (.int .i64 (i:Int)) (Pl.q1) (Pl.q2 (.tmp 8)) hS0 ?_
  refine Pl.q0 8 64 (.pointer (some ⟨b,off+i*6,none⟩)) (Pl.q1) (Pl.qb 38 (.tmp 62) (.tmp 63) (Zbv b off len c i hi)) hS0 ?_
  refine Pl.q0 9 65 (.pointer (some ⟨b,off+i*6,none⟩)) (Pl.q1) (Pl.q5 33 (.tmp 64) 0 (ZiC b (off+i*6))) hS0 ?_
  refine Pl.q0 10 66 (.float .f64 y.r.key) (Pl.q1) (Pl.q4 23 (.tmp 65) (fun w' hS=>ZaN (hy.keep hS (Nat.le_refl _)).c0)) hS0 ?_
  refine Pl.qd 11 67 31 [(.tmp 61),(.tmp 66)] #[23,23] (Pl.q1) Zly (Calls.mono (Zes h hxf hyf w.drew) ?_)
  rintro e w1 ⟨rfl,hb1⟩
  have hS1:Below w0.heap.size w0 w1:=Zab hS0 hb1
  refine⟨.bool true,rfl,hS1,?_⟩
  refine Pl.q0 12 68 (.bool false) (Pl.q1) (Pl.qq 4 (.tmp 67) true) hS1 ?_
  refine Pl.q7 (fun A' hA'=>?_)
  rw [Pl.At.ext hA' (((((((((((((hA.put 56 _).put 57 _).put 58 _).put 59 _).put 60 _).put 61 _).put 62 _).put 63 _).put 64 _).put 65 _).put 66 _).put 67 _).put 68 _)]
  exact hend hA'.fn _ hS1
theorem ZjW {l : List Rw} {i : Nat} (h : i < l.length) (d : Rw) : l.getD i d = l[i] := by simp [List.getD, h]
theorem ZmB {s1 s2:Sl}{l1 l2:List Rx}(h1:Zb2 w s1 l1)(h2:Zb2 w s2 l2)(hb:s1.len+s2.len≤1000000) :
    ∃sa Wa sb Wb,(∀ty,(Builtin.append_ #[38,38] ty #[.slice (some ⟨w.heap.size,0,none⟩) 0 0,.slice s1.a s1.len s1.cap]).run Tryz.prog (w.alloc (.cells #[] 33))=.ok (Sl.val sa) Wa) ∧
     (∀ty,(Builtin.append_ #[38,38] ty #[Sl.val sa,.slice s2.a s2.len s2.cap]).run Tryz.prog Wa=.ok (Sl.val sb) Wb)∧Zb2 Wb sb (l1 ++ l2)∧Below w.heap.size w Wa∧Below w.heap.size w Wb:=by
 have hA:=Zaa w (.cells #[] 33)
 have hq:=Rq.new0 w w (Below.refl _ _)
 have h1':=h1.keep hA
 obtain⟨sa,Wa,hra,hqa,_⟩:=hq.app (h1'.rz.src (c:=s1.cap) (fun e=>⟨by have:=h1.nil e;have:=h1.le;omega,h1.nil e⟩)) h1.rz.len (fun y hy=>(h1'.flt y hy).colR w) (fun y hy=>h1.rz.fits y hy) (by rw [h1.rz.len];simp only [List.length_nil];omega)
 have h2':=h2.keep hqa.below
 obtain⟨sb,Wb,hrb,hqb,_⟩:=hqa.app (h2'.rz.src (c:=s2.cap) (fun e=>⟨by have:=h2.nil e;have:=h2.le;omega,h2.nil e⟩)) h2.rz.len (fun y hy=>(h2'.flt y hy).colR w) (fun y hy=>h2.rz.fits y hy) (by rw [List.nil_append,h1.rz.len,h2.rz.len];exact hb)
 rw [List.nil_append] at hqb
 refine⟨sa,Wa,sb,Wb,hra,hrb,hqb.rows (fun y hy=>?_),hqa.below,hqb.below⟩
 rcases List.mem_append.1 hy with hy | hy
 · exact(h1.flt y hy).keep hqb.below
 · exact(h2.flt y hy).keep hqb.below
theorem Zn6 {F:Prop}(HS:Zll F)(w:World)(s:Sl)(L:List Lb)(h:InL w s L)(k0 k1 k2:Nat)(hk0:k0<18446744073709551616)(hk1:k1<18446744073709551616)(hk2:k2<18446744073709551616) :
    Calls Tryz.prog 7 #[s.val,.agg #[.float .f64 k0,.float .f64 k1,.float .f64 k2]] w fun e w'=>e=.returned (.bool true)∧Below w.heap.size w w':=by
  have hsf:∀(w:World) (a:Addr) (m:Mode) (x:Nat),(store a (.float .f64 x) m).run Tryz.prog w=stored Tryz.prog w a (.float .f64 x) m:=fun w a m x=>run_store Tryz.prog w a _ m rfl
  have hA:=Zaa w (.cells #[.float .f64 k0,.float .f64 k1,.float .f64 k2] 62)
  have hK:=Zj7 w k0 k1 k2
  obtain⟨W0,hW0⟩:∃W0,W0=w.alloc (.cells #[.float .f64 k0,.float .f64 k1,.float .f64 k2] 62):=⟨_,rfl⟩
  rw [← hW0] at hA hK
  have HK:=hide hK
  have HA:=hide hA
  have HH:=hide HS
  have hIn:InL W0 s L:=⟨h.len,h.nil,h.le,h.big,fun i hi=>by obtain ⟨b,off,ha,c0,c1⟩:=h.cell i hi;exact ⟨b,off,ha,Zak c0 hA,Zak c1 hA⟩,fun x hx=>⟨⟨(h.it x hx).1.len,(h.it x hx).1.nil,(h.it x hx).1.le,(h.it x hx).1.big,fun i hi=>by obtain ⟨b,off,ha,c0⟩:=(h.it x hx).1.cell i hi;exact ⟨b,off,ha,Zak c0 hA⟩⟩,⟨(h.it x hx).2.len,(h.it x hx).2.nil,(h.it x hx).2.le,(h.it x hx).2.big,fun i hi=>by obtain ⟨b,off,ha,c0⟩:=(h.it x hx).2.cell i hi;exact ⟨b,off,ha,Zak c0 hA⟩,fun q hq=>((h.it x hx).2.bs q hq).keep hA (Nat.le_refl _)⟩⟩⟩
  have HIN:=hide hIn
  have HLT:=hide (ZiU W0 s L hIn)
  have HWE:=hide hW0
  have HK0:=hide hk0
  have HK1:=hide hk1
  have HK2:=hide hk2
  obtain⟨a,len,cap⟩:=s
  clear h hA hK hIn HS hW0 hk0 hk1 hk2
  unfold Sl.val at *
  simp only at *
  go_enter Tryz.func7,Tryz.ntmps7
  go_wp2_with fail
  rw [← HWE.out]
  refine HLT.out.mono ?_
  rintro e w1 ⟨hl | ⟨hl8,hlp,hl⟩,hb1⟩
  · subst hl
    have HB1:=hide (Zab HA.out hb1)
    clear hb1 HLT
    have HAW:=hide (Zb3 HH.out w1)
    go_wp2_with fail
    refine HAW.out.mono ?_
    rintro e w2 ⟨rfl,hb2⟩
    have HB2:=hide (Zab HB1.out hb2)
    clear hb2
    go_wp2_with fail
    go_ret
    exact⟨rfl,HB2.out⟩
  · subst hl
    have HB1:=hide (Zab HA.out hb1)
    have HG1:=hide ((InL.gl HIN.out hl8 hlp).below hb1 (Nat.le_refl _))
    have HK1':=hide (HK.out.keep hb1)
    have HMY:=hide (ZkM w1 ⟨a,len,cap⟩ L HG1.out)
    unfold Sl.val at HMY
    simp only at HMY
    clear hb1 HLT hl8 hlp HIN
    go_wp2_with fail
    refine HMY.out.mono ?_
    rintro e w2 ⟨⟨bm,rfl,hbm⟩,hb2⟩
    have HB2:=hide (Zab HB1.out hb2)
    have HG2:=hide (HG1.out.below hb2 (Nat.le_refl _))
    have hK2:=HK1'.out.keep hb2
    have HK2':=hide hK2
    have c0:=hK2.c0
    have c1:=hK2.c1
    have hs2:=(Array.getElem?_eq_some_iff.1 hK2).1
    have HBM:=hide hbm
    clear hb2 hbm HMY hK2 HG1 HK1'
    cases bm with
    | false =>
     have HAW:=hide (Zb3 HH.out w2)
     go_wp2_with fail
     refine HAW.out.mono ?_
     rintro e w3 ⟨rfl,hb3⟩
     have HB3:=hide (Zab HB2.out hb3)
     clear hb3
     go_wp2_with fail
     go_ret
     exact⟨rfl,HB3.out⟩
    | true =>
     have HM:Hid (MayH (lfs L)):=HBM.out.1 rfl
     cases hq1:Fl.less k1 k0 with
     | true =>
      have HL1:=hide (Zes hq1 HK1.out HK0.out w2)
      go_wp2_with fail
      refine HL1.out.mono ?_
      rintro e w3 ⟨rfl,hb3⟩
      have HB3:=hide (Zab HB2.out hb3)
      clear hb3
      have HAW:=hide (Zb3 HH.out w3)
      go_wp2_with fail
      refine HAW.out.mono ?_
      rintro e w4 ⟨rfl,hb4⟩
      have HB4:=hide (Zab HB3.out hb4)
      clear hb4
      go_wp2_with fail
      go_ret
      exact⟨rfl,HB4.out⟩
     | false =>
      have HL1:=hide (Zes hq1 HK1.out HK0.out w2)
      have HQ1:=hide hq1
      clear hq1
      go_wp2_with fail
      refine HL1.out.mono ?_
      rintro e w3 ⟨rfl,hb3⟩
      have HB3:=hide (Zab HB2.out hb3)
      have HG3:=hide (HG2.out.below hb3 (Nat.le_refl _))
      have hK3:=HK2'.out.keep hb3
      have HK3:=hide hK3
      have c1:=hK3.c1
      have c2:=hK3.c2
      clear hb3 c0 hs2 hK3 HG2 HK2' HL1
      cases hq2:Fl.less k2 k1 with
      | true =>
       have HL2:=hide (Zes hq2 HK2.out HK1.out w3)
       go_wp2_with fail
       refine HL2.out.mono ?_
       rintro e w4 ⟨rfl,hb4⟩
       have HB4:=hide (Zab HB3.out hb4)
       clear hb4
       have HAW:=hide (Zb3 HH.out w4)
       go_wp2_with fail
       refine HAW.out.mono ?_
       rintro e w5 ⟨rfl,hb5⟩
       have HB5:=hide (Zab HB4.out hb5)
       clear hb5
       go_wp2_with fail
       go_ret
       exact⟨rfl,HB5.out⟩
      | false =>
       have HL2:=hide (Zes hq2 HK2.out HK1.out w3)
       have HQ2:=hide hq2
       clear hq2
       go_wp2_with fail
       refine HL2.out.mono ?_
       rintro e w4 ⟨rfl,hb4⟩
       have HB4:=hide (Zab HB3.out hb4)
       have HG4:=hide (HG3.out.below hb4 (Nat.le_refl _))
       have HK4:=hide (HK3.out.keep hb4)
       clear hb4 c1 c2 HG3 HK3 HL2
       go_wp2_with fail
       refine Pl.q9 (ops:=Pl.find 3 ((Tryz.f7.body).getD .skip)) ?_
       refine ZnF HH.out w4 w4 ⟨a,len,cap⟩ L HG4.out HM.out w.heap.size k0 k1 k2 HK0.out HK1.out HK2.out HK4.out (Below.refl _ _) (by rfl) (by rfl) (by rfl) (by rfl) ?_
       intro u s1 l1 s2 l2 w5 hr1 hl1 hr2 hl2 hb5
       simp only [Act.put,List.setIfInBounds_toArray,List.set_cons_zero,List.set_cons_succ]
       have HB5:=hide (Zab HB4.out hb5)
       have HG5:=hide (HG4.out.below hb5 (Nat.le_refl _))
       have hK5:=HK4.out.keep hb5
       have HR1:=hide hr1
       have HR2:=hide hr2
       have HL1':=hide hl1
       have HL2':=hide hl2
       have c0:=hK5.c0
       have c2:=hK5.c2
       have HRO:=hide (HH.out.rows w5 ⟨a,len,cap⟩ L k0 k2 HG5.out HK0.out HK2.out HM.out)
       unfold Sl.val at HRO
       simp only at HRO
       clear hb5 hr1 hr2 hl1 hl2 hK5 HG4 HK4
       go_wp2_with fail
       refine HRO.out.mono ?_
       rintro e w6 ⟨hb6,⟨ra,rn,rc⟩,l3,rfl,hr3,hl3⟩
       have HB6:=hide (Zab HB5.out hb6)
       have HR1':=hide (HR1.out.keep hb6)
       have HR2':=hide (HR2.out.keep hb6)
       have HR3:=hide hr3
       have HL3:=hide hl3
       have HGD:=hide HG5.out.good
       have HAL:=hide HG5.out.allLen
       have hrn:rn≤900000:=by
        have q1:=hr3.rz.len
        have q2:=congrArg List.length hl3
        have q3:=Zjh k0 k2 (allH (lfs L))
        have q4:=HAL.out
        rw [Zcn] at q2
        simp only at q1
        omega
       clear hb6 hr3 hl3 HRO HR1 HR2 c0 c2
       go_wp2_with fail
       go_loopw [8] (fun iv wr=>∃i:Nat,1≤i∧i≤rn+1∧iv=.int .i64 (i:Nat)∧Hid (Below w6.heap.size w6 wr)) (fun iv _=>rn+1-(intOf iv).toNat)
       case atStart=>exact ⟨1,Nat.le_refl _,by omega,rfl,Below.refl _ _⟩
       case round =>
        obtain⟨i,hi1,hi,rfl,hW⟩:=hrel
        rcases Nat.lt_or_ge i rn with hlt | hge
        · have j1:(i:Int)<(rn:Int):=by omega
          have hr:=HR3.out.rz.keep hW.out (Nat.le_refl _)
          obtain⟨b,off,ha,hx⟩:=hr.at' (i-1) (by show i-1<rn;omega)
          obtain⟨b2,off2,ha2,hy⟩:=hr.at' i hlt
          replace ha:ra=some ⟨b,off,none⟩:=ha
          replace ha2:ra=some ⟨b2,off2,none⟩:=ha2
          subst ha
          cases ha2
          have hfx:=(hr.fits _ (hr.mem (j:=i-1) (by show i-1<rn;omega))).key
          have hfy:=(hr.fits _ (hr.mem hlt)).key
          have hlen:(ZaD k0 k2 (allH (lfs L))).length=rn:=by rw [← HL3.out,Zcn];exact hr.len
          have hnx:Fl.less (l3.getD (i-1) Rx.zero).r.key (l3.getD i Rx.zero).r.key=true:=by
           have q:=Zht (lo:=k0) (hi:=k2) HGD.out HM.out.keys hi1 (by rw [hlen];exact hlt)
           have e1:(l3.getD (i-1) Rx.zero).r=(ZaD k0 k2 (allH (lfs L)))[i-1]'(by rw [hlen];omega):=by rw [← ZfV,HL3.out];exact ZjW _ _
           have e2:(l3.getD i Rx.zero).r=(ZaD k0 k2 (allH (lfs L)))[i]'(by rw [hlen];omega):=by rw [← ZfV,HL3.out];exact ZjW _ _
           rw [e1,e2]
           exact q
          have HX:=hide hx
          have HY:=hide hy
          have HNX:=hide hnx
          clear hr hx hy hnx hlen
          go_wp2_with fail
          refine Pl.q9 (ops:=Pl.find 8 ((Tryz.f7.body).getD .skip)) ?_
          refine ZnG wr wr b off rn rc i hi1 (by omega) hlt _ _ HX.out HY.out hfx hfy HNX.out (Below.refl _ _) (by rfl) (by rfl) (by rfl) (by rfl) ?_
          intro u w7 hb7
          simp only [Act.put,List.setIfInBounds_toArray,List.set_cons_zero,List.set_cons_succ]
          have HW7:=hide (Zab hW.out hb7)
          clear hb7
          go_wp2_with fail
          go_roundw
          case rel=>exact ⟨i+1,by omega,by omega,by go_num,HW7⟩
          case measure=>simp only [intOf];omega
        · have j1:¬(i:Int)<(rn:Int):=by omega
          have HB7:=hide (Zab HB6.out hW.out)
          have hR1:=HR1'.out.keep hW.out
          have hR2:=HR2'.out.keep hW.out
          have HR3':=hide (HR3.out.keep hW.out)
          have he:rws (l1 ++ l2)=rws l3:=by
           rw [HL3.out,← Zji HK0.out HK1.out HK2.out HQ1.out HQ2.out HGD.out HM.out.keys,← HL1'.out,← HL2'.out]
           simp [rws]
          have hbig:s1.len+s2.len≤900000:=by
           have q:=congrArg List.length he
           rw [Zcn,Zcn,List.length_append,hR1.rz.len,hR2.rz.len,HR3.out.rz.len] at q
           simp only at q
           omega
          obtain⟨sa,Wa,sb,Wb,hra,hrb,hrs,hba,hbb⟩:=ZmB hR1 hR2 (by omega)
          have HRA:=hide hra
          have HRB:=hide hrb
          have HB8:=hide (Zab HB7.out hbb)
          have hlen2:sb.len≤1000000:=by
           have q:=hrs.rz.len
           rw [List.length_append,hR1.rz.len,hR2.rz.len] at q
           omega
          have HRS:=hide (ZfU Wb sb ⟨ra,rn,rc⟩ (l1 ++ l2) l3 hrs (HR3'.out.keep hbb) he hlen2)
          unfold Sl.val at HRA HRB
          simp only at HRS
          clear hra hrb hrs hba hbb hR1 hR2 he hbig hlen2 hW
          go_wp2_with (first | (at_builtin;refine Zaj _ rfl 38 (.tmp 69) (.tmp 70) rfl (.slice (some ⟨wr.heap.size,0,none⟩) 0 0) (.slice s1.a s1.len s1.cap) (.slice sa.a sa.len sa.cap) rfl rfl Wa HRA.out ?_) | (at_builtin;refine Zaj _ rfl 38 (.tmp 71) (.tmp 72) rfl (.slice sa.a sa.len sa.cap) (.slice s2.a s2.len s2.cap) (.slice sb.a sb.len sb.cap) rfl rfl Wb HRB.out ?_))
          refine HRS.out.mono ?_
          rintro e w9 ⟨rfl,hb9⟩
          have HB9:=hide (Zab HB8.out hb9)
          clear hb9
          have HAW:=hide (Zb3 HH.out w9)
          go_wp2_with fail
          refine HAW.out.mono ?_
          rintro e w10 ⟨rfl,hb10⟩
          have HB10:=hide (Zab HB9.out hb10)
          clear hb10
          go_wp2_with fail
          go_ret
          exact⟨rfl,HB10.out⟩
open Go.ChangeShapes Go.WideShapes Go.ChangeAt Go.RowKit
section
variable {H : Type} {enc : TypeId × Value → H} {w : World} {base : Nat} {spare : Nat → Bool} {held : Bool}
theorem Zoq {r:Reach}{b0:Nat}{v:Value}{d:DataW H}{p:List MemPlace}(hv:Value.okWide Tryz.prog w r b0 62 v)(h:DataW.Trod enc Tryz.prog w base spare held 62 v d p) :
    ∃x0 x1 x2:Nat,v=.agg #[.float .f64 x0,.float .f64 x1,.float .f64 x2]∧x0<18446744073709551616∧x1<18446744073709551616∧x2<18446744073709551616:=by
  have hu:Tryz.prog.underlying 62=some (.array 3 23):=by kernel_rfl
  have hC:Tryz.prog.cellsOf 62=3:=by kernel_rfl
  have h1:Tryz.prog.cellsOf 23=1:=by kernel_rfl
  simp only [Value.okWide,hu] at hv
  obtain⟨cs,rfl,hsz,_⟩:=hv
  rw [hC] at hsz
  obtain⟨l⟩:=cs
  match l,hsz with
  | [c0,c1,c2],_ =>
   obtain⟨fuel,hf⟩:=h
   obtain⟨xs,m,_,_,_,hlen,hfd⟩:=DataW.trod_array hu hf
   match xs,hlen with
   | [y0,y1,y2],_ =>
    have t0:DataW.trod enc Tryz.prog w base spare held m 23 [c0]=some y0:=by simpa [Value.cells,h1] using hfd 0 (by omega)
    obtain⟨k0,e0,l0⟩:=Zd3 t0
    have t1:DataW.trod enc Tryz.prog w base spare held m 23 [c1]=some y1:=by simpa [Value.cells,h1] using hfd 1 (by omega)
    obtain⟨k1,e1,l1⟩:=Zd3 t1
    have t2:DataW.trod enc Tryz.prog w base spare held m 23 [c2]=some y2:=by simpa [Value.cells,h1] using hfd 2 (by omega)
    obtain⟨k2,e2,l2⟩:=Zd3 t2
    subst e0 e1 e2
    exact⟨k0,k1,k2,rfl,l0,l1,l2⟩
end
end Go.Proofs.YtdojdcncncgncaaGreat
