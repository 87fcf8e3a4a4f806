/-
  Lemmas.
-/
import Derived.Test.YtdojdcncncgncaaGreatKfbf
import Derived.Test.YtdojdcncncgncaaGreatKfbd
import Derived.Test.YtdojdcncncgncaaGreatKfaj
namespace Go.Proofs.YtdojdcncncgncaaGreat
open Go.RowKit
set_option linter.unusedVariables false
set_option maxRecDepth 100000
set_option maxHeartbeats 4000000
variable {w w0:World}{b a bA bR:Nat}{r:Rw}
open Go.RowKit Go.Sort Go.Lib
theorem Zj7 (w0 W:World)(blk off m cap:Nat)(d:Array Int)(h:Sq w0 blk off m W d)(hm:m<1000000) :
    Calls Tryz.prog 112 #[.slice (some ⟨blk,off,none⟩) m cap] W (SoS w0 blk off m 0 m d):=by
  have hlen:Hid (∀V,Calls Tryz.prog 80 #[.int .u64 (m:Nat)] V fun e w'=>e=.returned (.int .i64 (Lib.bitLen m:Nat))∧w'=V):=by
   intro V
   have hc:=Go.Proofs.Any.bits_Len (SlLaysF0.n15.bits (P:=Tryz.prog) (ρ:=ZaW) { Zj8 with }) (m:Int) V (by omega) (by omega)
   rwa [Int.toNat_natCast] at hc
  have hll:Lib.bitLen m<1000000:=Nat.lt_of_le_of_lt (Lib.bitLen_le m 62 (by omega) (by omega)) (by omega)
  have HC:=hide (ZkU w0 blk off m cap hm m W 0 m (Lib.bitLen m) d (by omega) h (Nat.zero_le _) (Nat.le_refl _) hll (.inl rfl))
  have HC2:Hid (Calls Tryz.prog 144 #[.slice (some ⟨blk,off,none⟩) m cap,.int .i64 0,.int .i64 (m:Nat),.int .i64 (Lib.bitLen m:Nat)] W (SoS w0 blk off m 0 m d)):=HC
  have wr:IntKind.u64.wrap (m:Int)=m:=by simp [IntKind.wrap,IntKind.bits,IntKind.signed];omega
  clear h HC hll
  generalize Lib.bitLen m=bl at *
  go_enter Tryz.func112,Tryz.ntmps112
  go_wp2_with fail
  refine(hlen.out _).mono ?_
  rintro e w' ⟨rfl,hw⟩
  obtain rfl:=hw.symm
  go_wp2_with fail
  refine HC2.out.mono ?_
  rintro e w1 ⟨rfl,hs1⟩
  have HS:=hide hs1
  clear hs1 HC2
  go_wp2_with fail
  go_end0
  exact⟨rfl,HS.out⟩
theorem ZhK (W:World):Calls Tryz.prog 112 #[.slice none 0 0] W fun e w'=>e=.returned (.tuple #[])∧w'=W:=by
 have hlen:Hid (∀V,Calls Tryz.prog 80 #[.int .u64 0] V fun e w'=>e=.returned (.int .i64 0)∧w'=V):=by
  intro V
  have hc:=Go.Proofs.Any.bits_Len (SlLaysF0.n15.bits (P:=Tryz.prog) (ρ:=ZaW) { Zj8 with }) 0 V (by omega) (by omega)
  exact hc
 have hI:Hid (∀V,Calls Tryz.prog 162 #[.slice none 0 0,.int .i64 0,.int .i64 0] V fun e w'=>e=.returned (.tuple #[])∧w'=V):=by
  intro V
  go_enter Tryz.func162,Tryz.ntmps162
  go_wp2_with fail
  refine wp_loop_rounds 1 ?_
  rw [rounds_succ]
  go_wp2_with fail
  go_end0
  exact⟨rfl,rfl⟩
 have hP:Hid (∀V,Calls Tryz.prog 144 #[.slice none 0 0,.int .i64 0,.int .i64 0,.int .i64 0] V fun e w'=>e=.returned (.tuple #[])∧w'=V):=by
  intro V
  go_enter Tryz.func144,Tryz.ntmps144
  go_wp2_with fail
  refine wp_loop_rounds 1 ?_
  rw [rounds_succ]
  go_wp2_with fail
  refine(hI.out _).mono ?_
  rintro e w' ⟨rfl,hw⟩
  obtain rfl:=hw.symm
  go_wp2_with fail
  (try simp only [Exit.inBlock,Exit.then]);refine bodyPost_ret (results_none rfl _ _ _) rfl ?_
  exact⟨rfl,rfl⟩
 go_enter Tryz.func112,Tryz.ntmps112
 go_wp2_with fail
 refine(hlen.out _).mono ?_
 rintro e w' ⟨rfl,hw⟩
 obtain rfl:=hw.symm
 go_wp2_with fail
 refine(hP.out _).mono ?_
 rintro e w1 ⟨rfl,hw⟩
 obtain rfl:=hw.symm
 go_wp2_with fail
 go_end0
 exact⟨rfl,rfl⟩
theorem ZgH (d : List Int) (j : Nat) (h0 : 0 < j) (hj : j < d.length) : keeps d.toArray j = true ↔ d[j] ≠ d[j - 1]'(by omega) := by
 unfold keeps
 rw [decide_eq_true_eq, getElem!_pos d.toArray j (by simpa using hj), getElem!_pos d.toArray (j - 1) (by simp; omega)]
 simp only [List.getElem_toArray]
 constructor
 · rintro (h | h)
   · omega
   · exact h
 · exact .inr
theorem Zfi (D ks:List Int)(hp:D.Perm ks)(hle:∀i j (hij:i<j)(hj:j<D.length),D[i]'(by omega)≤D[j]):decide ((compactUpTo D.toArray D.toArray.size).length<ks.length) = !decide ks.Nodup:=by
 have hlen:=hp.length_eq
 have hsz:D.toArray.size=ks.length:=by simp [hlen]
 rw [hsz]
 by_cases hall:∀j,j<ks.length→keeps D.toArray j=true
 · have hn:ks.Nodup:=by
    rw [← hp.nodup_iff]
    refine List.pairwise_iff_getElem.2 fun i j hi hj hij=>?_
    have hk:=(ZgH D j (by omega) hj).1 (hall j (by rw [← hlen];exact hj))
    have h2:=hle (j-1) j (by omega) hj
    by_cases e:i=j-1
    · subst e;exact fun h=>hk h.symm
    · have h1:=hle i (j-1) (by omega) (by omega)
      intro h
      omega
   rw [compactUpTo_all _ _ hall]
   simp [hn]
 · have hn:¬ks.Nodup:=by
    intro hn
    apply hall
    intro j hj
    rcases Nat.eq_zero_or_pos j with rfl | h0
    · exact keeps_lt_one _ 0 (by omega)
    · rw [ZgH D j h0 (by rw [hlen];exact hj)]
      have:=List.pairwise_iff_getElem.1 (hp.nodup_iff.2 hn) (j-1) j (by omega) (by omega) (by omega)
      exact fun h=>this h.symm
   have hl:(compactUpTo D.toArray ks.length).length<ks.length:=by
    unfold compactUpTo
    rw [List.length_map]
    have:((List.range ks.length).filter (keeps D.toArray)).length<(List.range ks.length).length:=by
     rw [List.length_filter_lt_length_iff_exists]
     have:∃j,¬(j<ks.length→keeps D.toArray j=true):=Classical.not_forall.1 hall
     obtain⟨j,hj⟩:=this
     rw [Classical.not_imp] at hj
     exact⟨j,List.mem_range.2 hj.1,hj.2⟩
    simpa using this
   rw [decide_eq_true hl,decide_eq_false hn]
   rfl
theorem Zfm {g off n : Nat} (d : Array Int) : Frm (fun k => k = g) w (putRow uE (Sort.ahead w n) g off d) := by
 refine ⟨rfl, rfl, rfl, by simp [putRow, mapBlock, Sort.ahead], fun k _ hk => ?_⟩
 simp only [putRow, mapBlock, Sort.ahead, Array.getElem?_modify]
 rw [if_neg (fun e => hk e.symm)]
def uVals (ks : List Int) : List Value := ks.map (.int .u64)
theorem ZeO (ks : List Int) : (uVals ks).length = ks.length := by simp [uVals]
theorem Zlv (w:World)(s:Sl)(ks:List Int)(h:Own 100 1 w s (uVals ks))(hl:ks.length<1000000) :
    Calls Tryz.prog 74 #[s.val] w fun e w'=>e=.returned (.bool (!decide ks.Nodup))∧Frm (fun k=>s.blk=some k) w w':=by
  have hsl:ks.length=s.len:=by have:=h.1;rw [ZeO,Nat.mul_one] at this;exact this
  rcases h.2 with ⟨rfl,h0⟩ | ⟨g,off,cur,ha,hg,hoc,hlc,hcm,ht⟩
  · have:ks=[]:=by
     have:=congrArg List.length h0
     rw [ZeO] at this
     exact List.eq_nil_of_length_eq_zero this
    subst this
    have HS:=hide (ZhK w)
    have HC:Hid (Calls Tryz.prog 113 #[.slice none 0 0] w fun e w'=>e=.returned (.slice none 0 0)∧w'=w):=by
     clear h hl hsl h0 HS
     go_enter Tryz.func113,Tryz.ntmps113
     go_wp2_with fail
     go_ret
     exact⟨rfl,rfl⟩
    rw [show (!decide ([]:List Int).Nodup)=false by decide]
    unfold Sl.nil Sl.val
    clear h hl hsl h0
    go_enter Tryz.func74,Tryz.ntmps74
    go_wp2_with fail
    refine HS.out.mono ?_
    rintro e w' ⟨rfl,hw⟩
    obtain rfl:=hw.symm
    go_wp2_with fail
    refine HC.out.mono ?_
    rintro e w' ⟨rfl,hw⟩
    obtain rfl:=hw.symm
    go_wp2_with fail
    go_ret
    exact⟨rfl,Frm.refl _ _⟩
  · obtain⟨sa,sn,sc⟩:=s
    simp only at ha hsl hoc hlc hcm ht
    subst ha
    have hsz:ks.toArray.size=sn:=by simp [hsl]
    have hH:Holds uE w g off ks.toArray:=by
     intro j hj
     have hj':j<ks.length:=by simpa using hj
     refine⟨?_,frozen_of_row w g _ _ _ hg⟩
     have hcell:=h.cell rfl j (.int .u64 ks[j]) (by simp [uVals,hj'])
     rw [Addr.add_lit] at hcell
     rw [hcell,getElem!_pos ks.toArray j hj]
     simp [uE]
    have HSQ:Hid (Sq w g off sn w ks.toArray):=⟨hsz,hH,Frm.refl _ _⟩
    have HS:=hide (Zj7 w w g off sn sc ks.toArray HSQ.out (by omega))
    have hsc:sn≤sc:=hlc
    clear h hg hoc hlc hcm ht hH
    unfold Sl.val Sl.blk
    simp only [Option.map_some,Option.some.injEq]
    by_cases hnd:ks.Nodup
    · rw [show (!decide ks.Nodup)=false by simp [hnd]]
      go_enter Tryz.func74,Tryz.ntmps74
      go_wp2_with fail
      refine HS.out.mono ?_
      rintro e w1 ⟨rfl,d',hperm,hsort,hs1⟩
      have hd1:d'.size=sn:=hs1.size
      have hpl:d'.toList.Perm ks:=by
       have:=hperm.2.2
       rw [Array.extract_eq_self_of_le (by omega),Array.extract_eq_self_of_le (by omega)] at this
       simpa using this
      have hcl:=Zfi d'.toList ks hpl (fun i j hij hj=>by
       have hj':j<d'.size:=by simpa using hj
       have:=hsort i j (Nat.zero_le _) hij (by omega)
       rw [getElem!_pos d' j hj',getElem!_pos d' i (by omega)] at this
       unfold ltInt at this
       simp only [decide_eq_false_iff_not,Int.not_lt] at this
       simpa using this)
      rw [show (!decide ks.Nodup)=false by simp [hnd],Array.toArray_toList] at hcl
      have hc:=Go.Proofs.AnyE.slices_Compact Zid uE (fun _=>rfl) (EqlAt.intD _ _ .u64) (NeqAt.intD _ _ .u64) 0 Tryz.zeroValue100 g off sc d' w1 hs1.holds (by omega) (by omega)
      change Calls Tryz.prog 113 _ _ _ at hc
      rw [hd1] at hc hcl
      have hge:¬(compactUpTo d' sn).length<sn:=by rw [← hsl];rw [← hsl] at hcl;simpa using hcl
      have HC:=hide hc
      have hfr:=hs1.frm
      have HFR:=hide hfr
      generalize compactUpTo d' sn=cu at *
      clear hc hcl hs1 hsort hperm hpl HSQ HS hfr
      obtain⟨cn,hcn⟩:∃cn,cn=cu.length:=⟨_,rfl⟩
      rw [← hcn] at hge HC
      have hgez:¬(cn:Int)<(sn:Int):=by omega
      clear hcn hge
      go_wp2_with fail
      refine HC.out.mono ?_
      rintro e w2 ⟨rfl,q,hw2⟩
      have HF2:Hid (Frm (fun k=>k=g) w w2):=by show Frm _ _ _;rw [hw2];exact HFR.out.trans (Zfm _) (fun _ _ e=>e)
      clear hw2 HC HFR
      go_wp2_with fail
      go_ret
      exact⟨by simp;omega,HF2.out.mono (fun i _ e=>e.symm)⟩
    · rw [show (!decide ks.Nodup)=true by simp [hnd]]
      go_enter Tryz.func74,Tryz.ntmps74
      go_wp2_with fail
      refine HS.out.mono ?_
      rintro e w1 ⟨rfl,d',hperm,hsort,hs1⟩
      have hd1:d'.size=sn:=hs1.size
      have hpl:d'.toList.Perm ks:=by
       have:=hperm.2.2
       rw [Array.extract_eq_self_of_le (by omega),Array.extract_eq_self_of_le (by omega)] at this
       simpa using this
      have hcl:=Zfi d'.toList ks hpl (fun i j hij hj=>by
       have hj':j<d'.size:=by simpa using hj
       have:=hsort i j (Nat.zero_le _) hij (by omega)
       rw [getElem!_pos d' j hj',getElem!_pos d' i (by omega)] at this
       unfold ltInt at this
       simp only [decide_eq_false_iff_not,Int.not_lt] at this
       simpa using this)
      rw [show (!decide ks.Nodup)=true by simp [hnd],Array.toArray_toList] at hcl
      have hc:=Go.Proofs.AnyE.slices_Compact Zid uE (fun _=>rfl) (EqlAt.intD _ _ .u64) (NeqAt.intD _ _ .u64) 0 Tryz.zeroValue100 g off sc d' w1 hs1.holds (by omega) (by omega)
      change Calls Tryz.prog 113 _ _ _ at hc
      rw [hd1] at hc hcl
      have hge:(compactUpTo d' sn).length<sn:=by rw [← hsl];rw [← hsl] at hcl;simpa using hcl
      have HC:=hide hc
      have hfr:=hs1.frm
      have HFR:=hide hfr
      generalize compactUpTo d' sn=cu at *
      clear hc hcl hs1 hsort hperm hpl HSQ HS hfr
      obtain⟨cn,hcn⟩:∃cn,cn=cu.length:=⟨_,rfl⟩
      rw [← hcn] at hge HC
      have hgez:(cn:Int)<(sn:Int):=by omega
      clear hcn hge
      go_wp2_with fail
      refine HC.out.mono ?_
      rintro e w2 ⟨rfl,q,hw2⟩
      have HF2:Hid (Frm (fun k=>k=g) w w2):=by show Frm _ _ _;rw [hw2];exact HFR.out.trans (Zfm _) (fun _ _ e=>e)
      clear hw2 HC HFR
      go_wp2_with fail
      go_ret
      exact⟨by simp,HF2.out.mono (fun i _ e=>e.symm)⟩
structure Sx where
  i : Nat
  k : Nat
  x : Rx
def Sx.hr (y : Sx) : Hr := ⟨y.x.r, y.i, y.k⟩
def Sx.cells (y : Sx) : List Value := [.int .i64 (y.i : Nat), .int .i64 (y.k : Nat), .float .f64 y.x.r.key, .bool y.x.r.dead, .slice y.x.a y.x.n y.x.c, .int .i64 y.x.r.wr, .int .i64 y.x.r.cell, .int .i64 y.x.r.no]
def Sx.val (y : Sx) : Value := .agg #[.int .i64 (y.i : Nat), .int .i64 (y.k : Nat), .float .f64 y.x.r.key, .bool y.x.r.dead, .slice y.x.a y.x.n y.x.c, .int .i64 y.x.r.wr, .int .i64 y.x.r.cell, .int .i64 y.x.r.no]
def Sx.zero : Sx := ⟨0, 0, Rx.zero⟩
def ZaJ (l : List Sx) : List Value := l.flatMap Sx.cells
theorem Zc0 : ∀ l : List Sx, (ZaJ l).length = l.length * 8
  | [] => rfl
  | y :: l => by
    have e : ZaJ (y :: l) = y.cells ++ ZaJ l := rfl
    rw [e, List.length_append, Zc0 l, List.length_cons]
    have : y.cells.length = 8 := rfl
    omega
theorem ZfL (l m : List Sx) : ZaJ (l ++ m) = ZaJ l ++ ZaJ m := by simp [ZaJ]
theorem Zff (l : List Sx) : ∀ u ∈ ZaJ l, u.oneCell' = true := by
 intro u hu
 obtain ⟨y, _, hy⟩ := List.mem_flatMap.1 hu
 simp only [Sx.cells, List.mem_cons, List.not_mem_nil, or_false] at hy
 rcases hy with rfl | rfl | rfl | rfl | rfl | rfl | rfl | rfl <;> rfl
theorem Zfe : ∀ (l : List Sx) (j t : Nat), j < l.length → t < 8 → (ZaJ l)[j * 8 + t]? = (l.getD j Sx.zero).cells[t]?
  | [], j, t, hj, _ => by simp at hj
  | y :: l, 0, t, _, ht => by
    have e : ZaJ (y :: l) = y.cells ++ ZaJ l := rfl
    have hl : y.cells.length = 8 := rfl
    rw [e, Nat.zero_mul, Nat.zero_add, List.getElem?_append_left (by omega)]
    rfl
  | y :: l, j + 1, t, hj, ht => by
    have e : ZaJ (y :: l) = y.cells ++ ZaJ l := rfl
    have hl : y.cells.length = 8 := rfl
    rw [e, List.getElem?_append_right (by omega), hl, show (j + 1) * 8 + t - 8 = j * 8 + t by omega]
    exact Zfe l j t (by simpa using hj) ht
theorem Zoa : (Tryz.prog.info? 72).map (fun i => (i.zero, i.size, i.bytes)) = some (some (.agg #[.int .i64 0, .int .i64 0, .float .f64 0, .bool false, .slice none 0 0, .int .i64 0, .int .i64 0, .int .i64 0]), 8, 80) := by kernel_rfl
theorem Znn : (Tryz.prog.info? 100).map (fun i => (i.zero, i.size, i.bytes)) = some (some (.int .u64 0), 1, 8) := by kernel_rfl
def rkS (l : List Sx) : List Int := l.map fun y => ((Fl.rk y.x.r.key : Nat) : Int)
structure Stk (w0 w : World) (bA bR : Nat) (S : List Sx) : Prop where
  ex : ∃ sA sR : Sl, w.heap[bA]? = some (.cells #[sA.val] 68 (0, 0)) ∧ w.heap[bR]? = some (.cells #[sR.val] 105 (0, 0)) ∧ Own 72 8 w sA (ZaJ S) ∧ Own 100 1 w sR (uVals (rkS S)) ∧ (∀ k, sA.blk = some k → w0.heap.size ≤ k) ∧ (∀ k, sR.blk = some k → w0.heap.size ≤ k)
  newA : w0.heap.size ≤ bA
  newR : w0.heap.size ≤ bR
  below : Below w0.heap.size w0 w
  flt : ∀ y ∈ S, ColF w y.x
  fits : ∀ y ∈ S, y.x.r.fits
theorem Stk.keep {w':World}{S : List Sx} (h : Stk w0 w bA bR S) (hb : Below w.heap.size w w') : Stk w0 w' bA bR S := by
 obtain ⟨sA, sR, h1, h2, h3, h4, h5, h6⟩ := h.ex
 refine ⟨⟨sA, sR, (hb.block _ (Array.getElem?_eq_some_iff.1 h1).1).trans h1, (hb.block _ (Array.getElem?_eq_some_iff.1 h2).1).trans h2, Own.frame h3 (fun k hk => hb.block k (Own.lt h3 hk)), Own.frame h4 (fun k hk => hb.block k (Own.lt h4 hk)), h5, h6⟩, h.newA, h.newR, h.below.trans (hb.mono h.below.size), fun y hy => (h.flt y hy).keep hb, h.fits⟩
theorem Zet (v : Int) (w : World) : (Instr.buildSlice 105 1 #[(0, .int .u64 v)]).run Tryz.prog w = .ok (.slice (some ⟨w.heap.size, 0, none⟩) 1 1) (w.alloc (.cells #[.int .u64 v] 100)) := by
  simp [go_sem, Instr.buildSlice]
theorem Zo0 (w : World) (y : Sx) : Src Tryz.prog 8 68 (.slice (some ⟨w.heap.size, 0, none⟩) 1 1) 1 (ZaJ [y]) (w.alloc (.cells y.cells.toArray 72)) := by
 refine Src.ofSlice _ Tryz.underlying68 ⟨w.heap.size, 0, none⟩ 1 1 (ZaJ [y]) rfl (fun j u hj => ?_) (Zff _)
 have hb : (w.alloc (.cells y.cells.toArray 72)).heap[w.heap.size]? = some (.cells y.cells.toArray 72 (0, 0)) := heap_alloc_new w _
 rw [Addr.add_lit, cell_of_row _ _ _ _ _ _ hb]
 simpa [ZaJ, Sx.cells] using hj
theorem ZnD (w : World) (v : Int) : Src Tryz.prog 1 105 (.slice (some ⟨w.heap.size, 0, none⟩) 1 1) 1 (uVals [v]) (w.alloc (.cells #[.int .u64 v] 100)) := by
 refine Src.ofSlice _ Tryz.underlying105 ⟨w.heap.size, 0, none⟩ 1 1 (uVals [v]) rfl (fun j u hj => ?_) (by intro u hu; simp [uVals] at hu; subst hu; rfl)
 have hb : (w.alloc (.cells #[.int .u64 v] 100)).heap[w.heap.size]? = some (.cells #[.int .u64 v] 100 (0, 0)) := heap_alloc_new w _
 rw [Addr.add_lit, cell_of_row _ _ _ _ _ _ hb]
 simpa [uVals] using hj
theorem ZjO {t : TypeId} {v : Value} (h : w.heap[b]? = some (.cells #[v] t (0, 0))) (u : Value) : (w.setCell ⟨b, 0, none⟩ u).heap[b]? = some (.cells #[u] t (0, 0)) ∧ Frm (fun k => k = b) w (w.setCell ⟨b, 0, none⟩ u) := by
 refine ⟨?_, Frm.setCell (F := fun k => k = b) (Frm.refl _ w) rfl u⟩
 simp only [World.setCell]
 rw [Array.getElem?_modify, if_pos rfl, h]
 rfl
theorem Zbc {t : TypeId} {v : Value} (h : w.heap[b]? = some (.cells #[v] t (0, 0))) : w.cell? ⟨b, 0, none⟩ = some v ∧ w.frozen? ⟨b, 0, none⟩ = false := by
 refine ⟨?_, frozen_of_row w b 0 _ t h⟩
 rw [cell_of_row _ _ _ _ _ _ h]; rfl
theorem Stk.all {S:List Sx}(h:Stk w0 w bA bR S)(y:Sx)(hl:S.length+1≤100000) :
    ∃(sA s':Sl) (W:World),w.heap[bA]? = some (.cells #[sA.val] 68 (0,0))∧(∀ty,(Builtin.append_ #[68,68] ty #[sA.val,.slice (some ⟨w.heap.size,0,none⟩) 1 1]).run Tryz.prog (w.alloc (.cells y.cells.toArray 72))=.ok s'.val W)∧W.heap[bA]? = some (.cells #[sA.val] 68 (0,0)) ∧
     (∃sR:Sl,(W.setCell ⟨bA,0,none⟩ s'.val).heap[bA]? = some (.cells #[s'.val] 68 (0,0))∧(W.setCell ⟨bA,0,none⟩ s'.val).heap[bR]? = some (.cells #[sR.val] 105 (0,0))∧Own 72 8 (W.setCell ⟨bA,0,none⟩ s'.val) s' (ZaJ (S ++ [y]))∧Own 100 1 (W.setCell ⟨bA,0,none⟩ s'.val) sR (uVals (rkS S))∧(∀k,s'.blk=some k→w0.heap.size≤k)∧(∀k,sR.blk=some k→w0.heap.size≤k)) ∧
     Below w0.heap.size w0 (W.setCell ⟨bA,0,none⟩ s'.val)∧(∀k,k<w.heap.size→(∃(C:Array Value) (fr:Nat × Nat),w.heap[k]? = some (Obj.cells C 23 fr)∨w.heap[k]? = some (Obj.cells C 33 fr)∨w.heap[k]? = some (Obj.cells C 26 fr))→(W.setCell ⟨bA,0,none⟩ s'.val).heap[k]? = w.heap[k]?)∧w.heap.size≤W.heap.size:=by
 obtain⟨sA,sR,h1,h2,h3,h4,h5,h6⟩:=h.ex
 have hB:=Zaa w (.cells y.cells.toArray 72)
 have h3':Own 72 8 (w.alloc (.cells y.cells.toArray 72)) sA (ZaJ S):=Own.frame h3 (fun k hk=>hB.block k (Own.lt h3 hk))
 have hsl:S.length=sA.len:=by have:=h3.1;rw [Zc0] at this;omega
 obtain⟨s',W,hrun,ho,hlen,hfr,hbk⟩:=ZaS Tryz.underlying68 Zoa rfl (by decide) _ sA (ZaJ S) h3' (Zff S) _ 1 (ZaJ [y]) (Zo0 w y) (by omega) 0
 have l1:=(Array.getElem?_eq_some_iff.1 h1).1
 have l2:=(Array.getElem?_eq_some_iff.1 h2).1
 have hty:∀(k:Nat) (C:Array Value) (t:TypeId) (fr:Nat × Nat),w.heap[k]? = some (Obj.cells C t fr)→t≠72→W.heap[k]? = w.heap[k]?:=by
  intro k C t fr hk ht
  have hlt:=(Array.getElem?_eq_some_iff.1 hk).1
  refine(hfr.block k (Nat.lt_of_lt_of_le hlt hB.size) (fun e=>?_)).trans (hB.block k hlt)
  obtain⟨cur,hcur⟩:=Own.kind h3' e
  rw [hB.block k hlt,hk] at hcur
  simp only [Option.some.injEq,Obj.cells.injEq] at hcur
  exact ht hcur.2.1
 have h1':=(hty bA _ _ _ h1 (by decide)).trans h1
 have h2':=(hty bR _ _ _ h2 (by decide)).trans h2
 obtain⟨b1,f1⟩:=ZjO h1' s'.val
 have hne:bR≠bA:=by
  intro e
  rw [e,h1] at h2
  simp only [Option.some.injEq,Obj.cells.injEq] at h2
  exact absurd h2.2.1 (by decide)
 have l1W:bA<W.heap.size:=(Array.getElem?_eq_some_iff.1 h1').1
 have hbelow:Below w0.heap.size w0 W:=(Zac h.below hB).trans (hfr.below (Zac h.below hB).size (fun k hk=>h5 k hk))
 have hkind:∀k:Nat,(∃(C:Array Value) (t:TypeId) (fr:Nat × Nat),W.heap[k]? = some (Obj.cells C t fr)∧t≠68)→(W.setCell ⟨bA,0,none⟩ s'.val).heap[k]? = W.heap[k]?:=by
  rintro k ⟨C,t,fr,hk,ht⟩
  refine f1.block k (Array.getElem?_eq_some_iff.1 hk).1 (fun e=>?_)
  rw [e,h1'] at hk
  simp only [Option.some.injEq,Obj.cells.injEq] at hk
  exact ht hk.2.1.symm
 refine⟨sA,s',W,h1,fun ty=>hrun,h1',⟨sR,b1,?_,?_,?_,fun k hk=>?_,h6⟩,hbelow.trans (f1.below hbelow.size (fun k hk=>by rw [hk];exact h.newA)),?_,Nat.le_trans hB.size hfr.size⟩
 · exact(hkind bR ⟨_,_,_,h2',by decide⟩).trans h2'
 · have ho':Own 72 8 W s' (ZaJ (S ++ [y])):=by rw [ZfL];exact ho
   exact Own.frame ho' (fun k hk=>by
    obtain⟨cur,hcur⟩:=Own.kind ho' hk
    exact hkind k ⟨_,_,_,hcur,by decide⟩)
 · refine Own.frame h4 (fun k hk=>?_)
   obtain⟨cur,hcur⟩:=Own.kind h4 hk
   have e:=hty k _ _ _ hcur (by decide)
   exact(hkind k ⟨_,_,_,e.trans hcur,by decide⟩).trans e
 · rcases hbk with e | ⟨e,_⟩
   · exact h5 k (by rw [← e];exact hk)
   · rw [e] at hk
     cases hk
     have:=h.below.size
     rw [Zae]
     omega
 · rintro k hk ⟨C,fr,hc | hc | hc⟩
   · have e:=hty k _ _ _ hc (by decide)
     exact(hkind k ⟨_,_,_,e.trans hc,by decide⟩).trans e
   · have e:=hty k _ _ _ hc (by decide)
     exact(hkind k ⟨_,_,_,e.trans hc,by decide⟩).trans e
   · have e:=hty k _ _ _ hc (by decide)
     exact(hkind k ⟨_,_,_,e.trans hc,by decide⟩).trans e
theorem Zio : ∀ args w, (callFunc 73 args).run Tryz.prog w = .ok (.enter 73 args) w := Pl.enters Tryz.func73 (by kernel_rfl) (by kernel_rfl)
theorem Znc (p : Nat) (w : World) : (Instr.fieldAt 33 (.pointer (some ⟨p, 0, none⟩)) 0).run Tryz.prog w = .ok (.pointer (some ⟨p, 0, none⟩)) w := by simp [go_sem, Instr.fieldAt]
theorem Zoe {p : Nat} {c : Value} (h : RwBlk w p r c) : (Instr.loadAt 23 (.pointer (some ⟨p, 0, none⟩))).run Tryz.prog w = .ok (.float .f64 r.key) w := by
 have c0 := h.c0
 simp [go_sem, c0]
theorem Zh0 {s : Sl} (h : w.heap[b]? = some (.cells #[s.val] 105 (0, 0))) : (Instr.loadAt 105 (.pointer (some ⟨b, 0, none⟩))).run Tryz.prog w = .ok s.val w := by
 have c0 := (Zbc h).1
 unfold Sl.val at *
 simp [go_sem, c0]
theorem ZnE {s : Sl} (h : w.heap[b]? = some (.cells #[s.val] 105 (0, 0))) (u : Sl) : (Instr.storeAt 105 (.pointer (some ⟨b, 0, none⟩)) u.val).run Tryz.prog w = .ok () (w.setCell ⟨b, 0, none⟩ u.val) := by
 have c0 := (Zbc h).1
 have f0 := (Zbc h).2
 unfold Sl.val at *
 simp [go_sem, c0, f0]
structure RkEnd (w w' : World) (bR : Nat) (sR : Sl) (us : List Int) : Prop where
  ex : ∃ s' : Sl, w'.heap[bR]? = some (.cells #[s'.val] 105 (0, 0)) ∧ Own 100 1 w' s' (uVals us) ∧ (s'.blk = sR.blk ∨ ∀ k, s'.blk = some k → w.heap.size ≤ k)
  frm : Frm (fun k => k = bR ∨ sR.blk = some k) w w'
theorem ZoT (w:World)(p bR:Nat)(r:Rw)(c:Value)(sR:Sl)(us:List Int)(hx:RwBlk w p r c)(hb:w.heap[bR]? = some (.cells #[sR.val] 105 (0,0)))(ho:Own 100 1 w sR (uVals us))(hk:r.key<18446744073709551616)(hl:us.length+1≤100000)
    {Q:Exit→Act→World→Prop}{A:Act}(hsz:A.tmps.size=18)(hdf:A.defers=[])(s3:A.tmps.getD 3 undef=.pointer (some ⟨bR,0,none⟩))(s5:A.tmps.getD 5 undef=.pointer (some ⟨p,0,none⟩))
    (hend:∀(u:Nat→Value) w',RkEnd w w' bR sR (us ++ [((Fl.rk r.key:Nat):Int)])→Q .normal ((((((A.put (some 13) (u 13)).put (some 14) (u 14)).put (some 12) (u 12)).put (some 15) (u 15)).put (some 16) (u 16)).put (some 17) (u 17)) w') :
    (Code.region 2 (Pl.find 2 ((Tryz.f72.body).getD .skip)) true).wp Tryz.prog Q A w:=by
  obtain⟨v,hv⟩:∃v:Int,v=((Fl.rk r.key:Nat):Int):=⟨_,rfl⟩
  have hrk:∀w,Calls Tryz.prog 73 #[.float .f64 r.key] w fun e w'=>e=.returned (.int .u64 v)∧w'=w:=fun w=>by rw [hv];exact Zmr r.key hk w
  rw [← hv] at hend
  have hal:=Zaa w.drew (.cells #[.int .u64 v] 100)
  have hb0:w.drew.heap[bR]? = some (.cells #[sR.val] 105 (0,0)):=hb
  have ho0:Own 100 1 w.drew sR (uVals us):=ho
  have hb1:(w.drew.alloc (.cells #[.int .u64 v] 100)).heap[bR]? = some (.cells #[sR.val] 105 (0,0)):=(hal.block _ (Array.getElem?_eq_some_iff.1 hb0).1).trans hb0
  have ho1:Own 100 1 (w.drew.alloc (.cells #[.int .u64 v] 100)) sR (uVals us):=Own.frame ho0 (fun k hk=>hal.block k (Own.lt ho0 hk))
  have hul:us.length=sR.len:=by have:=ho.1;rw [ZeO,Nat.mul_one] at this;exact this
  obtain⟨s',w2,hrun,ho2,hlen,hfr,hbk⟩:=ZaS Tryz.underlying105 Znn rfl (by decide) _ sR (uVals us) ho1 (by intro u hu;obtain ⟨q,_,rfl⟩:=List.mem_map.1 hu;rfl) _ 1 (uVals [v]) (ZnD w.drew v) (by omega) 105
  have hS0:RwBlk w.drew p r c:=hx
  have hS1:RwBlk (w.drew.alloc (.cells #[.int .u64 v] 100)) p r c:=hS0.keep hal
  have hnk:∀(k:Nat) (C:Array Value) (t:TypeId) (fr:Nat × Nat),(w.drew.alloc (.cells #[.int .u64 v] 100)).heap[k]? = some (Obj.cells C t fr)→t≠100→w2.heap[k]? = (w.drew.alloc (.cells #[.int .u64 v] 100)).heap[k]?:=by
   intro k C t fr hk ht
   refine hfr.block k (Array.getElem?_eq_some_iff.1 hk).1 (fun e=>?_)
   obtain⟨cur,hcur⟩:=Own.kind ho1 e
   rw [hk] at hcur
   simp only [Option.some.injEq,Obj.cells.injEq] at hcur
   exact ht hcur.2.1
  have hS2:RwBlk w2 p r c:=(hnk p _ _ _ hS1 (by decide)).trans hS1
  have hb2:w2.heap[bR]? = some (.cells #[sR.val] 105 (0,0)):=(hnk bR _ _ _ hb1 (by decide)).trans hb1
  obtain⟨hb3,hf3⟩:=ZjO hb2 s'.val
  have hst:=ZnE hb2 s'
  have hnp:p≠bR:=by
   intro e
   have h1:w.heap[p]? = some (.cells _ 33 (0,0)):=hx
   rw [e,hb] at h1
   simp only [Option.some.injEq,Obj.cells.injEq] at h1
   exact absurd h1.2.1 (by decide)
  have hS3:RwBlk (w2.setCell ⟨bR,0,none⟩ s'.val) p r c:=(hf3.block p (Array.getElem?_eq_some_iff.1 hS2).1 hnp).trans hS2
  have hE:RkEnd w (w2.setCell ⟨bR,0,none⟩ s'.val) bR sR (us ++ [v]):=by
   refine⟨⟨s',hb3,?_,?_⟩,?_⟩
   · have ho2':Own 100 1 w2 s' (uVals (us ++ [v])):=by unfold uVals at *;rw [List.map_append];exact ho2
     exact Own.frame ho2' (fun k hk=>by
      obtain⟨cur,hcur⟩:=Own.kind ho2' hk
      refine hf3.block k (Array.getElem?_eq_some_iff.1 hcur).1 (fun e=>?_)
      rw [e,hb2] at hcur
      simp only [Option.some.injEq,Obj.cells.injEq] at hcur
      exact absurd hcur.2.1 (by decide))
   · rcases hbk with e | ⟨e,_⟩
     · exact .inl e
     · refine .inr fun k hk=>?_
       rw [e] at hk
       cases hk
       exact hal.size
   · have f0:Frm (fun k=>k=bR∨sR.blk=some k) w w.drew:=(Frm.refl _ w).drew
     have f1:Frm (fun k=>k=bR∨sR.blk=some k) w.drew (w.drew.alloc (.cells #[.int .u64 v] 100)):=Frm.ofBelow hal
     have f2:Frm (fun k=>k=bR∨sR.blk=some k) (w.drew.alloc (.cells #[.int .u64 v] 100)) w2:=hfr.mono (fun _ _ e=>.inr e)
     have f3:Frm (fun k=>k=bR∨sR.blk=some k) w2 (w2.setCell ⟨bR,0,none⟩ s'.val):=hf3.mono (fun _ _ e=>.inl e)
     exact((f0.trans f1 (fun _ _ e=>e)).trans f2 (fun _ _ e=>e)).trans f3 (fun _ _ e=>e)
  have hA:=Pl.At.same (v:=.pointer (some ⟨p,0,none⟩)) (d:=5) (Pl.At.same (v:=.pointer (some ⟨bR,0,none⟩)) (d:=3) (Pl.At.here hsz hdf) s3) s5
  refine Pl.qa (S:=fun w'=>RwBlk w' p r c) hA hS0 ?_
  rw [show (Pl.find 2 ((Tryz.f72.body).getD .skip)).size=7 by kernel_rfl]
  refine Pl.q0 1 13 (.pointer (some ⟨p,0,none⟩)) (Pl.q1) (Pl.q5 33 (.tmp 5) 0 (Znc p)) hS0 ?_
  refine Pl.q0 2 14 (.float .f64 r.key) (Pl.q1) (Pl.q4 23 (.tmp 13) (fun w' hS=>Zoe hS)) hS0 ?_
  refine Pl.qq 0 3 ?_ ?_
  · refine Pl.qk 0 12 sR.val w.drew (Pl.qy 105 (.tmp 3) (Zh0 hb0)) hS0 ?_
    refine Pl.qo 3 ?_
    refine Pl.qp 3 15 73 [(.tmp 14)] #[23] Zio (Calls.mono (hrk w.drew) ?_)
    rintro e w' ⟨rfl,hw⟩
    subst hw
    refine⟨.int .u64 v,rfl,hS0,?_⟩
    refine Pl.qo 4 ?_
    refine Pl.qk 4 16 (.slice (some ⟨w.drew.heap.size,0,none⟩) 1 1) (w.drew.alloc (.cells #[.int .u64 v] 100)) (Pl.qu 105 (.tmp 15) (Zet v w.drew)) hS1 ?_
    refine Pl.qg 5 17 s'.val w2 (Pl.q1) (Pl.q_41 105 105 (.tmp 12) (.tmp 16) hrun) hS2 ?_
    refine Pl.qh 6 (w2.setCell ⟨bR,0,none⟩ s'.val) (Pl.q1) (Pl.qi 105 (.tmp 3) (.tmp 17) hst) hS3 ?_
    refine Pl.q7 (fun A' hA'=>?_)
    rw [Pl.At.ext hA' ((((((hA.put 13 _).put 14 _).put 12 _).put 15 _).put 16 _).put 17 _)]
    exact hend hA'.fn _ hE
  · refine Pl.qp 3 15 73 [(.tmp 14)] #[23] Zio (Calls.mono (hrk w.drew) ?_)
    rintro e w' ⟨rfl,hw⟩
    subst hw
    refine⟨.int .u64 v,rfl,hS0,?_⟩
    refine Pl.qq 0 4 ?_ ?_
    · refine Pl.qk 0 12 sR.val w.drew (Pl.qy 105 (.tmp 3) (Zh0 hb0)) hS0 ?_
      rw [Pl.ql 15 12]
      refine Pl.qo 4 ?_
      refine Pl.qk 4 16 (.slice (some ⟨w.drew.heap.size,0,none⟩) 1 1) (w.drew.alloc (.cells #[.int .u64 v] 100)) (Pl.qu 105 (.tmp 15) (Zet v w.drew)) hS1 ?_
      refine Pl.qg 5 17 s'.val w2 (Pl.q1) (Pl.q_41 105 105 (.tmp 12) (.tmp 16) hrun) hS2 ?_
      refine Pl.qh 6 (w2.setCell ⟨bR,0,none⟩ s'.val) (Pl.q1) (Pl.qi 105 (.tmp 3) (.tmp 17) hst) hS3 ?_
      refine Pl.q7 (fun A' hA'=>?_)
      rw [Pl.At.ext hA' ((((((hA.put 13 _).put 14 _).put 12 _).put 15 _).put 16 _).put 17 _)]
      exact hend hA'.fn _ hE
    · refine Pl.qk 4 16 (.slice (some ⟨w.drew.heap.size,0,none⟩) 1 1) (w.drew.alloc (.cells #[.int .u64 v] 100)) (Pl.qu 105 (.tmp 15) (Zet v w.drew)) hS1 ?_
      refine Pl.qo 0 ?_
      refine Pl.qk 0 12 sR.val (w.drew.alloc (.cells #[.int .u64 v] 100)) (Pl.qy 105 (.tmp 3) (Zh0 hb1)) hS1 ?_
      rw [Pl.ql 16 12]
      rw [Pl.ql 15 12]
      refine Pl.qg 5 17 s'.val w2 (Pl.q1) (Pl.q_41 105 105 (.tmp 12) (.tmp 16) hrun) hS2 ?_
      refine Pl.qh 6 (w2.setCell ⟨bR,0,none⟩ s'.val) (Pl.q1) (Pl.qi 105 (.tmp 3) (.tmp 17) hst) hS3 ?_
      refine Pl.q7 (fun A' hA'=>?_)
      rw [Pl.At.ext hA' ((((((hA.put 13 _).put 14 _).put 12 _).put 15 _).put 16 _).put 17 _)]
      exact hend hA'.fn _ hE
theorem Zmp {S:List Sx}(h:Stk w0 w bA bR S)(y:Sx)(hc:ColF w y.x)(hf:y.x.r.fits)(hl:S.length+1≤100000) :
    Calls Tryz.prog 72 #[btV ((y.i:Nat),(y.k:Nat)),y.x.val,.pointer (some ⟨bA,0,none⟩),.pointer (some ⟨bR,0,none⟩)] w fun e w'=>e=.returned (.tuple #[])∧Stk w0 w' bA bR (S ++ [y]):=by
  have hsf:∀(w:World) (a:Addr) (m:Mode) (x:Nat),(store a (.float .f64 x) m).run Tryz.prog w=stored Tryz.prog w a (.float .f64 x) m:=fun w a m x=>run_store Tryz.prog w a _ m rfl
  obtain⟨i,k,r,a,n,cp⟩:=y
  obtain⟨Y,hY⟩:∃Y:Sx,Y=⟨i,k,r,a,n,cp⟩:=⟨_,rfl⟩
  have hB1:=Zaa w (.cells #[.int .i64 (i:Nat),.int .i64 (k:Nat)] 26)
  have hB2:=Zaa (w.alloc (.cells #[.int .i64 (i:Nat),.int .i64 (k:Nat)] 26)) (.cells #[.float .f64 r.key,.bool r.dead,.slice a n cp,.int .i64 r.wr,.int .i64 r.cell,.int .i64 r.no] 33)
  have hq:=(Zax w ((i:Nat),(k:Nat))).keep hB2
  have hp:=Zag (w.alloc (.cells #[.int .i64 (i:Nat),.int .i64 (k:Nat)] 26)) r (.slice a n cp)
  rw [Zae] at hp
  have hS1:=(h.keep hB1).keep hB2
  have hc0:=(hc.keep hB1).keep hB2
  have hfY:Y.x.r.fits:=by rw [hY];exact hf
  have hkY:r.key<18446744073709551616:=hf.key
  have hvY:Y.cells=[.int .i64 (i:Nat),.int .i64 (k:Nat),.float .f64 r.key,.bool r.dead,.slice a n cp,.int .i64 r.wr,.int .i64 r.cell,.int .i64 r.no]:=by rw [hY];rfl
  have hrkY:((Fl.rk Y.x.r.key:Nat):Int)=((Fl.rk r.key:Nat):Int):=by rw [hY]
  have HWE:Hid ((w.alloc (.cells #[.int .i64 (i:Nat),.int .i64 (k:Nat)] 26)).alloc (.cells #[.float .f64 r.key,.bool r.dead,.slice a n cp,.int .i64 r.wr,.int .i64 r.cell,.int .i64 r.no] 33)=(w.alloc (.cells #[.int .i64 (i:Nat),.int .i64 (k:Nat)] 26)).alloc (.cells #[.float .f64 r.key,.bool r.dead,.slice a n cp,.int .i64 r.wr,.int .i64 r.cell,.int .i64 r.no] 33)):=rfl
  obtain⟨W1,hW1⟩:∃W1,W1=(w.alloc (.cells #[.int .i64 (i:Nat),.int .i64 (k:Nat)] 26)).alloc (.cells #[.float .f64 r.key,.bool r.dead,.slice a n cp,.int .i64 r.wr,.int .i64 r.cell,.int .i64 r.no] 33):=⟨_,rfl⟩
  rw [← hW1] at hq hp hS1 hc0
  have hc1:ColF W1 Y.x:=by rw [hY];exact hc0
  have HW1:=hide hW1
  clear HWE hB1 hB2 hW1
  show Calls Tryz.prog 72 #[btV ((i:Nat),(k:Nat)),(⟨r,a,n,cp⟩:Rx).val,.pointer (some ⟨bA,0,none⟩),.pointer (some ⟨bR,0,none⟩)] w fun e w'=>e=.returned (.tuple #[])∧Stk w0 w' bA bR (S ++ [⟨i,k,r,a,n,cp⟩])
  rw [show (⟨i,k,r,a,n,cp⟩:Sx)=Y from hY.symm]
  obtain⟨sA,s',W,hba,hrun,hbw,⟨sR,e1,e2,e3,e4,e5,e6⟩,hbel,hkind,hsz⟩:=hS1.all Y hl
  rw [hvY] at hrun
  obtain⟨W2,hW2⟩:∃W2,W2=W.setCell ⟨bA,0,none⟩ s'.val:=⟨_,rfl⟩
  rw [← hW2] at e1 e2 e3 e4 hbel hkind
  have HW2:=hide hW2
  have hpw:=hkind _ (Array.getElem?_eq_some_iff.1 hp).1 ⟨_,_,.inr (.inl hp)⟩
  have HPW:Hid (RwBlk W2 (w.heap.size+1) r (.slice a n cp)):=hpw.trans hp
  have HCOL:Hid (∀y∈S ++ [Y],ColF W2 y.x):=by
   intro y hy
   have hcy:ColF W1 y.x:=by
    rcases List.mem_append.1 hy with hy | hy
    · exact hS1.flt y hy
    · rw [List.mem_singleton.1 hy];exact hc1
   have hsame:∀b off,y.x.a=some ⟨b,off,none⟩→0<y.x.n→W2.heap[b]? = W1.heap[b]?:=by
    intro b off ha hn
    obtain⟨C,fr,hk⟩:=hcy.home b off ha hn
    exact hkind b (Array.getElem?_eq_some_iff.1 hk).1 ⟨C,fr,.inl hk⟩
   refine⟨hcy.fs.same hsame,fun b off ha hn=>?_⟩
   obtain⟨C,fr,hk⟩:=hcy.home b off ha hn
   exact⟨C,fr,(hsame b off ha hn).trans hk⟩
  have HFIT:Hid (∀y∈S ++ [Y],y.x.r.fits):=by
   intro y hy
   rcases List.mem_append.1 hy with hy | hy
   · exact h.fits y hy
   · rw [List.mem_singleton.1 hy];exact hfY
  have HRL:Hid ((rkS S).length+1≤100000):=by show _≤_;unfold rkS;rw [List.length_map];exact hl
  have HFA:Hid (∀w',RkEnd W2 w' bR sR (rkS S ++ [((Fl.rk r.key:Nat):Int)])→Stk w0 w' bA bR (S ++ [Y])):=by
   rintro w' ⟨⟨s2,g1,g2,g3⟩,gf⟩
   have hkeep:∀(b:Nat) (C:Array Value) (t:TypeId) (fr:Nat × Nat),W2.heap[b]? = some (Obj.cells C t fr)→t≠100→t≠105→w'.heap[b]? = W2.heap[b]?:=by
    intro b C t fr hb h1 h2
    refine gf.block b (Array.getElem?_eq_some_iff.1 hb).1 ?_
    rintro (e | e)
    · rw [e,e2] at hb
      simp only [Option.some.injEq,Obj.cells.injEq] at hb
      exact h2 hb.2.1.symm
    · obtain⟨cur,hcur⟩:=Own.kind e4 e
      rw [hb] at hcur
      simp only [Option.some.injEq,Obj.cells.injEq] at hcur
      exact h1 hcur.2.1
   have hbel2:Below w0.heap.size w0 w':=hbel.trans (gf.below hbel.size (fun k hk=>by
    rcases hk with rfl | hk
    · exact h.newR
    · exact e6 k hk))
   refine⟨⟨s',s2,(hkeep bA _ _ _ e1 (by decide) (by decide)).trans e1,g1,Own.frame e3 (fun b hb=>?_),?_,e5,fun b hb=>?_⟩,h.newA,h.newR,hbel2,fun y hy=>?_,HFIT.out⟩
   · obtain⟨cur,hcur⟩:=Own.kind e3 hb
     exact hkeep b _ _ _ hcur (by decide) (by decide)
   · have:rkS (S ++ [Y])=rkS S ++ [((Fl.rk r.key:Nat):Int)]:=by unfold rkS;rw [List.map_append,List.map_cons,hrkY];rfl
     rw [this]
     exact g2
   · rcases g3 with e | e
     · exact e6 b (by rw [← e];exact hb)
     · exact Nat.le_trans hbel.size (e b hb)
   · have hcy:=HCOL.out y hy
     have hsame:∀b off,y.x.a=some ⟨b,off,none⟩→0<y.x.n→w'.heap[b]? = W2.heap[b]?:=by
      intro b off ha hn
      obtain⟨C,fr,hk⟩:=hcy.home b off ha hn
      exact hkeep b _ _ _ hk (by decide) (by decide)
     refine⟨hcy.fs.same hsame,fun b off ha hn=>?_⟩
     obtain⟨C,fr,hk⟩:=hcy.home b off ha hn
     exact⟨C,fr,(hsame b off ha hn).trans hk⟩
  have HRUN:=hide hrun
  have HE2:=hide e2
  have HE4:=hide e4
  have HKY:=hide hkY
  have q0:=hq.c0
  have q1:=hq.c1
  have p0:=hp.c0
  have p1:=hp.c1
  have p2:=hp.c2
  have p3:=hp.c3
  have p4:=hp.c4
  have p5:=hp.c5
  have a0:=(Zbc hba).1
  have aw0:=(Zbc hbw).1
  have aw1:=(Zbc hbw).2
  have hsz1:=(Array.getElem?_eq_some_iff.1 hba).1
  unfold Sl.val at HRUN a0 aw0 HW2

  unfold btV Rx.val Rw.val
  simp only
  clear h hc hf hq hp hS1 hc0 hc1 hfY hkY hvY hrkY hY hba hrun hbw e1 e2 e3 e4 e5 e6 hbel hkind hsz hpw hW2
  go_enter Tryz.func72,Tryz.ntmps72
  go_upto_region 1 with fail
  rw [← HW1.out]
  go_upto_region 2 with (at_builtin;refine Zak _ rfl 68 (.tmp 6) (.tmp 10) rfl (.slice sA.a sA.len sA.cap) (.slice (some ⟨W1.heap.size,0,none⟩) 1 1) (.slice s'.a s'.len s'.cap) rfl rfl W HRUN.out ?_)
  rw [← HW2.out]
  refine Pl.q8 (ops:=Pl.find 2 ((Tryz.f72.body).getD .skip)) ?_
  refine ZoT W2 (w.heap.size+1) bR r (.slice a n cp) sR (rkS S) HPW.out HE2.out HE4.out HKY.out HRL.out (by rfl) (by rfl) (by rfl) (by rfl) ?_
  intro u w' hend
  have HEND:=hide (HFA.out w' hend)
  clear hend
  simp only [Act.put,List.setIfInBounds_toArray,List.set_cons_zero,List.set_cons_succ]
  go_end0
  exact⟨rfl,HEND.out⟩
def ZeY (l : List Lf) : Prop := ∀ f ∈ l, ∀ x ∈ f.slots, x ≠ [] → decH x ≠ none
def ZnO (w0 : World) (bA bR : Nat) (l : List Lf) (e : Ending) (w' : World) : Prop :=
  (ZeY l ∧ e = .returned (.bool true) ∧ ∃ S, Stk w0 w' bA bR S ∧ S.map Sx.hr = allH l) ∨ (¬ ZeY l ∧ e = .returned (.bool false) ∧ Below w0.heap.size w0 w')
theorem Zc8 : ∀ (l : List Lf) (i : Nat), (∀ f ∈ l, f.slots.length ≤ 64) → (rowsH l i).length ≤ l.length * 64
  | [], _, _ => by simp [rowsH]
  | f :: l, i, h => by
    have h1 := Zc8 l (i + 1) (fun g hg => h g (List.mem_cons_of_mem _ hg))
    have h2 := Zdx i f.slots 0
    have h3 := h f (List.mem_cons_self ..)
    simp only [rowsH, List.length_append, List.length_cons]
    omega
theorem Zli {l : List Lf} (h : ∀ a, a < l.length → ∀ b, b < (lf l a).slots.length → sl (lf l a).slots b ≠ [] → decH (sl (lf l a).slots b) ≠ none) : ZeY l := by
 intro f hf x hx hn
 obtain ⟨a, ha, rfl⟩ := List.getElem_of_mem hf
 obtain ⟨b, hb, rfl⟩ := List.getElem_of_mem hx
 have := h a ha b (by rw [Zdo ha]; exact hb)
 rw [Zdo ha, ZcI hb] at this
 exact this hn
theorem Zlj {l : List Lf} (ha : a < l.length) (hb : b < (lf l a).slots.length) (hn : sl (lf l a).slots b ≠ []) (hd : decH (sl (lf l a).slots b) = none) : ¬ ZeY l := by
 intro h
 refine h (lf l a) (Zby ha) (sl (lf l a).slots b) ?_ hn hd
 rw [ZcI hb]
 exact List.getElem_mem hb
theorem ZlW (w : World) (x : Sl) : Calls Tryz.prog 92 #[x.val] w fun e w' => e = .returned (.bool (decide (x.len = 0))) ∧ w' = w := by
 obtain ⟨a, n, c⟩ := x
 unfold Sl.val
 simp only
 by_cases h : n = 0
 · subst h
   go_enter Tryz.func92, Tryz.ntmps92
   go_wp2_with fail
   go_ret
   exact ⟨rfl, rfl⟩
 · have i1 : ¬ (n : Int) = 0 := by omega
   have i2 : ((n : Int) == 0) = false := by simp [h]
   rw [decide_eq_false h]
   go_enter Tryz.func92, Tryz.ntmps92
   go_wp2_with fail
   go_ret
   exact ⟨by simp, rfl⟩
theorem ZlC (w0 w:World)(s:Sl)(L:List Lb)(bA bR:Nat)(h:Gl (fun _=>True) w0 s L)(hm:∀f∈lfs L,MayL f)(h62:s.len≤62)(hS:Stk w0 w bA bR []) :
    Calls Tryz.prog 71 #[s.val,.func (.func 72) #[] #[.pointer (some ⟨bA,0,none⟩),.pointer (some ⟨bR,0,none⟩)]] w (ZnO w0 bA bR (lfs L)):=by
  obtain⟨a,len,cap⟩:=s
  have hsf:∀(w:World) (a:Addr) (m:Mode) (x:Nat),(store a (.float .f64 x) m).run Tryz.prog w=stored Tryz.prog w a (.float .f64 x) m:=fun w a m x=>run_store Tryz.prog w a _ m rfl
  have H:=hide h
  have HS:=hide hS
  have h62':len≤62:=h62
  have HL:Hid (L.length=len):=h.len
  have HM64:Hid (∀f∈lfs L,f.slots.length≤64):=fun f hf=>(hm f hf).slots.1
  clear h hm h62 hS
  unfold Sl.val
  simp only
  go_enter Tryz.func71,Tryz.ntmps71
  go_wp2_with fail
  go_loopw [13] (fun iv wr=>∃(i:Nat) (S:List Sx),i≤len∧iv=.int .i64 (i:Nat)∧Hid (Stk w0 wr bA bR S)∧Hid (S.map Sx.hr=rowsH ((lfs L).take i) 0)∧Hid (∀p,p<i→∀b,b<(lf (lfs L) p).slots.length→sl (lf (lfs L) p).slots b ≠ []→decH (sl (lf (lfs L) p).slots b)≠none)) (fun iv _=>len-(intOf iv).toNat)
  case atStart=>exact ⟨0,[],Nat.zero_le _,rfl,HS,rfl,fun p hp=>absurd hp (Nat.not_lt_zero _)⟩
  case round =>
   clear HS
   obtain⟨i,S,hi,rfl,hI,hrows,hok⟩:=hrel
   rcases Nat.lt_or_ge i len with hlt | hge
   · have j1:(i:Int)<(len:Int):=by omega
     have hgw:=H.out.below hI.out.below (Nat.le_refl _)
     have hlt':i<(Sl.mk a len cap).len:=hlt
     obtain⟨b,off,ha,c0,c1⟩:=hgw.cell i hlt'
     replace ha:a=some ⟨b,off,none⟩:=ha
     subst ha
     have hit:=(hgw.at hlt').2
     have hlf:=Zcl L i
     have hlm:lf (lfs L) i∈lfs L:=Zby (by rw [Za6,HL.out];exact hlt)
     have h64:=HM64.out _ hlm
     obtain⟨x,hx⟩:∃x,x=L.getD i Lb.zero:=⟨_,rfl⟩
     rw [← hx] at c0 c1 hit hlf
     obtain⟨xu,⟨va,vn,vc⟩,xt,xl⟩:=x
     have hvl:xl.length=vn:=hit.len
     have HGB:Hid (Gb (fun _=>True) wr ⟨va,vn,vc⟩ xl):=hit
     have HGW:Hid (∀wx,Below w0.heap.size w0 wx→Gb (fun _=>True) wx ⟨va,vn,vc⟩ xl):=fun wx hb=>by
      have:=((H.out.below hb (Nat.le_refl _)).at hlt').2
      rw [← hx] at this
      exact this
     have HSL:Hid ((lf (lfs L) i).slots=bss xl):=by show _=_;rw [hlf];rfl
     have HSN:Hid ((bss xl).length=vn):=by show _=_;rw [Zah];exact hvl
     have hv64:vn≤64:=by rw [HSL.out,HSN.out] at h64;exact h64
     have HLD:=hide (ZaZ (b:=b) (o:=off+i*2) c0 c1)
     have hbal:=Zaa wr (.cells #[xu.val,.slice va vn vc] 67)
     have HGA:=hide (HGB.out.below hbal (Nat.le_refl _))
     have HIA:=hide (hI.out.keep hbal)
     have HR0:Hid (S.map Sx.hr=rowsH ((lfs L).take i) 0 ++ rowsS i ((bss xl).take 0) 0):=by
      show _=_
      rw [List.take_zero]
      unfold rowsS
      rw [List.append_nil]
      exact hrows.out
     have HTK:Hid ((rowsH ((lfs L).take i) 0).length≤62*64):=by
      show _≤_
      have h1:=Zc8 ((lfs L).take i) 0 (fun f hf=>HM64.out f (List.mem_of_mem_take hf))
      rw [List.length_take] at h1
      have:min i (lfs L).length*64≤62*64:=Nat.mul_le_mul_right _ (by omega)
      omega
     have hll:=HL.out
     have HIL:Hid (i<(lfs L).length):=by show _<_;rw [Za6];omega
     unfold lfV Sl.val at HLD
     unfold Sl.val at hbal HGA HIA
     simp only at HLD
     clear hgw hit hx hI c0 c1 hvl hlf hlm h64 hrows hll
     go_upto_block 2 with (refine Zas _ rfl 67 (.tmp 16) rfl (.pointer (some ⟨b,off+i*2,none⟩)) (.agg #[.slice xu.a xu.len xu.cap,.slice va vn vc]) rfl HLD.out ?_)
     go_wp2_with fail
     generalize hWB:wr.alloc (.cells #[.slice xu.a xu.len xu.cap,.slice va vn vc] 67)=WB at *
     go_loopw [21] (fun kv wr2=>∃(k:Nat) (S:List Sx),k≤vn∧kv=.int .i64 (k:Nat)∧Hid (Stk w0 wr2 bA bR S)∧Hid (S.map Sx.hr=rowsH ((lfs L).take i) 0 ++ rowsS i ((bss xl).take k) 0)∧Hid (∀b,b<k→sl (bss xl) b ≠ []→decH (sl (bss xl) b)≠none)) (fun kv _=>vn-(intOf kv).toNat)
     case atStart=>exact ⟨0,S,Nat.zero_le _,rfl,HIA,HR0,fun b hb=>absurd hb (Nat.not_lt_zero _)⟩
     case round =>
      rename World=>wr2
      obtain⟨k,S,hk,rfl,hI2,hR2,hok2⟩:=hrel
      rcases Nat.lt_or_ge k vn with hkl | hkg
      · have j2:(k:Int)<(vn:Int):=by omega
        have hgb:=HGW.out wr2 hI2.out.below
        have hkl':k<(Sl.mk va vn vc).len:=hkl
        obtain⟨vb,vo,hva,e0⟩:=hgb.cell k hkl'
        replace hva:va=some ⟨vb,vo,none⟩:=hva
        subst hva
        have hcm:=(hgb.at hkl').1
        obtain⟨⟨sa,sn,sc⟩,hsb⟩:∃s,s=(xl.getD k Sb.zero).s:=⟨_,rfl⟩
        rw [← hsb] at e0 hcm
        have hsl:(sl (bss xl) k).length=sn:=hcm.came.bs.1
        have hD:=hide (Zlf sa sn sc (sl (bss xl) k) wr2 hcm.came)
        have hE:=hide (ZlW wr2 ⟨sa,sn,sc⟩)
        unfold Sl.val at e0 hE
        simp only at e0 hE
        have hsno:=Zf6 (i:=i) (s:=bss xl) (k:=k) (by rw [HSN.out];exact hkl)
        have HSNOC:=hide hsno
        have HSLEN:=hide hsl
        clear hgb hcm hsb hsno hsl
        by_cases hz:sn=0
        · have hnil:sl (bss xl) k=[]:=List.length_eq_zero_iff.1 (by rw [HSLEN.out];exact hz)
          have hN:Hid (S.map Sx.hr=rowsH ((lfs L).take i) 0 ++ rowsS i ((bss xl).take (k+1)) 0):=by
           show _=_
           rw [HSNOC.out,hnil,show decH []=none by kernel_rfl]
           simp only [List.append_nil]
           exact hR2.out
          have hok3:Hid (∀b,b<k+1→sl (bss xl) b ≠ []→decH (sl (bss xl) b)≠none):=by
           intro b hb hn
           rcases Nat.lt_or_ge b k with h | h
           · exact hok2.out b h hn
           · exact absurd (by rw [show b=k by omega];exact hnil) hn
          have hdz:decide (sn=0)=true:=decide_eq_true hz
          rw [hdz] at hE
          clear hnil HSNOC HSLEN hR2 hok2 hD hz hdz
          go_wp2_with fail
          refine hE.out.mono ?_
          rintro e w1 ⟨rfl,hw⟩
          subst hw
          go_wp2_with fail
          go_roundw
          case rel=>exact ⟨k+1,S,by omega,by go_num,hI2,hN,hok3⟩
          case measure=>simp only [intOf];omega
        · have hdz:decide (sn=0)=false:=decide_eq_false hz
          rw [hdz] at hE
          have hne:sl (bss xl) k ≠ []:=fun h=>hz (by rw [← HSLEN.out,h];rfl)
          have hbk:Hid (k<(lf (lfs L) i).slots.length):=by show _<_;rw [HSL.out,HSN.out];exact hkl
          clear hdz HSLEN
          go_wp2_with fail
          refine hE.out.mono ?_
          rintro e w1 ⟨rfl,hw⟩
          subst hw
          go_wp2_with fail
          refine hD.out.mono ?_
          intro e w3 ht
          have HI3:Hid (Stk w0 w3 bA bR S):=hI2.out.keep ht.1
          cases hd:decH (sl (bss xl) k) with
          | none =>
           have hre:=ht.2.1 hd
           subst hre
           have hA:=Zaa w3 (.cells #[.float .f64 0,.bool false,.slice none 0 0,.int .i64 0,.int .i64 0,.int .i64 0] 33)
           have hNO:Hid (¬ZeY (lfs L)):=Zlj HIL.out hbk.out (by rw [HSL.out];exact hne) (by rw [HSL.out];exact hd)
           have hEB:=hide ((HI3.out.keep hA).below)
           clear ht hd hD hA e0 HI3 hR2 hok2 HSNOC hbk
           unfold ZcF
           go_wp2_with fail
           go_ret
           exact .inr ⟨hNO.out,rfl,hEB.out⟩
          | some r =>
           obtain⟨hrf,ra,rl,rc,hre,hfs,hown⟩:=ht.2.2 r hd
           subst hre
           rw [hd] at HSNOC
           simp only at HSNOC
           have hA:=Zaa w3 (.cells #[.float .f64 r.key,.bool r.dead,.slice ra rl rc,.int .i64 r.wr,.int .i64 r.cell,.int .i64 r.no] 33)
           have hX:=Zag w3 r (.slice ra rl rc)
           have hI4:=HI3.out.keep hA
           have hcl:ColF (w3.alloc (.cells #[.float .f64 r.key,.bool r.dead,.slice ra rl rc,.int .i64 r.wr,.int .i64 r.cell,.int .i64 r.no] 33)) ⟨r,ra,rl,rc⟩:=(ColF.owns hown hfs).keep hA
           have hN:Hid ((S ++ [(⟨i,k,⟨r,ra,rl,rc⟩⟩:Sx)]).map Sx.hr=rowsH ((lfs L).take i) 0 ++ rowsS i ((bss xl).take (k+1)) 0):=by
            show _=_
            rw [HSNOC.out,← List.append_assoc,← hR2.out,List.map_append]
            rfl
           have hok3:Hid (∀b,b<k+1→sl (bss xl) b ≠ []→decH (sl (bss xl) b)≠none):=by
            intro b hb hn
            rcases Nat.lt_or_ge b k with h | h
            · exact hok2.out b h hn
            · rw [show b=k by omega,hd];exact (fun h=>by cases h)
           have hSl:S.length+1≤100000:=by
            have h1:=congrArg List.length hR2.out
            rw [List.length_map,List.length_append] at h1
            have h2:=HTK.out
            have h3:=Zdx i ((bss xl).take k) 0
            rw [List.length_take] at h3
            omega
           unfold Rw.val
           have hst:=Zct r.key r.dead ra rl rc r.wr r.cell r.no w3
           generalize hW4:w3.alloc (.cells #[.float .f64 r.key,.bool r.dead,.slice ra rl rc,.int .i64 r.wr,.int .i64 r.cell,.int .i64 r.no] 33)=W4 at hX hI4 hcl hst
           have HP:=hide (Zmp hI4 ⟨i,k,⟨r,ra,rl,rc⟩⟩ hcl hrf hSl)
           have x0:=hX.c0
           have x1:=hX.c1
           have x2:=hX.c2
           have x3:=hX.c3
           have x4:=hX.c4
           have x5:=hX.c5
           have HST:=hide hst
           clear ht hd hD HI3 hA e0 hX hI4 hcl hfs hown HSNOC hSl hrf hW4 hst hR2 hok2 hbk hI2 hE
           unfold Rx.val btV at HP
           simp only at HP
           go_wp2_with (first | refine Zab _ rfl rfl 33 (.tmp 9) (.tmp 31) rfl (.pointer (some ⟨w3.heap.size,0,none⟩)) (.agg #[.float .f64 r.key,.bool r.dead,.slice ra rl rc,.int .i64 r.wr,.int .i64 r.cell,.int .i64 r.no]) rfl rfl W4 HST.out ?_)
           refine HP.out.mono ?_
           rintro e w5 ⟨rfl,hS5⟩
           go_wp2_with fail
           go_roundw
           case rel=>exact ⟨k+1,S ++ [(⟨i,k,⟨r,ra,rl,rc⟩⟩:Sx)],by omega,by go_num,hide hS5,hN,hok3⟩
           case measure=>simp only [intOf];omega
      · have j2:¬(k:Int)<(vn:Int):=by omega
        have e0:k=vn:=by omega
        have HN:Hid (S.map Sx.hr=rowsH ((lfs L).take (i+1)) 0):=by
         have:=hR2.out
         rw [e0,List.take_of_length_le (l:=bss xl) (by rw [HSN.out];exact Nat.le_refl _),← HSL.out] at this
         show _=_
         rw [Zf4 HIL.out]
         exact this
        have HOK:Hid (∀p,p<i+1→∀b,b<(lf (lfs L) p).slots.length→sl (lf (lfs L) p).slots b ≠ []→decH (sl (lf (lfs L) p).slots b)≠none):=by
         intro p hp b hb hn
         rcases Nat.lt_or_ge p i with h | h
         · exact hok.out p h b hb hn
         · have hpi:p=i:=by omega
           subst hpi
           rw [HSL.out] at hb hn ⊢
           exact hok2.out b (by rw [HSN.out] at hb;omega) hn
        clear hR2 hok2 hok e0
        go_wp2_with fail
        go_roundw
        case rel=>exact ⟨i+1,S,by omega,by go_num,hI2,HN,HOK⟩
        case measure=>simp only [intOf];omega
   · have j1:¬(i:Int)<(len:Int):=by omega
     have e0:i=len:=by omega
     have HT:Hid (S.map Sx.hr=allH (lfs L)):=by
      have:=hrows.out
      rw [e0,List.take_of_length_le (by rw [Za6,HL.out];exact Nat.le_refl _)] at this
      exact this
     have HOK:Hid (ZeY (lfs L)):=Zli (fun p hp=>hok.out p (by rw [Za6,HL.out] at hp;omega))
     clear hrows hok e0
     go_wp2_with fail
     go_ret
     exact .inl ⟨HOK.out,rfl,S,hI.out,HT.out⟩
def upK (a b : Rw) : Prop := Fl.rk a.key < Fl.rk b.key
theorem Zgd {a b : Nat} (ha : a < 18446744073709551616) (hb : b < 18446744073709551616) : Fl.less a b = true ↔ Fl.rk a < Fl.rk b := by
  rw [← Fl.rk_less a b ha hb]; simp
theorem Zme {a b : Nat} (ha : a < 18446744073709551616) (hb : b < 18446744073709551616) : Fl.less a b = false ↔ Fl.rk b ≤ Fl.rk a := by
  rw [← Fl.rk_less a b ha hb]; simp
theorem ZmL {a b : Nat} (ha : a < 18446744073709551616) (hb : b < 18446744073709551616) (ka : Fl.key a = a) (kb : Fl.key b = b) (h : Fl.rk a = Fl.rk b) : a = b := by
  rw [← ka, ← kb, ← Fl.of_rk a ha, ← Fl.of_rk b hb, h]
structure ZeS (r : Rw) : Prop where
  fit : r.key < 18446744073709551616
  key : Fl.key r.key = r.key
theorem Zit (r : Rw) : insK [] r = [r] := rfl
theorem ZgC (x : Rw) (l : List Rw) (r : Rw) : insK (x :: l) r = if Fl.less x.key r.key = true then x :: insK l r else r :: x :: l := by
 unfold insK
 by_cases h : Fl.less x.key r.key = true
 · rw [if_pos h, show posK r.key (x :: l) = posK r.key l + 1 by rw [posK, if_pos h]]
   simp
 · rw [if_neg h, show posK r.key (x :: l) = 0 by rw [posK, if_neg h]]
   simp
theorem Zdl {r z : Rw} : ∀ {l : List Rw}, z ∈ insK l r ↔ z = r ∨ z ∈ l
  | [] => by simp [Zit]
  | x :: l => by
    rw [ZgC]
    split
    · rw [List.mem_cons, Zdl (l := l), List.mem_cons]
      constructor
      · rintro (h | h | h)
        · exact .inr (.inl h)
        · exact .inl h
        · exact .inr (.inr h)
      · rintro (h | h | h)
        · exact .inr (.inl h)
        · exact .inl h
        · exact .inr (.inr h)
    · rw [List.mem_cons]
theorem Zk1 (hr : ZeS r) : ∀ {l : List Rw}, (∀ x ∈ l, ZeS x ∧ x.key ≠ r.key) → l.Pairwise upK → (insK l r).Pairwise upK
 | [], _, _ => by rw [Zit]; exact List.pairwise_singleton _ _
 | x :: l, hg, hp => by
  obtain ⟨hx, hl⟩ := List.pairwise_cons.1 hp
  have hgx := hg x List.mem_cons_self
  rw [ZgC]
  split
  · rename_i h
    refine List.pairwise_cons.2 ⟨fun z hz => ?_, Zk1 hr (fun y hy => hg y (List.mem_cons_of_mem _ hy)) hl⟩
    rcases Zdl.1 hz with rfl | hz
    · exact (Zgd hgx.1.fit hr.fit).1 h
    · exact hx z hz
  · rename_i h
    have h1 : Fl.rk r.key ≤ Fl.rk x.key := (Zme hgx.1.fit hr.fit).1 (by simpa using h)
    have h2 : Fl.rk r.key ≠ Fl.rk x.key := fun e => hgx.2 (ZmL hr.fit hgx.1.fit hr.key hgx.1.key e).symm
    have h3 : upK r x := Nat.lt_of_le_of_ne h1 h2
    refine List.pairwise_cons.2 ⟨fun z hz => ?_, hp⟩
    rcases List.mem_cons.1 hz with rfl | hz
    · exact h3
    · exact Nat.lt_trans h3 (hx z hz)
theorem Zlw : ∀ {l m : List Rw}, l.Pairwise upK → m.Pairwise upK → (∀ z, z ∈ l ↔ z ∈ m) → l = m
 | [], [], _, _, _ => rfl
 | [], y :: m, _, _, h => by have := (h y).2 List.mem_cons_self; cases this
 | x :: l, [], _, _, h => by have := (h x).1 List.mem_cons_self; cases this
 | x :: l, y :: m, h1, h2, h => by
  obtain ⟨hx, hl⟩ := List.pairwise_cons.1 h1
  obtain ⟨hy, hm⟩ := List.pairwise_cons.1 h2
  have irr : ∀ z : Rw, ¬ upK z z := fun z => Nat.lt_irrefl _
  have e : x = y := by
   rcases List.mem_cons.1 ((h x).1 List.mem_cons_self) with e | hx'
   · exact e
   · rcases List.mem_cons.1 ((h y).2 List.mem_cons_self) with e | hy'
     · exact e.symm
     · exact absurd (Nat.lt_trans (hx y hy') (hy x hx')) (irr x)
  subst e
  rw [Zlw hl hm (fun z => ⟨fun hz => ?_, fun hz => ?_⟩)]
  · rcases List.mem_cons.1 ((h z).1 (List.mem_cons_of_mem _ hz)) with e | h'
    · subst e; exact absurd (hx z hz) (irr z)
    · exact h'
  · rcases List.mem_cons.1 ((h z).2 (List.mem_cons_of_mem _ hz)) with e | h'
    · subst e; exact absurd (hy z hz) (irr z)
    · exact h'
def inK (lo hi : Nat) (r : Rw) : Prop := Fl.less r.key lo = false ∧ Fl.less r.key hi = true
theorem Znf {lo hi:Nat}:∀(l:List Hr)(o:List Rw),(∀h∈l,ZeS h.r)→ZbD l→(∀x∈o,ZeS x)→o.Pairwise upK→(∀x∈o,∀h∈l,x.key≠h.r.key) →
    (l.foldl (Zec lo hi) o).Pairwise upK∧(∀x∈l.foldl (Zec lo hi) o,ZeS x)∧∀z,z∈l.foldl (Zec lo hi) o↔z∈o∨∃h∈l,h.r=z∧inK lo hi z
  | [],o,_,_,hg,hp,_=>⟨hp,hg,fun z=>by simp⟩
  | h :: l,o,hl,h1,hg,hp,hd=>by
   obtain⟨hh,h1'⟩:=List.pairwise_cons.1 h1
   have hgh:=hl h List.mem_cons_self
   rw [List.foldl_cons]
   by_cases hc:(Fl.less h.r.key lo || !(Fl.less h.r.key hi))=true
   · rw [show Zec lo hi o h=o by rw [Zec,if_pos hc]]
     obtain⟨a,b,c⟩:=Znf l o (fun x hx=>hl x (List.mem_cons_of_mem _ hx)) h1' hg hp (fun x hx g hg'=>hd x hx g (List.mem_cons_of_mem _ hg'))
     refine⟨a,b,fun z=>?_⟩
     rw [c z]
     constructor
     · rintro (hz | ⟨g,hg',rfl,hi'⟩)
       · exact .inl hz
       · exact .inr ⟨g,List.mem_cons_of_mem _ hg',rfl,hi'⟩
     · rintro (hz | ⟨g,hg',rfl,hi'⟩)
       · exact .inl hz
       · rcases List.mem_cons.1 hg' with rfl | hg'
         · rw [hi'.1,hi'.2] at hc;cases hc
         · exact .inr ⟨g,hg',rfl,hi'⟩
   · rw [show Zec lo hi o h=insK o h.r by rw [Zec,if_neg hc]]
     have hin:inK lo hi h.r:=by
      cases q1:Fl.less h.r.key lo <;> cases q2:Fl.less h.r.key hi <;> rw [q1,q2] at hc <;> first | exact ⟨q1,q2⟩ | exact absurd rfl hc
     obtain⟨a,b,c⟩:=Znf l (insK o h.r) (fun x hx=>hl x (List.mem_cons_of_mem _ hx)) h1' (fun x hx=>by rcases Zdl.1 hx with rfl | hx;exact hgh;exact hg x hx) (Zk1 hgh (fun x hx=>⟨hg x hx,hd x hx h List.mem_cons_self⟩) hp) (fun x hx g hg'=>by
      rcases Zdl.1 hx with rfl | hx
      · exact hh g hg'
      · exact hd x hx g (List.mem_cons_of_mem _ hg'))
     refine⟨a,b,fun z=>?_⟩
     rw [c z,Zdl]
     constructor
     · rintro ((rfl | hz) | ⟨g,hg',rfl,hi'⟩)
       · exact .inr ⟨h,List.mem_cons_self,rfl,hin⟩
       · exact .inl hz
       · exact .inr ⟨g,List.mem_cons_of_mem _ hg',rfl,hi'⟩
     · rintro (hz | ⟨g,hg',rfl,hi'⟩)
       · exact .inl (.inr hz)
       · rcases List.mem_cons.1 hg' with rfl | hg'
         · exact .inl (.inl rfl)
         · exact .inr ⟨g,hg',rfl,hi'⟩
theorem ZkY {lo hi : Nat} {l : List Hr} (hl : ∀ h ∈ l, ZeS h.r) (h1 : ZbD l) : (ZaH lo hi l).Pairwise upK ∧ (∀ x ∈ ZaH lo hi l, ZeS x) ∧ ∀ z, z ∈ ZaH lo hi l ↔ ∃ h ∈ l, h.r = z ∧ inK lo hi z := by
 obtain ⟨a, b, c⟩ := Znf (lo := lo) (hi := hi) l [] hl h1 (fun x hx => by cases hx) List.Pairwise.nil (fun x hx => by cases hx)
 exact ⟨a, b, fun z => by rw [show ZaH lo hi l = l.foldl (Zec lo hi) [] from rfl, c z]; simp⟩
end Go.Proofs.YtdojdcncncgncaaGreat
