/-
  Lemmas.
-/
import Derived.Test.YtdojdcncncgncaaGreatKobb
import Derived.Test.YtdojdcncncgncaaGreatKoar
namespace Go.Proofs.YtdojdcncncgncaaGreat
open Go.RowKit
set_option linter.unusedVariables false
set_option maxRecDepth 100000
set_option maxHeartbeats 4000000
variable {n:Nat}{w0 w:World}{s:Sl}{L:List Lb}
open Go.ChangeShapes Go.WideShapes Go.ChangeAt Go.RowKit
section
variable {H : Type} {enc : TypeId × Value → H} {w : World} {base : Nat} {spare : Nat → Bool} {held : Bool}
theorem ZkR {k:Nat}{c0 c1 c2 c3 c4 c5:Value}{y:DataW H × List MemPlace}(hf:DataW.trod enc Tryz.prog w base spare held k 33 [c0,c1,c2,c3,c4,c5]=some y) :
    ∃(R:Rw) (a:Option Addr) (len cap:Nat),[c0,c1,c2,c3,c4,c5]=[.float .f64 R.key,.bool R.dead,.slice a len cap,.int .i64 R.wr,.int .i64 R.cell,.int .i64 R.no]∧Fs w a len cap R.xs∧R.fits:=by
  have hR:Tryz.prog.cellsOf 31=2:=by kernel_rfl
  have h1:Tryz.prog.cellsOf 23=1:=by kernel_rfl
  have h2:Tryz.prog.cellsOf 4=1:=by kernel_rfl
  have h3:Tryz.prog.cellsOf 29=1:=by kernel_rfl
  have h4:Tryz.prog.cellsOf 3=1:=by kernel_rfl
  obtain⟨xs,n,_,_,_,hlen,hfd⟩:=DataW.trod_struct Tryz.underlying33 hf
  match xs,hlen with
  | [y0,y1,y2,y3,y4],_ =>
   have t0:DataW.trod enc Tryz.prog w base spare held n 23 [c0]=some y0:=by simpa [Value.cells,h1] using hfd 0 _ rfl
   have t1:DataW.trod enc Tryz.prog w base spare held n 4 [c1]=some y1:=by simpa [Value.cells,h2] using hfd 1 _ rfl
   have t2:DataW.trod enc Tryz.prog w base spare held n 29 [c2]=some y2:=by simpa [Value.cells,h3] using hfd 2 _ rfl
   have t3:DataW.trod enc Tryz.prog w base spare held n 3 [c3]=some y3:=by simpa [Value.cells,h4] using hfd 3 _ rfl
   have t4:DataW.trod enc Tryz.prog w base spare held n 31 [c4,c5]=some y4:=by simpa [Value.cells,hR] using hfd 4 _ rfl
   obtain⟨b,e0,l0⟩:=ZeZ t0
   obtain⟨bb,e1,_⟩:=DataW.trod_bool (by kernel_rfl:Tryz.prog.underlying 4=some .bool) t1
   obtain⟨k3,e3,_,w3⟩:=DataW.trod_int Tryz.underlying3 t3
   obtain⟨z0,z1,n',_,_,u0,u1⟩:=trod_struct2 Tryz.underlying31 t4
   replace u0:DataW.trod enc Tryz.prog w base spare held n' 3 [c4]=some z0:=by simpa [h4] using u0
   replace u1:DataW.trod enc Tryz.prog w base spare held n' 3 [c5]=some z1:=by simpa [h4] using u1
   obtain⟨k4,e4,_,w4⟩:=DataW.trod_int Tryz.underlying3 u0
   obtain⟨k5,e5,_,w5⟩:=DataW.trod_int Tryz.underlying3 u1
   obtain⟨a,len,cap,e2⟩:=Go.Joins.slice_form Tryz.underlying29 t2
   simp only [List.cons.injEq,and_true] at e1 e2 e3 e4 e5
   subst e0 e1 e2 e3 e4 e5
   obtain⟨fl,hfs⟩:=ZlY t2
   exact⟨⟨b,bb,fl,k3,k4,k5⟩,a,len,cap,rfl,hfs,⟨l0,hfs.fit,w3,w4,w5⟩⟩
theorem ZnG {a:Option Addr}{len cap:Nat}{y:DataW H × List MemPlace}(h:DataW.trod enc Tryz.prog w base spare held n 38 [.slice a len cap]=some y) :
    ∃l,Rz w a len l∧len≤9223372036854775807:=by
  have hC:Tryz.prog.cellsOf 33=6:=by kernel_rfl
  rcases Go.Deep.open_slice Tryz.underlying38 h with ⟨hcs,_⟩ | ⟨x,l,c,m,k,D,Pl,hcs,hb,hl,hm,hmm,_,hx⟩
  · simp only [List.cons.injEq,Value.slice.injEq,and_true] at hcs
    obtain⟨rfl,rfl,rfl⟩:=hcs
    exact⟨[],⟨rfl,(fun j hj=>absurd hj (Nat.not_lt_zero _)),(fun x hx=>by cases hx),fun x hx=>by cases hx⟩,by omega⟩
  · simp only [List.cons.injEq,Value.slice.injEq,and_true] at hcs
    obtain⟨rfl,rfl,rfl⟩:=hcs
    have hle:len≤m:=by rw [hmm];split <;> omega
    have hsp:0<len→x.spot=none:=by
     intro h0
     obtain⟨cs,h1,_⟩:=hx 0 (by omega)
     rw [hC] at h1
     obtain⟨_,hlen,hc⟩:=World.cells?_some h1
     match cs,hlen with
     | [c0,c1,c2,c3,c4,c5],_ =>
      have e0:=hc 0 (by omega)
      have:=World.cell?_spot (by simpa using e0)
      simpa [Addr.add] using this
    have each:∀i,i<len→∃t:Rx,∃b off,x=⟨b,off,none⟩∧RwAt w b (off+i*6) t∧Fs w t.a t.n t.c t.r.xs∧t.r.fits:=by
     intro i hi
     obtain⟨cs,g1,g2⟩:=hx i (by omega)
     rw [hC] at g1
     obtain⟨_,hlen,hc⟩:=World.cells?_some g1
     match cs,hlen with
     | [c0,c1,c2,c3,c4,c5],_ =>
      obtain⟨r,ra,rn,rc,ht,hfs,hfit⟩:=ZkR g2
      have hspot:x.spot=none:=hsp (by omega)
      obtain⟨b,off,spot⟩:=x
      simp only at hspot
      subst hspot
      refine⟨⟨r,ra,rn,rc⟩,b,off,rfl,RwAt.of fun q hq=>?_,hfs,hfit⟩
      have e:=hc q (by omega)
      simp only [Addr.add_lit] at e
      unfold Rx.cells
      simp only
      rw [← ht]
      simpa using e
    obtain⟨f,hf⟩:=@Go.Deep.choose_lt Rx ⟨Rx.zero⟩ len _ each
    have hget:∀j,j<len→((List.range len).map f).getD j Rx.zero=f j:=fun j hj=>by simp [List.getD,hj]
    refine⟨(List.range len).map f,⟨by simp,fun j hj=>?_,fun t ht=>?_,fun t ht=>?_⟩,by unfold maxLen at hm;omega⟩
    · obtain⟨b,off,rfl,hat,_⟩:=hf j hj
      refine⟨b,off,rfl,?_⟩
      rw [hget j hj]
      exact hat
    · obtain⟨j,hj,rfl⟩:=List.mem_map.1 ht
      obtain⟨_,_,_,_,hfs,_⟩:=hf j (by simpa using hj)
      exact hfs
    · obtain⟨j,hj,rfl⟩:=List.mem_map.1 ht
      obtain⟨_,_,_,_,_,hfit⟩:=hf j (by simpa using hj)
      exact hfit
end
def Zj4 (l : List Lf) (e : Ending) : Prop := (MayH l ∧ e = .returned (.int .i64 0)) ∨ (¬ MayH l ∧ e = .returned (.int .i64 1))
structure ZmD (F : Prop) : Prop where
  check : ∀ (w : World) (s : Sl) (L : List Lb), Gl (fun _ => True) w s L → Calls Tryz.prog 14 #[s.val] w fun e w' => Zj4 (lfs L) e ∧ Below w.heap.size w w'
  find : ∀ (w : World) (s : Sl) (L : List Lb) (key : Nat), Gl (fun _ => True) w s L → key < 18446744073709551616 → MayH (lfs L) → Calls Tryz.prog 10 #[s.val, .float .f64 key] w (Zec w (lfs L) key)
  findN : ∀ (w : World) (s : Sl) (L : List Lb) (key : Nat), Gl (fun _ => True) w s L → key < 18446744073709551616 → ¬ MayH (lfs L) → Calls Tryz.prog 10 #[s.val, .float .f64 key] w fun e w' => e = .returned (.tuple #[ZcI, btV (0, 0), .bool false]) ∧ Below w.heap.size w w'
  get : ∀ (w : World) (s : Sl) (L : List Lb) (b : Bt), Gl (fun _ => True) w s L → MayH (lfs L) → Calls Tryz.prog 11 #[s.val, btV b] w (Zj6 w (lfs L) b)
  getN : ∀ (w : World) (s : Sl) (L : List Lb) (b : Bt), Gl (fun _ => True) w s L → ¬ MayH (lfs L) → Calls Tryz.prog 11 #[s.val, btV b] w fun e w' => e = .returned (.tuple #[ZcI, .bool false]) ∧ Below w.heap.size w w'
  rows : ∀ (w : World) (s : Sl) (L : List Lb) (lo hi : Nat), Gl (fun _ => True) w s L → lo < 18446744073709551616 → hi < 18446744073709551616 → MayH (lfs L) → Calls Tryz.prog 12 #[s.val, .float .f64 lo, .float .f64 hi] w (Zed w (ZdV lo hi (allH (lfs L))))
  rowsN : ∀ (w : World) (s : Sl) (L : List Lb) (lo hi : Nat), Gl (fun _ => True) w s L → lo < 18446744073709551616 → hi < 18446744073709551616 → ¬ MayH (lfs L) → Calls Tryz.prog 12 #[s.val, .float .f64 lo, .float .f64 hi] w (Zed w [])
  put : ∀ (w : World) (s : Sl) (L : List Lb) (r : Rw) (ra : Option Addr) (rn rc : Nat) (lv : Sl) (live : List Int), Gl (fun _ => True) w s L → Fs w ra rn rc r.xs → r.fits → Gi (fun _ => True) w lv live → MayH (lfs L) → Calls Tryz.prog 20 #[s.val, r.val (.slice ra rn rc), lv.val] w (Zd2 w (putH (lfs L) r live))
  putN : ∀ (w : World) (s : Sl) (L : List Lb) (r : Rw) (ra : Option Addr) (rn rc : Nat) (lv : Sl) (live : List Int), Gl (fun _ => True) w s L → Fs w ra rn rc r.xs → r.fits → Gi (fun _ => True) w lv live → ¬ MayH (lfs L) → Calls Tryz.prog 20 #[s.val, r.val (.slice ra rn rc), lv.val] w (Zd2 w ⟨[], (0, 0), 1⟩)
  set : F → ∀ (w : World) (s : Sl) (L : List Lb) (b : Bt) (r : Rw) (ra : Option Addr) (rn rc : Nat) (lv : Sl) (live : List Int), Gl (fun _ => True) w s L → Fs w ra rn rc r.xs → r.fits → Gi (fun _ => True) w lv live → MayH (lfs L) → Calls Tryz.prog 21 #[s.val, btV b, r.val (.slice ra rn rc), lv.val] w (Zbv w (layH (lfs L) b r true live))
  setN : F → ∀ (w : World) (s : Sl) (L : List Lb) (b : Bt) (r : Rw) (ra : Option Addr) (rn rc : Nat) (lv : Sl) (live : List Int), Gl (fun _ => True) w s L → Fs w ra rn rc r.xs → r.fits → Gi (fun _ => True) w lv live → ¬ MayH (lfs L) → Calls Tryz.prog 21 #[s.val, btV b, r.val (.slice ra rn rc), lv.val] w (Zbv w ⟨[], 1⟩)
  lay : F → ∀ (w : World) (s : Sl) (L : List Lb) (b : Bt) (r : Rw) (ra : Option Addr) (rn rc : Nat), Gl (fun _ => True) w s L → Fs w ra rn rc r.xs → r.fits → MayH (lfs L) → Calls Tryz.prog 22 #[s.val, btV b, r.val (.slice ra rn rc)] w (Zbv w (layH (lfs L) b r false []))
  layN : F → ∀ (w : World) (s : Sl) (L : List Lb) (b : Bt) (r : Rw) (ra : Option Addr) (rn rc : Nat), Gl (fun _ => True) w s L → Fs w ra rn rc r.xs → r.fits → ¬ MayH (lfs L) → Calls Tryz.prog 22 #[s.val, btV b, r.val (.slice ra rn rc)] w (Zbv w ⟨[], 1⟩)
  drop : ∀ (w : World) (s : Sl) (L : List Lb) (b : Bt), Gl (fun _ => True) w s L → MayH (lfs L) → Calls Tryz.prog 23 #[s.val, btV b] w (Zbv w (dropH (lfs L) b))
  dropN : ∀ (w : World) (s : Sl) (L : List Lb) (b : Bt), Gl (fun _ => True) w s L → ¬ MayH (lfs L) → Calls Tryz.prog 23 #[s.val, btV b] w (Zbv w ⟨[], 1⟩)
def Zbf (n : Nat) : List Lf := List.replicate n ⟨[0, 0, 0, 0], []⟩
theorem Ziu (n a : Nat) : (lf (Zbf n) a).slots = [] := by
 unfold lf Zbf
 rcases Nat.lt_or_ge a n with h | h
 · simp [List.getD, h]
 · simp [List.getD, h, Lf.zero]
theorem Zd6 (n a b : Nat) : cellH (Zbf n) a b = [] := by
 unfold cellH
 rw [Ziu]
 rfl
theorem Zjh : MayL ⟨[0, 0, 0, 0], []⟩ := by
 refine ⟨⟨rfl, ?_, ?_⟩, ⟨by simp, (fun i hi => absurd hi (Nat.not_lt_zero _)), fun h => absurd rfl h⟩, by decide⟩
 · intro i hi
   have : i = 0 ∨ i = 1 ∨ i = 2 ∨ i = 3 := by omega
   rcases this with rfl | rfl | rfl | rfl <;> decide
 · intro i hi k hk h
   have : k = 0 ∨ k = 1 ∨ k = 2 ∨ k = 3 := by omega
   rcases this with rfl | rfl | rfl | rfl <;> exact absurd rfl h
theorem ZcB {n : Nat} (h1 : 1 ≤ n) (h2 : n ≤ 62) : MayH (Zbf n) := by
  refine Zcl.2 ⟨fun f hf => ?_, fun a b h => absurd (Zd6 n a b) h, fun a b a' b' r r' h => ?_, ?_, ?_⟩
  · rw [(List.mem_replicate.1 hf).2]; exact Zjh
  · rw [Zd6, ZbJ] at h; cases h
  · unfold Zbf; rw [List.length_replicate]; exact h1
  · unfold Zbf; rw [List.length_replicate]; exact h2
structure EmI (w0 w : World) (s : Sl) (L : List Lb) : Prop where
  own : OwnL w s L
  new : ∀ k, s.blk = some k → w0.heap.size ≤ k
  below : Below w0.heap.size w0 w
  it : ∀ x ∈ L, x.v = Sl.nil ∧ x.l = [] ∧ x.t = [0, 0, 0, 0] ∧ ∃ g, x.u = ⟨some ⟨g, 0, none⟩, 4, 4⟩ ∧ w.heap[g]? = some (Obj.cells (Zav [0, 0, 0, 0]).toArray 3 (0, 0))
theorem EmI.lfs (h : EmI w0 w s L) : lfs L = Zbf L.length := by
 unfold Go.Proofs.YtdojdcncncgncaaGreat.lfs Zbf
 rw [List.eq_replicate_iff]
 refine ⟨by simp, fun f hf => ?_⟩
 obtain ⟨x, hx, rfl⟩ := List.mem_map.1 hf
 obtain ⟨_, h2, h3, _⟩ := h.it x hx
 unfold Lb.lf
 rw [h2, h3]
 rfl
theorem EmI.gl (h:EmI w0 w s L)(hm:s.len≤900):Gl (fun _=>True) w s L:=by
 refine h.own.gl hm (fun _ _=>trivial) (fun x hx=>?_)
 obtain⟨h1,h2,h3,g,h4,h5⟩:=h.it x hx
 rw [h1,h2,h3,h4]
 refine⟨⟨rfl,(fun e=>by cases e),Nat.le_refl _,by show 4≤1000000;decide,fun _ _ _=>trivial,fun i hi=>⟨g,0,rfl,?_⟩⟩,Gb.none w⟩
 have hi4:i=0∨i=1∨i=2∨i=3:=by have:i<4:=hi;omega
 rcases hi4 with rfl | rfl | rfl | rfl <;> (rw [cell_of_row _ _ _ _ _ _ h5];rfl)
theorem EmI.start (w : World) : EmI w (w.alloc (.cells #[] 67)) ⟨some ⟨w.heap.size, 0, none⟩, 0, 0⟩ [] := by
 refine ⟨OwnL.new0 w, fun k hk => ?_, Zaa w _, fun x hx => by cases hx⟩
 have e : some w.heap.size = some k := hk
 cases e
 exact Nat.le_refl _
theorem EmI.one (h:EmI w0 w s L)(hl:L.length+1≤900) :
    ∃s' W,(∀ty,(Builtin.append_ #[22,22] ty #[s.val,.slice (some ⟨w.heap.size+1,0,none⟩) 1 1]).run Tryz.prog ((w.alloc (.cells (Zav [0,0,0,0]).toArray 3)).alloc (.cells #[.slice (some ⟨w.heap.size,0,none⟩) 4 4,.slice none 0 0] 67))=.ok s'.val W)∧EmI w0 W s' (L ++ [⟨⟨some ⟨w.heap.size,0,none⟩,4,4⟩,Sl.nil,[0,0,0,0],[]⟩]):=by
  have hA:=Zaa w (.cells (Zav [0,0,0,0]).toArray 3)
  have hB:=Zaa (w.alloc (.cells (Zav [0,0,0,0]).toArray 3)) (.cells #[.slice (some ⟨w.heap.size,0,none⟩) 4 4,.slice none 0 0] 67)
  have hAB:=Zac hA hB
  have hk:OwnL ((w.alloc (.cells (Zav [0,0,0,0]).toArray 3)).alloc (.cells #[.slice (some ⟨w.heap.size,0,none⟩) 4 4,.slice none 0 0] 67)) s L:=Own.frame h.own (fun k hk=>hAB.block k (Own.lt h.own hk))
  have hn:=heap_alloc_new w (.cells (Zav [0,0,0,0]).toArray 3)
  have hn2:((w.alloc (.cells (Zav [0,0,0,0]).toArray 3)).alloc (.cells #[.slice (some ⟨w.heap.size,0,none⟩) 4 4,.slice none 0 0] 67)).heap[w.heap.size]? = some (Obj.cells (Zav [0,0,0,0]).toArray 3 (0,0)):=(hB.block _ (by rw [Zaf];omega)).trans hn
  have hnl:=heap_alloc_new (w.alloc (.cells (Zav [0,0,0,0]).toArray 3)) (.cells #[.slice (some ⟨w.heap.size,0,none⟩) 4 4,.slice none 0 0] 67)
  rw [Zaf] at hnl
  have hsrc:Src Tryz.prog 2 22 (.slice (some ⟨w.heap.size+1,0,none⟩) 1 1) 1 (Za1 [⟨⟨some ⟨w.heap.size,0,none⟩,4,4⟩,Sl.nil,[0,0,0,0],[]⟩]) ((w.alloc (.cells (Zav [0,0,0,0]).toArray 3)).alloc (.cells #[.slice (some ⟨w.heap.size,0,none⟩) 4 4,.slice none 0 0] 67)):=by
   refine Src.ofSlice _ Tryz.underlying22 ⟨w.heap.size+1,0,none⟩ 1 1 _ rfl (fun j u hj=>?_) (Zd8 _)
   rw [Addr.add_lit,cell_of_row _ _ _ _ _ _ hnl]
   simpa [Za1,Sl.val,Sl.nil] using hj
  obtain⟨s',W,hrun,ho,hlen,hfr,hbk⟩:=ZaO Tryz.underlying22 Zm5 rfl (by decide) _ s (Za1 L) hk (Zd8 L) _ 1 _ hsrc (by rw [← OwnL.len h.own];omega) 0
  have hkeep:∀g:Nat,((w.alloc (.cells (Zav [0,0,0,0]).toArray 3)).alloc (.cells #[.slice (some ⟨w.heap.size,0,none⟩) 4 4,.slice none 0 0] 67)).heap[g]? = some (Obj.cells (Zav [0,0,0,0]).toArray 3 (0,0))→W.heap[g]? = some (Obj.cells (Zav [0,0,0,0]).toArray 3 (0,0)):=by
   intro g hg
   refine(hfr.block g (Array.getElem?_eq_some_iff.1 hg).1 (fun e=>?_)).trans hg
   obtain⟨cur,hcur⟩:=Own.kind hk e
   rw [hg] at hcur
   simp only [Option.some.injEq,Obj.cells.injEq] at hcur
   exact absurd hcur.2.1 (by decide)
  refine⟨s',W,fun ty=>hrun,⟨by unfold OwnL;rw [ZfJ];exact ho,fun k e=>?_,?_,fun x hx=>?_⟩⟩
  · rcases hbk with e' | ⟨e',_⟩
    · exact h.new k (by rw [← e'];exact e)
    · rw [e'] at e
      cases e
      have:=h.below.size
      rw [Zaf,Zaf]
      omega
  · have hb0:Below w0.heap.size w0 ((w.alloc (.cells (Zav [0,0,0,0]).toArray 3)).alloc (.cells #[.slice (some ⟨w.heap.size,0,none⟩) 4 4,.slice none 0 0] 67)):=Zac h.below hAB
    exact hb0.trans (hfr.below hb0.size (fun k e=>h.new k e))
  · rcases List.mem_append.1 hx with hx | hx
    · obtain⟨h1,h2,h3,g,h4,h5⟩:=h.it x hx
      exact⟨h1,h2,h3,g,h4,hkeep g ((hAB.block g (Array.getElem?_eq_some_iff.1 h5).1).trans h5)⟩
    · rw [List.mem_singleton.1 hx]
      exact⟨rfl,rfl,rfl,w.heap.size,rfl,hkeep _ hn2⟩
def Zj5 (w : World) (n : Nat) (e : Ending) (w' : World) : Prop := ∃ (s : Sl) (L : List Lb), e = .returned (.slice s.a s.len s.cap) ∧ EmI w w' s L ∧ L.length = n
theorem Zfi (w:World)(n:Nat)(hn:n≤800) :
    Calls Tryz.prog 28 #[.int .i64 (n:Int)] w (Zj5 w n):=by
  have HS:=hide (EmI.start w)
  go_enter Tryz.func28,Tryz.ntmps28
  go_wp2_with fail
  generalize w.alloc (.cells #[] 67)=W0 at *
  go_loopw [3,4] (fun v iv wr=>∃(i:Nat) (s:Sl) (L:List Lb),i≤n∧iv=.int .i64 (i:Nat)∧v=.slice s.a s.len s.cap∧Hid (EmI w wr s L)∧Hid (L.length=i)) (fun _ iv _=>n-(intOf iv).toNat)
  case atStart=>exact ⟨0,_,[],Nat.zero_le _,rfl,rfl,HS,rfl⟩
  case round =>
   obtain⟨i,s,L,hi,rfl,rfl,hE,hL⟩:=hrel
   rcases Nat.lt_or_ge i n with hlt | hge
   · have j1:(i:Int)<(n:Int):=by omega
     obtain⟨s',W,hrun,hE2⟩:=hE.out.one (by rw [hL.out];omega)
     have HR:=hide hrun
     have HE2:=hide hE2
     have HL2:Hid ((L ++ [(⟨⟨some ⟨wr.heap.size,0,none⟩,4,4⟩,Sl.nil,[0,0,0,0],[]⟩:Lb)]).length=i+1):=by show _=_;rw [List.length_append,hL.out];rfl
     have hmk:=Zk6 4 (by decide) wr
     have HMK:=hide hmk
     unfold Sl.val at HR
     clear hrun hE2 hE hmk
     go_wp2_with (first | refine ZeP _ rfl 46 (.const (.int .i64 4)) (.const (.int .i64 4)) rfl (.int .i64 4) (.int .i64 4) (.slice (some ⟨wr.heap.size,0,none⟩) 4 4) rfl rfl _ HMK.out ?_ | (at_builtin;refine Zaj _ rfl 22 (.tmp 11) (.tmp 14) rfl (.slice s.a s.len s.cap) (.slice (some ⟨wr.heap.size+1,0,none⟩) 1 1) (.slice s'.a s'.len s'.cap) rfl rfl W HR.out ?_))
     go_roundw
     case rel=>exact ⟨i+1,s',_,by omega,by go_num,rfl,HE2,HL2⟩
     case measure=>simp only [intOf];omega
   · have j1:¬(i:Int)<(n:Int):=by omega
     have e0:i=n:=by omega
     have HEND:Hid (Zj5 w n (.returned (.slice s.a s.len s.cap)) wr):=⟨s,L,rfl,hE.out,by rw [hL.out,e0]⟩
     clear hE hL e0
     go_wp2_with fail
     go_ret
     exact HEND.out
theorem Zfs {r : Rw} (hm : r.may = true) : insA [] (hpB r) = ⟨[hpB r], 0, 0⟩ := by
 have h := Ze0 hm
 unfold insA
 rw [if_neg (by omega)]
 have e : insS [] (hpB r) = [hpB r] := rfl
 rw [e, if_neg (by simp [need, needS, h])]
 rfl
theorem ZkJ (h1 : 1 ≤ n) (h2 : n ≤ 62) {r : Rw} (hm : r.may = true) (hw : r.wr ≠ 0) : Zhn (Zbf n) r [] 0 := by
 have hn : findH (Zbf n) r.key = none := Zb9.2 (fun a b q hq => by rw [Zd6, ZbJ] at hq; cases hq)
 have h0 : (insA (lf (Zbf n) 0).slots (hpB r)).e = 0 := by rw [Ziu, Zfs hm]
 rcases ZkK (ZcB h1 h2) hm hw hn with ⟨hr, _⟩ | ⟨i, p⟩
 · exact absurd h0 (ZcC.1 hr 0 (by unfold Zbf; rw [List.length_replicate]; exact h1))
 · obtain ⟨_, _, _, h4⟩ := Zbm p.room
   cases i with
   | zero => exact p
   | succ i => exact absurd h0 (h4 0 (by omega))
def awR : Rw := ⟨4613937818241073152, false, [], 5, 0, 0⟩
theorem Zho : awR.may = true := by decide
theorem ZfF : awR.fits := ⟨by decide, (fun x hx => by cases hx), by decide, by decide, by decide⟩
theorem Zm2 : putH (Zbf 2) awR [] = ⟨[⟨[5, 0, 0, 0], [hpB awR]⟩, ⟨[0, 0, 0, 0], []⟩], (0, 0), 0⟩ := by
 have p := ZkJ (n := 2) (by decide) (by decide) Zho (by decide)
 rw [p.is]
 have e : lf (Zbf 2) 0 = ⟨[0, 0, 0, 0], []⟩ := rfl
 have e2 : putL (lf (Zbf 2) 0) awR [] = ⟨[5, 0, 0, 0], [hpB awR]⟩ := by
  unfold putL
  rw [e, Zfs Zho]
  rfl
 rw [e2]
 rfl
def awL : List Lf := [⟨[5, 0, 0, 0], [hpB awR]⟩, ⟨[0, 0, 0, 0], []⟩]
theorem Zm1 : MayH awL := by
 have h := ZgP (ZcB (n := 2) (by decide) (by decide)) ZfF []
 rw [Zm2] at h
 exact h
theorem Zm0 : allH awL = [⟨awR, 0, 0⟩] := by
 unfold awL allH rowsH rowsS
 simp only [Zdb Zho ZfF, rowsS, rowsH, List.append_nil]
theorem ZmH : findH awL 4613937818241073152 = some ⟨awR, 0, 0⟩ := by
 unfold findH
 rw [Zm0]
 rfl
theorem ZmI : ZdV 0 4621256167635550208 (allH awL) = [awR] := by
 rw [Zm0]
 rfl
theorem Zd4 {F:Prop}(HS:ZmD F)(w:World):Calls Tryz.prog 9 #[] w fun e w'=>e=.returned (.bool true)∧Below w.heap.size w w':=by
 have hsf:∀(w:World) (a:Addr) (m:Mode) (x:Nat),(store a (.float .f64 x) m).run Tryz.prog w=stored Tryz.prog w a (.float .f64 x) m:=fun w a m x=>run_store Tryz.prog w a _ m rfl
 have HE:=hide (Zfi w 2 (by decide))
 have HH:=hide HS
 clear HS
 go_enter Tryz.func9,Tryz.ntmps9
 go_wp2_with fail
 refine HE.out.mono ?_
 rintro e w1 ⟨⟨sa,sn,sc⟩,L,rfl,hE,hL⟩
 have hlf:lfs L=Zbf 2:=by rw [hE.lfs,hL]
 have hsn:sn≤900:=by have:=hE.own.len;rw [hL] at this;simp only at this;omega
 have hP:=HH.out.put w1 ⟨sa,sn,sc⟩ L awR none 0 0 Sl.nil [] (hE.gl hsn) (ZjY w1) ZfF (Gi.none w1) (by rw [hlf];exact ZcB (by decide) (by decide))
 rw [hlf,Zm2] at hP
 have HP:=hide hP
 have HB1:=hide hE.below
 unfold Rw.val awR Sl.val Sl.nil at HP
 simp only at HP
 clear hE hL hlf hP hsn HE
 go_wp2_with fail
 refine HP.out.mono ?_
 rintro e w2 ⟨hb2,⟨ta,tn,tc⟩,M,rfl,hM,hMl⟩
 have HB2:=hide (Zac HB1.out hb2)
 have hA:=Zaa w2 (.cells #[.int .i64 0,.int .i64 0] 26)
 have hq:=Za7 w2 (0,0)
 have hst:=ZeK _ w2.heap.size _ hq (0,0)
 have hfr:=Zcs (w2.alloc (.cells #[.int .i64 0,.int .i64 0] 26)) w2.heap.size (0,0)
 have hB3:Below w2.heap.size w2 (setBt (w2.alloc (.cells #[.int .i64 0,.int .i64 0] 26)) w2.heap.size (0,0)):=hA.trans (hfr.below hA.size (fun k hk=>by rw [hk];exact Nat.le_refl _))
 have HQ:=hide (ZaI hq (0,0))
 generalize setBt (w2.alloc (.cells #[.int .i64 0,.int .i64 0] 26)) w2.heap.size (0,0)=W3 at *
 have HST:=hide hst
 have HB3:=hide (Zac HB2.out hB3)
 have HM:=hide (hM.below hB3 (Nat.le_refl _))
 have hMl':lfs M=awL:=hMl
 have hF:=HH.out.find W3 ⟨ta,tn,tc⟩ M 4613937818241073152 HM.out (by decide) (by rw [hMl'];exact Zm1)
 have HF:=hide hF
 have HML:=hide hMl'
 unfold btV at HST
 unfold Sl.val at HF
 simp only at HST HF
 clear hb2 hM hMl hMl' HP hA hq hst hfr hB3 hF
 unfold btV
 go_wp2_with (refine Zab _ rfl rfl 26 (.tmp 2) (.tmp 12) rfl (.pointer (some ⟨w2.heap.size,0,none⟩)) (.agg #[.int .i64 0,.int .i64 0]) rfl rfl W3 HST.out ?_)
 refine HF.out.mono ?_
 intro e w4 ht
 obtain⟨hff,x,hxr,hre,hxc⟩:=ht.2.2 ⟨awR,0,0⟩ (by rw [HML.out];exact ZmH)
 subst hre
 have HB4:=hide (Zac HB3.out ht.1)
 have HQ4:=hide (HQ.out.keep ht.1)
 have HM4:=hide (HM.out.below ht.1 (Nat.le_refl _))
 have hs4:w2.heap.size<w4.heap.size:=HQ4.out.lt
 have hz1:=Zaa w4 (.cells #[.float .f64 0,.bool false,.slice none 0 0,.int .i64 0,.int .i64 0,.int .i64 0] 33)
 have hz2:=Zaa (w4.alloc (.cells #[.float .f64 0,.bool false,.slice none 0 0,.int .i64 0,.int .i64 0,.int .i64 0] 33)) (.cells #[.int .i64 0,.int .i64 0] 26)
 have hzr:RwBlk ((w4.alloc (.cells #[.float .f64 0,.bool false,.slice none 0 0,.int .i64 0,.int .i64 0,.int .i64 0] 33)).alloc (.cells #[.int .i64 0,.int .i64 0] 26)) w4.heap.size zeroR (.slice none 0 0):=(Zai w4 zeroR (.slice none 0 0)).keep hz2
 have hzq:BtBlk ((w4.alloc (.cells #[.float .f64 0,.bool false,.slice none 0 0,.int .i64 0,.int .i64 0,.int .i64 0] 33)).alloc (.cells #[.int .i64 0,.int .i64 0] 26)) (w4.heap.size+1) (0,0):=by
  have:=Za7 (w4.alloc (.cells #[.float .f64 0,.bool false,.slice none 0 0,.int .i64 0,.int .i64 0,.int .i64 0] 33)) (0,0)
  rwa [Zaf] at this
 have hzs:((w4.alloc (.cells #[.float .f64 0,.bool false,.slice none 0 0,.int .i64 0,.int .i64 0,.int .i64 0] 33)).alloc (.cells #[.int .i64 0,.int .i64 0] 26)).heap.size=w4.heap.size+2:=by rw [Zaf,Zaf]
 have hst1:=Zmp _ w4.heap.size _ _ hzr x.r x.a x.n x.c
 have hfr1:=Zdy ((w4.alloc (.cells #[.float .f64 0,.bool false,.slice none 0 0,.int .i64 0,.int .i64 0,.int .i64 0] 33)).alloc (.cells #[.int .i64 0,.int .i64 0] 26)) w4.heap.size x.r (.slice x.a x.n x.c)
 have hx1:=ZbC hzr x.r (.slice x.a x.n x.c)
 have hzq1:BtBlk (setRw ((w4.alloc (.cells #[.float .f64 0,.bool false,.slice none 0 0,.int .i64 0,.int .i64 0,.int .i64 0] 33)).alloc (.cells #[.int .i64 0,.int .i64 0] 26)) w4.heap.size x.r (.slice x.a x.n x.c)) (w4.heap.size+1) (0,0):=(hfr1.block _ hzq.lt (by omega)).trans hzq
 have hB1:Below w4.heap.size w4 (setRw ((w4.alloc (.cells #[.float .f64 0,.bool false,.slice none 0 0,.int .i64 0,.int .i64 0,.int .i64 0] 33)).alloc (.cells #[.int .i64 0,.int .i64 0] 26)) w4.heap.size x.r (.slice x.a x.n x.c)):=(Zac hz1 hz2).trans (hfr1.below (by omega) (fun k hk=>by rw [hk];exact Nat.le_refl _))
 generalize setRw ((w4.alloc (.cells #[.float .f64 0,.bool false,.slice none 0 0,.int .i64 0,.int .i64 0,.int .i64 0] 33)).alloc (.cells #[.int .i64 0,.int .i64 0] 26)) w4.heap.size x.r (.slice x.a x.n x.c)=Wa at *
 have hst2:=ZeK Wa (w4.heap.size+1) _ hzq1 (0,0)
 have hfr2:=Zcs Wa (w4.heap.size+1) (0,0)
 have hq2:=ZaI hzq1 (0,0)
 have hx2:RwBlk (setBt Wa (w4.heap.size+1) (0,0)) w4.heap.size x.r (.slice x.a x.n x.c):=(hfr2.block _ (Array.getElem?_eq_some_iff.1 hx1).1 (by omega)).trans hx1
 have hB5:Below w4.heap.size w4 (setBt Wa (w4.heap.size+1) (0,0)):=hB1.trans (hfr2.below hB1.size (fun k hk=>by rw [hk];omega))
 generalize setBt Wa (w4.heap.size+1) (0,0)=W5 at *
 have HST1:=hide hst1
 have HST2:=hide hst2
 have hq5:=HQ4.out.keep hB5
 have HB5:=hide (Zac HB4.out hB5)
 have HM5:=hide (HM4.out.below hB5 (Nat.le_refl _))
 have hR:=HH.out.rows W5 ⟨ta,tn,tc⟩ M 0 4621256167635550208 HM5.out (by decide) (by decide) (by rw [HML.out];exact Zm1)
 rw [HML.out,ZmI] at hR
 have HR:=hide hR
 unfold Rw.val at HST1
 unfold btV at HST2
 unfold Sl.val at HR
 simp only at HR HST2
 have x3:=hx2.c3
 rw [hxr] at x3
 have x3':W5.cell? ⟨w4.heap.size,3,none⟩=some (.int .i64 5):=x3
 have q0:=hq5.c0
 have q1:=hq5.c1
 have p0:=hq2.c0
 have p1:=hq2.c1
 simp only at q0 q1 p0 p1
 clear ht hff hxc hz1 hz2 hzr hzq hzs hst1 hfr1 hx1 hzq1 hB1 hst2 hfr2 hq2 hx2 hB5 hq5 hR x3 hxr HF
 unfold Rx.val Rw.val
 go_wp2_with (first | refine Zab _ rfl rfl 33 (.tmp 4) (.tmp 17) rfl (.pointer (some ⟨w4.heap.size,0,none⟩)) (.agg #[.float .f64 x.r.key,.bool x.r.dead,.slice x.a x.n x.c,.int .i64 x.r.wr,.int .i64 x.r.cell,.int .i64 x.r.no]) rfl rfl Wa HST1.out ?_ | refine Zab _ rfl rfl 26 (.tmp 5) (.tmp 18) rfl (.pointer (some ⟨w4.heap.size+1,0,none⟩)) (.agg #[.int .i64 0,.int .i64 0]) rfl rfl W5 HST2.out ?_)
 refine HR.out.mono ?_
 rintro e w6 ⟨hb6,⟨ya,yn,yc⟩,Y,rfl,hY,hYl⟩
 have hyn:yn=1:=by
  have h1:=hY.rz.len
  have h2:=congrArg List.length hYl
  rw [ZkX] at h2
  simp only [List.length_cons,List.length_nil] at h1 h2
  omega
 subst hyn
 have HB6:=hide (Zac HB5.out hb6)
 clear hb6 hY hYl q0 q1 p0 p1 x3'
 go_wp2_with fail
 go_ret
 exact⟨rfl,HB6.out⟩
theorem ZbK (w:World)(x:Rx)(b:Bt) :
    ∃Wa W,(Instr.storeAt 33 (.pointer (some ⟨w.heap.size,0,none⟩)) (.agg #[.float .f64 x.r.key,.bool x.r.dead,.slice x.a x.n x.c,.int .i64 x.r.wr,.int .i64 x.r.cell,.int .i64 x.r.no])).run Tryz.prog ((w.alloc (.cells #[.float .f64 0,.bool false,.slice none 0 0,.int .i64 0,.int .i64 0,.int .i64 0] 33)).alloc (.cells #[.int .i64 0,.int .i64 0] 26))=.ok () Wa ∧
     (Instr.storeAt 26 (.pointer (some ⟨w.heap.size+1,0,none⟩)) (.agg #[.int .i64 b.1,.int .i64 b.2])).run Tryz.prog Wa=.ok () W∧RwBlk W w.heap.size x.r (.slice x.a x.n x.c)∧BtBlk W (w.heap.size+1) b∧Below w.heap.size w W∧(Fs w x.a x.n x.c x.r.xs→Fs W x.a x.n x.c x.r.xs):=by
 have hz1:=Zaa w (.cells #[.float .f64 0,.bool false,.slice none 0 0,.int .i64 0,.int .i64 0,.int .i64 0] 33)
 have hz2:=Zaa (w.alloc (.cells #[.float .f64 0,.bool false,.slice none 0 0,.int .i64 0,.int .i64 0,.int .i64 0] 33)) (.cells #[.int .i64 0,.int .i64 0] 26)
 have hzr:RwBlk ((w.alloc (.cells #[.float .f64 0,.bool false,.slice none 0 0,.int .i64 0,.int .i64 0,.int .i64 0] 33)).alloc (.cells #[.int .i64 0,.int .i64 0] 26)) w.heap.size zeroR (.slice none 0 0):=(Zai w zeroR (.slice none 0 0)).keep hz2
 have hzq:BtBlk ((w.alloc (.cells #[.float .f64 0,.bool false,.slice none 0 0,.int .i64 0,.int .i64 0,.int .i64 0] 33)).alloc (.cells #[.int .i64 0,.int .i64 0] 26)) (w.heap.size+1) (0,0):=by
  have:=Za7 (w.alloc (.cells #[.float .f64 0,.bool false,.slice none 0 0,.int .i64 0,.int .i64 0,.int .i64 0] 33)) (0,0)
  rwa [Zaf] at this
 have hzs:((w.alloc (.cells #[.float .f64 0,.bool false,.slice none 0 0,.int .i64 0,.int .i64 0,.int .i64 0] 33)).alloc (.cells #[.int .i64 0,.int .i64 0] 26)).heap.size=w.heap.size+2:=by rw [Zaf,Zaf]
 have hst1:=Zmp _ w.heap.size _ _ hzr x.r x.a x.n x.c
 have hfr1:=Zdy ((w.alloc (.cells #[.float .f64 0,.bool false,.slice none 0 0,.int .i64 0,.int .i64 0,.int .i64 0] 33)).alloc (.cells #[.int .i64 0,.int .i64 0] 26)) w.heap.size x.r (.slice x.a x.n x.c)
 have hx1:=ZbC hzr x.r (.slice x.a x.n x.c)
 have hzq1:BtBlk (setRw ((w.alloc (.cells #[.float .f64 0,.bool false,.slice none 0 0,.int .i64 0,.int .i64 0,.int .i64 0] 33)).alloc (.cells #[.int .i64 0,.int .i64 0] 26)) w.heap.size x.r (.slice x.a x.n x.c)) (w.heap.size+1) (0,0):=(hfr1.block _ hzq.lt (by omega)).trans hzq
 have hB1:Below w.heap.size w (setRw ((w.alloc (.cells #[.float .f64 0,.bool false,.slice none 0 0,.int .i64 0,.int .i64 0,.int .i64 0] 33)).alloc (.cells #[.int .i64 0,.int .i64 0] 26)) w.heap.size x.r (.slice x.a x.n x.c)):=(Zac hz1 hz2).trans (hfr1.below (by omega) (fun k hk=>by rw [hk];exact Nat.le_refl _))
 have hst2:=ZeK _ (w.heap.size+1) _ hzq1 b
 have hfr2:=Zcs (setRw ((w.alloc (.cells #[.float .f64 0,.bool false,.slice none 0 0,.int .i64 0,.int .i64 0,.int .i64 0] 33)).alloc (.cells #[.int .i64 0,.int .i64 0] 26)) w.heap.size x.r (.slice x.a x.n x.c)) (w.heap.size+1) b
 have hB5:=hB1.trans (hfr2.below hB1.size (fun k hk=>by rw [hk];omega))
 refine⟨_,_,hst1,hst2,(hfr2.block _ (Array.getElem?_eq_some_iff.1 hx1).1 (by omega)).trans hx1,ZaI hzq1 b,hB5,fun h=>h.keep hB5 (Nat.le_refl _)⟩
theorem ZmV (w : World) (x : Rx) :
    ∃ W, (Instr.storeAt 33 (.pointer (some ⟨w.heap.size, 0, none⟩)) (.agg #[.float .f64 x.r.key, .bool x.r.dead, .slice x.a x.n x.c, .int .i64 x.r.wr, .int .i64 x.r.cell, .int .i64 x.r.no])).run Tryz.prog (w.alloc (.cells #[.float .f64 0, .bool false, .slice none 0 0, .int .i64 0, .int .i64 0, .int .i64 0] 33)) = .ok () W ∧ RwBlk W w.heap.size x.r (.slice x.a x.n x.c) ∧ Below w.heap.size w W :=
  ⟨_, Zcu x.r.key x.r.dead x.a x.n x.c x.r.wr x.r.cell x.r.no w, Zai w x.r (.slice x.a x.n x.c), Zaa w _⟩
theorem ZdL {x y : Rx} (h : x.r = y.r) (w : World) (hx : Fs w x.a x.n x.c x.r.xs) (hy : Fs w y.a y.n y.c y.r.xs) : Calls Tryz.prog 15 #[x.val, y.val] w fun e w' => e = .returned (.bool true) ∧ Below w.heap.size w w' := by
 obtain ⟨r, a, n, c⟩ := x
 obtain ⟨q, a2, n2, c2⟩ := y
 simp only at h hx hy
 subst h
 exact ZhF r a n c a2 n2 c2 w hx hy
end Go.Proofs.YtdojdcncncgncaaGreat
