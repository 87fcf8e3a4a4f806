/-
  Lemmas.
-/
import Derived.Test.YtdojdcncncgncaaGreatKsan
import Derived.Test.YtdojdcncncgncaaGreatKsaq
namespace Go.Proofs.YtdojdcncncgncaaGreat
open Go.RowKit
set_option linter.unusedVariables false
set_option maxRecDepth 100000
set_option maxHeartbeats 4000000
variable {w:World}{t:List Int}{v:Sl}{A:Act}
theorem Zix (k : Nat) (d : Bool) (t c n : Int) (w : World) : (Instr.build 33 #[(1, .bool d), (0, .float .f64 k), (3, .int .i64 t), (4, .agg #[.int .i64 c, .int .i64 n])]).run Tryz.prog w = .ok (.agg #[.float .f64 k, .bool d, .slice none 0 0, .int .i64 t, .int .i64 c, .int .i64 n]) w := by
  simp [go_sem, Instr.build]
theorem Za3 {w':World}{b : Nat} (h : w'.heap[b]? = w.heap[b]?) (o : Nat) : w'.cell? ⟨b, o, none⟩ = w.cell? ⟨b, o, none⟩ := by
 unfold World.cell?
 simp only [h]
theorem Zob (w0 w:World)(b off N c2:Nat)(h6:6≤N)(y0 y1 y2 y3 y4:It)(hx0:ItAt w0 b (off+0*4) y0)(hx1:ItAt w0 b (off+1*4) y1)(hx2:ItAt w0 b (off+2*4) y2)(hx3:ItAt w0 b (off+3*4) y3)(hx4:ItAt w0 b (off+4*4) y4)(hW:Below w0.heap.size w0 w)
    {Q:Exit→Act→World→Prop}(hsz:A.tmps.size=95)(hdf:A.defers=[])(s6:A.tmps.getD 6 undef=.slice (some ⟨b,off,none⟩) N c2)
    (hend:∀(u:Nat→Value) w',w'=w.drew.alloc (.cells #[.float .f64 y1.x,.bool (y0.n == 1),.slice none 0 0,.int .i64 y2.n,.int .i64 y3.n,.int .i64 y4.n] 33)→Q .normal (((((((((((((((((((((((((A).put (some 43) (u 43)).put (some 44) (u 44)).put (some 45) (u 45)).put (some 46) (u 46)).put (some 47) (u 47)).put (some 48) (u 48)).put (some 49) (u 49)).put (some 50) (u 50)).put (some 51) (u 51)).put (some 52) (u 52)).put (some 53) (u 53)).put (some 54) (u 54)).put (some 55) (u 55)).put (some 56) (u 56)).put (some 57) (u 57)).put (some 58) (u 58)).put (some 59) (u 59)).put (some 60) (u 60)).put (some 61) (u 61)).put (some 62) (u 62)).put (some 63) (u 63)).put (some 64) (u 64)).put (some 65) (u 65)).put (some 9) (.pointer (some ⟨w.drew.heap.size,0,none⟩))) w') :
    (Code.region 11 (Pl.find 11 ((Tryz.f125.body).getD .skip)) true).wp Tryz.prog Q A w:=by
  have hS0:Below w0.heap.size w0 w.drew:=hW.drew
  have hA:=Pl.At.same (v:=.slice (some ⟨b,off,none⟩) N c2) (d:=6) (Pl.At.here hsz hdf) s6
  refine Pl.qa (S:=fun w'=>Below w0.heap.size w0 w') hA hS0 ?_
  rw [show (Pl.find 11 ((Tryz.f125.body).getD .skip)).size=25 by kernel_rfl]
  refine Pl.q0 0 43 (.slice (some ⟨b,off,none⟩) N c2) (Pl.q1) (Pl.q2 (.tmp 6)) hS0 ?_
  refine Pl.q0 1 44 (.pointer (some ⟨b,off+0*4,none⟩)) (Pl.q1) (Pl.qb 155 (.tmp 43) (.const (.int .i64 0)) (Zax b off N c2 0 (by omega))) hS0 ?_
  refine Pl.q0 2 45 (.pointer (some ⟨b,off+0*4+1,none⟩)) (Pl.q1) (Pl.q5 158 (.tmp 44) 1 (Za7 b (off+0*4) 1 (by decide))) hS0 ?_
  refine Pl.q0 3 46 (.int .i64 y0.n) (Pl.q1) (Pl.q4 3 (.tmp 45) (fun w' hS=>Zam b (off+0*4+1) _ w' (Zag hx0 hS).2.1)) hS0 ?_
  refine Pl.q0 4 47 (.bool (y0.n == 1)) (Pl.q1) (Pl.qc .eql 3 3 (.tmp 46) (.const (.int .i64 1)) (.int .i64 y0.n) (.int .i64 1) (fun w=>by simp [go_sem,eqGuard])) hS0 ?_
  refine Pl.q0 5 48 (.slice (some ⟨b,off,none⟩) N c2) (Pl.q1) (Pl.q2 (.tmp 6)) hS0 ?_
  refine Pl.q0 6 49 (.pointer (some ⟨b,off+1*4,none⟩)) (Pl.q1) (Pl.qb 155 (.tmp 48) (.const (.int .i64 1)) (Zax b off N c2 1 (by omega))) hS0 ?_
  refine Pl.q0 7 50 (.pointer (some ⟨b,off+1*4+2,none⟩)) (Pl.q1) (Pl.q5 158 (.tmp 49) 2 (Za7 b (off+1*4) 2 (by decide))) hS0 ?_
  refine Pl.q0 8 51 (.float .f64 y1.x) (Pl.q1) (Pl.q4 23 (.tmp 50) (fun w' hS=>Zc5 b (off+1*4+2) _ w' (Zag hx1 hS).2.2.1)) hS0 ?_
  refine Pl.q0 9 52 (.slice (some ⟨b,off,none⟩) N c2) (Pl.q1) (Pl.q2 (.tmp 6)) hS0 ?_
  refine Pl.q0 10 53 (.pointer (some ⟨b,off+2*4,none⟩)) (Pl.q1) (Pl.qb 155 (.tmp 52) (.const (.int .i64 2)) (Zax b off N c2 2 (by omega))) hS0 ?_
  refine Pl.q0 11 54 (.pointer (some ⟨b,off+2*4+1,none⟩)) (Pl.q1) (Pl.q5 158 (.tmp 53) 1 (Za7 b (off+2*4) 1 (by decide))) hS0 ?_
  refine Pl.q0 12 55 (.int .i64 y2.n) (Pl.q1) (Pl.q4 3 (.tmp 54) (fun w' hS=>Zam b (off+2*4+1) _ w' (Zag hx2 hS).2.1)) hS0 ?_
  refine Pl.q0 13 56 (.slice (some ⟨b,off,none⟩) N c2) (Pl.q1) (Pl.q2 (.tmp 6)) hS0 ?_
  refine Pl.q0 14 57 (.pointer (some ⟨b,off+3*4,none⟩)) (Pl.q1) (Pl.qb 155 (.tmp 56) (.const (.int .i64 3)) (Zax b off N c2 3 (by omega))) hS0 ?_
  refine Pl.q0 15 58 (.pointer (some ⟨b,off+3*4+1,none⟩)) (Pl.q1) (Pl.q5 158 (.tmp 57) 1 (Za7 b (off+3*4) 1 (by decide))) hS0 ?_
  refine Pl.q0 16 59 (.int .i64 y3.n) (Pl.q1) (Pl.q4 3 (.tmp 58) (fun w' hS=>Zam b (off+3*4+1) _ w' (Zag hx3 hS).2.1)) hS0 ?_
  refine Pl.q0 17 60 (.slice (some ⟨b,off,none⟩) N c2) (Pl.q1) (Pl.q2 (.tmp 6)) hS0 ?_
  refine Pl.q0 18 61 (.pointer (some ⟨b,off+4*4,none⟩)) (Pl.q1) (Pl.qb 155 (.tmp 60) (.const (.int .i64 4)) (Zax b off N c2 4 (by omega))) hS0 ?_
  refine Pl.q0 19 62 (.pointer (some ⟨b,off+4*4+1,none⟩)) (Pl.q1) (Pl.q5 158 (.tmp 61) 1 (Za7 b (off+4*4) 1 (by decide))) hS0 ?_
  refine Pl.q0 20 63 (.int .i64 y4.n) (Pl.q1) (Pl.q4 3 (.tmp 62) (fun w' hS=>Zam b (off+4*4+1) _ w' (Zag hx4 hS).2.1)) hS0 ?_
  refine Pl.q0 21 64 (.agg #[.int .i64 y3.n,.int .i64 y4.n]) (Pl.q1) (Pl.qx 31 [(0,(.tmp 59)),(1,(.tmp 63))] (fun w=>ZeN y3.n y4.n w)) hS0 ?_
  refine Pl.q0 22 65 (.agg #[.float .f64 y1.x,.bool (y0.n == 1),.slice none 0 0,.int .i64 y2.n,.int .i64 y3.n,.int .i64 y4.n]) (Pl.q1) (Pl.qx 33 [(1,(.tmp 47)),(0,(.tmp 51)),(3,(.tmp 55)),(4,(.tmp 64))] (fun w=>Zix y1.x (y0.n == 1) y2.n y3.n y4.n w)) hS0 ?_
  have hS1:Below w0.heap.size w0 (w.drew.alloc (.cells #[.float .f64 0,.bool false,.slice none 0 0,.int .i64 0,.int .i64 0,.int .i64 0] 33)):=hS0.alloc hS0.size _
  refine Pl.qp 23 9 (.pointer (some ⟨w.drew.heap.size,0,none⟩)) (w.drew.alloc (.cells #[.float .f64 0,.bool false,.slice none 0 0,.int .i64 0,.int .i64 0,.int .i64 0] 33)) (Pl.q1) (Pl.qt 33 (Zgb w.drew)) hS1 ?_
  have hS2:Below w0.heap.size w0 (w.drew.alloc (.cells #[.float .f64 y1.x,.bool (y0.n == 1),.slice none 0 0,.int .i64 y2.n,.int .i64 y3.n,.int .i64 y4.n] 33)):=hS0.alloc hS0.size _
  refine Pl.qh 24 (w.drew.alloc (.cells #[.float .f64 y1.x,.bool (y0.n == 1),.slice none 0 0,.int .i64 y2.n,.int .i64 y3.n,.int .i64 y4.n] 33)) (Pl.q1) (Pl.qi 33 (.tmp 9) (.tmp 65) (Zdx y1.x (y0.n == 1) none 0 0 y2.n y3.n y4.n w.drew)) hS2 ?_
  refine Pl.q7 (fun A' hA'=>?_)
  rw [Pl.At.ext hA' ((((((((((((((((((((((((hA.put 43 _).put 44 _).put 45 _).put 46 _).put 47 _).put 48 _).put 49 _).put 50 _).put 51 _).put 52 _).put 53 _).put 54 _).put 55 _).put 56 _).put 57 _).put 58 _).put 59 _).put 60 _).put 61 _).put 62 _).put 63 _).put 64 _).put 65 _).put 9 _)]
  exact hend hA'.fn _ rfl
theorem Zoc (W0 w:World)(B p:Nat)(R:Rw)(v:Value)(us:List Value)(hW:Below B W0 w)(hp:B≤p)(hB:B≤w.heap.size)(hblk:RwBlk w p R v)(ho:OwnsV 23 w B v us)(hl:us.length≤1000)(b off N c2 k:Nat)(y:It)(C0:Array Value)(fr0:Nat × Nat)(hk:k<N)(hib:w.heap[b]? = some (Obj.cells C0 158 fr0))(hbp:b≠p)(hit:ItAt w b (off+k*4) y)
    {Q:Exit→Act→World→Prop}(hsz:A.tmps.size=95)(hdf:A.defers=[])(s6:A.tmps.getD 6 undef=.slice (some ⟨b,off,none⟩) N c2)(s9:A.tmps.getD 9 undef=.pointer (some ⟨p,0,none⟩))(s10:A.tmps.getD 10 undef=.int .i64 (k:Nat))
    (hend:∀(u:Nat→Value) w' v',Zmr W0 w w' B p R v' (us ++ [.float .f64 y.x])→Q .normal (((((((((((A).put (some 72) (u 72)).put (some 74) (u 74)).put (some 75) (u 75)).put (some 76) (u 76)).put (some 77) (u 77)).put (some 78) (u 78)).put (some 73) (u 73)).put (some 79) (u 79)).put (some 80) (u 80)).put (some 81) (u 81)) w') :
    (Code.region 15 (Pl.find 15 ((Tryz.f125.body).getD .skip)) true).wp Tryz.prog Q A w:=by
  have hform:=ho.form
  have hb0:RwBlk w.drew p R v:=hblk
  have ho0:OwnsV 23 w.drew B v us:=ho
  have hW0:Below B W0 w.drew:=hW.drew
  have hal:=Zaa w.drew (.cells #[.float .f64 y.x] 23)
  have hW1:Below B W0 (w.drew.alloc (.cells #[.float .f64 y.x] 23)):=hW0.alloc hB _
  have hb1:RwBlk (w.drew.alloc (.cells #[.float .f64 y.x] 23)) p R v:=hb0.keep hal
  have ho1:=ho0.keep hal (Nat.le_refl _)
  have hvs:=Zlg 23 w.drew (.float .f64 y.x) rfl
  obtain⟨v2,w2,hrun,ho2,hb2,hst2⟩:=Zcm Zm3 (w.drew.alloc (.cells #[.float .f64 y.x] 23)) 29 B v us ho1 (some ⟨w.drew.heap.size,0,none⟩) 1 1 [.float .f64 y.x] hvs (fun h=>by cases h) (by omega) (Nat.le_trans hB hal.size)
  have hW2:Below B W0 w2:=hW1.trans hb2
  have hblk2:RwBlk w2 p R v:=(hst2 p _ _ _ hb1 (by decide)).trans hb1
  have hend2:=ZjF (w:=w) (W0:=W0) hW2 hp hblk2 ho2 (fun k C t fr hk ht=>(hst2 k C t fr ((hal.block k (Array.getElem?_eq_some_iff.1 hk).1).trans hk) ht).trans (hal.block k (Array.getElem?_eq_some_iff.1 hk).1)) (Nat.le_trans hal.size hb2.size)
  have hblt:b<w.drew.heap.size:=(Array.getElem?_eq_some_iff.1 hib).1
  have hS0:(fun w'=>Below B W0 w'∧w'.heap[b]? = w.heap[b]?) w.drew:=⟨hW0,rfl⟩
  have hS1:(fun w'=>Below B W0 w'∧w'.heap[b]? = w.heap[b]?) (w.drew.alloc (.cells #[.float .f64 y.x] 23)):=⟨hW1,hal.block b hblt⟩
  have hS2:(fun w'=>Below B W0 w'∧w'.heap[b]? = w.heap[b]?) w2:=⟨hW2,(hst2 b _ _ _ ((hal.block b hblt).trans hib) (by decide)).trans (hal.block b hblt)⟩
  have hS3:(fun w'=>Below B W0 w'∧w'.heap[b]? = w.heap[b]?) (w2.setCell ⟨p,2,none⟩ v2):=⟨hend2.below,hend2.stay b _ _ _ hib (by decide) hbp⟩
  have hA:=Pl.At.same (v:=.int .i64 (k:Nat)) (d:=10) (Pl.At.same (v:=.pointer (some ⟨p,0,none⟩)) (d:=9) (Pl.At.same (v:=.slice (some ⟨b,off,none⟩) N c2) (d:=6) (Pl.At.here hsz hdf) s6) s9) s10
  refine Pl.qa (S:=fun w'=>Below B W0 w'∧w'.heap[b]? = w.heap[b]?) hA hS0 ?_
  rw [show (Pl.find 15 ((Tryz.f125.body).getD .skip)).size=11 by kernel_rfl]
  refine Pl.q0 0 72 (.pointer (some ⟨p,2,none⟩)) (Pl.q1) (Pl.q5 33 (.tmp 9) 2 (ZaI p)) hS0 ?_
  refine Pl.q0 2 74 (.slice (some ⟨b,off,none⟩) N c2) (Pl.q1) (Pl.q2 (.tmp 6)) hS0 ?_
  refine Pl.q0 3 75 (.int .i64 (k:Nat)) (Pl.q1) (Pl.q2 (.tmp 10)) hS0 ?_
  refine Pl.q0 4 76 (.pointer (some ⟨b,off+k*4,none⟩)) (Pl.q1) (Pl.qb 155 (.tmp 74) (.tmp 75) (Zax b off N c2 k hk)) hS0 ?_
  refine Pl.q0 5 77 (.pointer (some ⟨b,off+k*4+2,none⟩)) (Pl.q1) (Pl.q5 158 (.tmp 76) 2 (Za7 b (off+k*4) 2 (by decide))) hS0 ?_
  refine Pl.q0 6 78 (.float .f64 y.x) (Pl.q1) (Pl.q4 23 (.tmp 77) (fun w' hS=>Zc5 b (off+k*4+2) _ w' ((Za3 hS.2 _).trans hit.2.2.1))) hS0 ?_
  refine Pl.qu 1 7 ?_ ?_
  · refine Pl.qm 1 73 v w.drew (Pl.qv 29 (.tmp 72) (Zg5 p 2 v hform w.drew hb0.c2)) hS0 ?_
    refine Pl.qn 7 ?_
    refine Pl.qm 7 79 (.slice (some ⟨w.drew.heap.size,0,none⟩) 1 1) (w.drew.alloc (.cells #[.float .f64 y.x] 23)) (Pl.q_37 29 (.tmp 78) (Zge y.x w.drew)) hS1 ?_
    refine Pl.qp 8 80 v2 w2 (Pl.q1) (Pl.q_40 29 29 (.tmp 73) (.tmp 79) hrun) hS2 ?_
    refine Pl.q0 9 81 (.pointer (some ⟨p,2,none⟩)) (Pl.q1) (Pl.q5 33 (.tmp 9) 2 (ZaI p)) hS2 ?_
    refine Pl.qh 10 (w2.setCell ⟨p,2,none⟩ v2) (Pl.q1) (Pl.qi 29 (.tmp 81) (.tmp 80) (Zfx p 2 v2 v ho2.form w2 hblk2.c2 (hblk2.fz 2))) hS3 ?_
    refine Pl.q7 (fun A' hA'=>?_)
    rw [Pl.At.ext hA' ((((((((((hA.put 72 _).put 74 _).put 75 _).put 76 _).put 77 _).put 78 _).put 73 _).put 79 _).put 80 _).put 81 _)]
    exact hend hA'.fn _ _ hend2
  · refine Pl.qm 7 79 (.slice (some ⟨w.drew.heap.size,0,none⟩) 1 1) (w.drew.alloc (.cells #[.float .f64 y.x] 23)) (Pl.q_37 29 (.tmp 78) (Zge y.x w.drew)) hS1 ?_
    refine Pl.qn 1 ?_
    refine Pl.qm 1 73 v (w.drew.alloc (.cells #[.float .f64 y.x] 23)) (Pl.qv 29 (.tmp 72) (Zg5 p 2 v hform (w.drew.alloc (.cells #[.float .f64 y.x] 23)) hb1.c2)) hS1 ?_
    rw [Pl.ql 79 73]
    refine Pl.qp 8 80 v2 w2 (Pl.q1) (Pl.q_40 29 29 (.tmp 73) (.tmp 79) hrun) hS2 ?_
    refine Pl.q0 9 81 (.pointer (some ⟨p,2,none⟩)) (Pl.q1) (Pl.q5 33 (.tmp 9) 2 (ZaI p)) hS2 ?_
    refine Pl.qh 10 (w2.setCell ⟨p,2,none⟩ v2) (Pl.q1) (Pl.qi 29 (.tmp 81) (.tmp 80) (Zfx p 2 v2 v ho2.form w2 hblk2.c2 (hblk2.fz 2))) hS3 ?_
    refine Pl.q7 (fun A' hA'=>?_)
    rw [Pl.At.ext hA' ((((((((((hA.put 72 _).put 74 _).put 75 _).put 76 _).put 77 _).put 78 _).put 73 _).put 79 _).put 80 _).put 81 _)]
    exact hend hA'.fn _ _ hend2
theorem Znp (w0 w:World)(p:Nat)(X:Rw)(a:Option Addr)(len cap:Nat)(hx:RwBlk w0 p X (.slice a len cap))(hfa:Fs w0 a len cap X.xs)(hf:X.fits)(pa:Option Addr)(pl pc:Nat)(xs:List Nat)(hc:Came w0 pa pl pc xs)(hm:X.may=false)(hW:Below w0.heap.size w0 w)
    {Q:Exit→Act→World→Prop}(hsz:A.tmps.size=95)(hdf:A.defers=[])(s0:A.tmps.getD 0 undef=.slice pa pl pc)(s9:A.tmps.getD 9 undef=.pointer (some ⟨p,0,none⟩))
    (hend:∀(u:Nat→Value) w',Below w0.heap.size w0 w'→Q .normal ((((((((((((A).put (some 82) (u 82)).put (some 83) (u 83)).put (some 84) (u 84)).put (some 85) (u 85)).put (some 86) (u 86)).put (some 87) (u 87)).put (some 88) (u 88)).put (some 89) (u 89)).put (some 90) (u 90)).put (some 91) (u 91)).put (some 92) (.bool true)) w') :
    (Code.region 16 (Pl.find 16 ((Tryz.f125.body).getD .skip)) true).wp Tryz.prog Q A w:=by
  have hS0:Below w0.heap.size w0 w.drew:=hW.drew
  have hA:=Pl.At.same (v:=.pointer (some ⟨p,0,none⟩)) (d:=9) (Pl.At.same (v:=.slice pa pl pc) (d:=0) (Pl.At.here hsz hdf) s0) s9
  refine Pl.qa (S:=fun w'=>Below w0.heap.size w0 w') hA hS0 ?_
  rw [show (Pl.find 16 ((Tryz.f125.body).getD .skip)).size=11 by kernel_rfl]
  refine Pl.q0 0 82 (X.val (.slice a len cap)) (Pl.q1) (Pl.q4 33 (.tmp 9) (fun w' hS=>ZbL p X (.slice a len cap) ⟨_,_,_,rfl⟩ w' (hx.keep hS))) hS0 ?_
  refine Pl.qd 1 83 29 [(.tmp 82)] #[33] (Pl.q1) ZfC (Calls.mono (Zez X false hm a len cap w.drew (hfa.keep hS0 (Nat.le_refl _)) hf) ?_)
  rintro e w1 ⟨rfl,hb1⟩
  have hS1:=hS0.trans (hb1.mono hS0.size)
  refine⟨.bool false,rfl,hS1,?_⟩
  refine Pl.q0 2 84 (.bool true) (Pl.q1) (Pl.qq 4 (.tmp 83) false) hS1 ?_
  refine Pl.q0 3 85 (.bool true) (Pl.q1) (Pl.q2 (.tmp 84)) hS1 ?_
  refine Pl.q6 4 86 (Pl.q8 3 85 false) hS1 ?_
  refine Pl.q6 5 87 (Pl.q8 3 85 false) hS1 ?_
  refine Pl.q6 6 88 (Pl.q8 3 85 false) hS1 ?_
  refine Pl.q6 7 89 (Pl.q8 3 85 false) hS1 ?_
  refine Pl.q6 8 90 (Pl.q8 3 85 false) hS1 ?_
  refine Pl.q6 9 91 (Pl.q8 3 85 false) hS1 ?_
  refine Pl.q0 10 92 (.bool true) (Pl.q1) (Pl.qk (.tmp 85) (.const (.bool true)) (.tmp 91)) hS1 ?_
  refine Pl.q7 (fun A' hA'=>?_)
  rw [Pl.At.ext hA' (((((((((((hA.put 82 _).put 83 _).put 84 _).put 85 _).put 86 _).put 87 _).put 88 _).put 89 _).put 90 _).put 91 _).put 92 _)]
  exact hend hA'.fn _ hS1
theorem Znq (w0 w:World)(p:Nat)(X:Rw)(a:Option Addr)(len cap:Nat)(hx:RwBlk w0 p X (.slice a len cap))(hfa:Fs w0 a len cap X.xs)(hf:X.fits)(pa:Option Addr)(pl pc:Nat)(xs:List Nat)(hc:Came w0 pa pl pc xs)(hm:X.may=true)(hne:¬(bstr X.bytes).toList=(bstr xs).toList)(hW:Below w0.heap.size w0 w)
    {Q:Exit→Act→World→Prop}(hsz:A.tmps.size=95)(hdf:A.defers=[])(s0:A.tmps.getD 0 undef=.slice pa pl pc)(s9:A.tmps.getD 9 undef=.pointer (some ⟨p,0,none⟩))
    (hend:∀(u:Nat→Value) w',Below w0.heap.size w0 w'→Q .normal ((((((((((((A).put (some 82) (u 82)).put (some 83) (u 83)).put (some 84) (u 84)).put (some 85) (u 85)).put (some 86) (u 86)).put (some 89) (u 89)).put (some 90) (u 90)).put (some 87) (u 87)).put (some 88) (u 88)).put (some 91) (u 91)).put (some 92) (.bool true)) w') :
    (Code.region 16 (Pl.find 16 ((Tryz.f125.body).getD .skip)) true).wp Tryz.prog Q A w:=by
  have hS0:Below w0.heap.size w0 w.drew:=hW.drew
  have hA:=Pl.At.same (v:=.pointer (some ⟨p,0,none⟩)) (d:=9) (Pl.At.same (v:=.slice pa pl pc) (d:=0) (Pl.At.here hsz hdf) s0) s9
  refine Pl.qa (S:=fun w'=>Below w0.heap.size w0 w') hA hS0 ?_
  rw [show (Pl.find 16 ((Tryz.f125.body).getD .skip)).size=11 by kernel_rfl]
  refine Pl.q0 0 82 (X.val (.slice a len cap)) (Pl.q1) (Pl.q4 33 (.tmp 9) (fun w' hS=>ZbL p X (.slice a len cap) ⟨_,_,_,rfl⟩ w' (hx.keep hS))) hS0 ?_
  refine Pl.qd 1 83 29 [(.tmp 82)] #[33] (Pl.q1) ZfC (Calls.mono (Zez X true hm a len cap w.drew (hfa.keep hS0 (Nat.le_refl _)) hf) ?_)
  rintro e w1 ⟨rfl,hb1⟩
  have hS1:=hS0.trans (hb1.mono hS0.size)
  refine⟨.bool true,rfl,hS1,?_⟩
  refine Pl.q0 2 84 (.bool false) (Pl.q1) (Pl.qq 4 (.tmp 83) true) hS1 ?_
  refine Pl.q0 3 85 (.bool false) (Pl.q1) (Pl.q2 (.tmp 84)) hS1 ?_
  refine Pl.q0 4 86 (X.val (.slice a len cap)) (Pl.q3 3 85 false) (Pl.q4 33 (.tmp 9) (fun w' hS=>ZbL p X (.slice a len cap) ⟨_,_,_,rfl⟩ w' (hx.keep hS))) hS1 ?_
  refine Pl.q0 7 89 (.slice pa pl pc) (Pl.q3 3 85 false) (Pl.q2 (.tmp 0)) hS1 ?_
  refine Pl.q0 8 90 (.string (bstr xs)) (Pl.q3 3 85 false) (Pl.qy 56 9 (.tmp 89) (.slice pa pl pc) (fun w' hS=>Zat pc (hc.bs.keep hS (Nat.le_refl _)))) hS1 ?_
  refine Pl.qd 5 87 108 [(.tmp 86)] #[33] (Pl.q3 3 85 false) Zgn (Calls.mono (Zck X a len cap w1 (hfa.keep hS1 (Nat.le_refl _)) hf hm) ?_)
  rintro e w2 ⟨v2,rfl,ho2,hb2⟩
  have hS2:=hS1.trans (hb2.mono hS1.size)
  obtain⟨ba,bc,rfl,hbs1,_⟩:=ho2.bs (Zbn hm)
  refine⟨.slice ba X.bytes.length bc,rfl,hS2,?_⟩
  refine Pl.qs 6 88 (.string (bstr X.bytes)) (Pl.q3 3 85 false) (Pl.q_39 56 9 (.tmp 87) (Zat bc hbs1)) hS2 ?_
  refine Pl.q0 9 91 (.bool true) (Pl.q3 3 85 false) (Pl.qc .neq 9 9 (.tmp 88) (.tmp 90) (.string (bstr X.bytes)) (.string (bstr xs)) (fun w=>by simp [go_sem,eqGuard,hne])) hS2 ?_
  refine Pl.q0 10 92 (.bool true) (Pl.q1) (Pl.qj (.tmp 85) (.const (.bool true)) (.tmp 91)) hS2 ?_
  refine Pl.q7 (fun A' hA'=>?_)
  rw [Pl.At.ext hA' (((((((((((hA.put 82 _).put 83 _).put 84 _).put 85 _).put 86 _).put 89 _).put 90 _).put 87 _).put 88 _).put 91 _).put 92 _)]
  exact hend hA'.fn _ hS2
theorem Znr (w0 w:World)(p:Nat)(X:Rw)(a:Option Addr)(len cap:Nat)(hx:RwBlk w0 p X (.slice a len cap))(hfa:Fs w0 a len cap X.xs)(hf:X.fits)(pa:Option Addr)(pl pc:Nat)(xs:List Nat)(hc:Came w0 pa pl pc xs)(hm:X.may=true)(hbx:X.bytes=xs)(hW:Below w0.heap.size w0 w)
    {Q:Exit→Act→World→Prop}(hsz:A.tmps.size=95)(hdf:A.defers=[])(s0:A.tmps.getD 0 undef=.slice pa pl pc)(s9:A.tmps.getD 9 undef=.pointer (some ⟨p,0,none⟩))
    (hend:∀(u:Nat→Value) w',Below w0.heap.size w0 w'→Q .normal ((((((((((((A).put (some 82) (u 82)).put (some 83) (u 83)).put (some 84) (u 84)).put (some 85) (u 85)).put (some 86) (u 86)).put (some 89) (u 89)).put (some 90) (u 90)).put (some 87) (u 87)).put (some 88) (u 88)).put (some 91) (u 91)).put (some 92) (.bool false)) w') :
    (Code.region 16 (Pl.find 16 ((Tryz.f125.body).getD .skip)) true).wp Tryz.prog Q A w:=by
  have hS0:Below w0.heap.size w0 w.drew:=hW.drew
  have hA:=Pl.At.same (v:=.pointer (some ⟨p,0,none⟩)) (d:=9) (Pl.At.same (v:=.slice pa pl pc) (d:=0) (Pl.At.here hsz hdf) s0) s9
  refine Pl.qa (S:=fun w'=>Below w0.heap.size w0 w') hA hS0 ?_
  rw [show (Pl.find 16 ((Tryz.f125.body).getD .skip)).size=11 by kernel_rfl]
  refine Pl.q0 0 82 (X.val (.slice a len cap)) (Pl.q1) (Pl.q4 33 (.tmp 9) (fun w' hS=>ZbL p X (.slice a len cap) ⟨_,_,_,rfl⟩ w' (hx.keep hS))) hS0 ?_
  refine Pl.qd 1 83 29 [(.tmp 82)] #[33] (Pl.q1) ZfC (Calls.mono (Zez X true hm a len cap w.drew (hfa.keep hS0 (Nat.le_refl _)) hf) ?_)
  rintro e w1 ⟨rfl,hb1⟩
  have hS1:=hS0.trans (hb1.mono hS0.size)
  refine⟨.bool true,rfl,hS1,?_⟩
  refine Pl.q0 2 84 (.bool false) (Pl.q1) (Pl.qq 4 (.tmp 83) true) hS1 ?_
  refine Pl.q0 3 85 (.bool false) (Pl.q1) (Pl.q2 (.tmp 84)) hS1 ?_
  refine Pl.q0 4 86 (X.val (.slice a len cap)) (Pl.q3 3 85 false) (Pl.q4 33 (.tmp 9) (fun w' hS=>ZbL p X (.slice a len cap) ⟨_,_,_,rfl⟩ w' (hx.keep hS))) hS1 ?_
  refine Pl.q0 7 89 (.slice pa pl pc) (Pl.q3 3 85 false) (Pl.q2 (.tmp 0)) hS1 ?_
  refine Pl.q0 8 90 (.string (bstr xs)) (Pl.q3 3 85 false) (Pl.qy 56 9 (.tmp 89) (.slice pa pl pc) (fun w' hS=>Zat pc (hc.bs.keep hS (Nat.le_refl _)))) hS1 ?_
  refine Pl.qd 5 87 108 [(.tmp 86)] #[33] (Pl.q3 3 85 false) Zgn (Calls.mono (Zck X a len cap w1 (hfa.keep hS1 (Nat.le_refl _)) hf hm) ?_)
  rintro e w2 ⟨v2,rfl,ho2,hb2⟩
  have hS2:=hS1.trans (hb2.mono hS1.size)
  obtain⟨ba,bc,rfl,hbs1,_⟩:=ho2.bs (Zbn hm)
  refine⟨.slice ba X.bytes.length bc,rfl,hS2,?_⟩
  refine Pl.qs 6 88 (.string (bstr xs)) (Pl.q3 3 85 false) (Pl.q_39 56 9 (.tmp 87) (by rw [← hbx];exact Zat bc hbs1)) hS2 ?_
  refine Pl.q0 9 91 (.bool false) (Pl.q3 3 85 false) (Pl.qc .neq 9 9 (.tmp 88) (.tmp 90) (.string (bstr xs)) (.string (bstr xs)) (fun w=>by simp [go_sem,eqGuard])) hS2 ?_
  refine Pl.q0 10 92 (.bool false) (Pl.q1) (Pl.qj (.tmp 85) (.const (.bool true)) (.tmp 91)) hS2 ?_
  refine Pl.q7 (fun A' hA'=>?_)
  rw [Pl.At.ext hA' (((((((((((hA.put 82 _).put 83 _).put 84 _).put 85 _).put 86 _).put 89 _).put 90 _).put 87 _).put 88 _).put 91 _).put 92 _)]
  exact hend hA'.fn _ hS2
def Zd0 (xs : List Nat) (w : World) (e : Ending) (w' : World) : Prop :=
  Below w.heap.size w w' ∧ (decB xs = none → e = .returned (.tuple #[ZcE, .bool false])) ∧
    (∀ r, decB xs = some r → r.fits ∧ ∃ a len cap, e = .returned (.tuple #[r.val (.slice a len cap), .bool true]) ∧ Fs w' a len cap r.xs ∧ OwnsV 23 w' w.heap.size (.slice a len cap) (fVals r.xs))
theorem Zd0.no {xs : List Nat} {w w' : World} (hd : decB xs = none) (hb : Below w.heap.size w w') : Zd0 xs w (.returned (.tuple #[ZcE, .bool false])) w' :=
  ⟨hb, fun _ => rfl, fun r h => by rw [hd] at h; cases h⟩
theorem ZiP (n:Nat):∀t,t<(headK ++ List.replicate n (4:Int)).length→1≤(headK ++ List.replicate n (4:Int)).getD t 0∧(headK ++ List.replicate n (4:Int)).getD t 0≤5:=by
 intro t ht
 have hmem:(headK ++ List.replicate n (4:Int)).getD t 0∈headK ++ List.replicate n (4:Int):=by
  simp only [List.getD,List.getElem?_eq_getElem ht,Option.getD_some]
  exact List.getElem_mem ht
 rcases List.mem_append.1 hmem with h | h
 · exact Zdc _ h
 · rw [(List.mem_replicate.1 h).2]
   decide
theorem ZiQ (k : Nat) : kVals (headK ++ List.replicate (k + 1) 4) = kVals (headK ++ List.replicate k 4) ++ [.int .i64 4] := by
 rw [List.replicate_succ', ← List.append_assoc]
 simp [kVals]
theorem ZfR (a:Option Addr)(len cap:Nat)(xs:List Nat)(w:World)(h:Came w a len cap xs)(h20:20≤len)(h4:xs.getD 19 0≤4)(hl:len≤100000) :
    Calls Tryz.prog 125 #[.slice a len cap] w (Zd0 xs w):=by
  have hsf:∀(w:World) (a:Addr) (m:Mode) (x:Nat),(store a (.float .f64 x) m).run Tryz.prog w=stored Tryz.prog w a (.float .f64 x) m:=fun w a m x=>run_store Tryz.prog w a _ m rfl
  have HZ:Hid (RwBlk (w.alloc (.cells #[.float .f64 0,.bool false,.slice none 0 0,.int .i64 0,.int .i64 0,.int .i64 0] 33)) w.heap.size zeroR (.slice none 0 0)):=Zai w zeroR (.slice none 0 0)
  have HW:=hide (Zaa w (.cells #[.float .f64 0,.bool false,.slice none 0 0,.int .i64 0,.int .i64 0,.int .i64 0] 33))
  have H:=hide h
  have HXB':=hide h.bs.2.1
  have HXL:=hide h.bs.1
  have HDN:=hide (Zlu h.bs.2.1)
  have HDS:Hid (∀{L Q},_→_):=@Zlv xs h.bs.2.1
  have i1:¬(len:Int)<20:=by omega
  obtain⟨W1,hW1⟩:∃W1,W1=w.alloc (.cells #[.float .f64 0,.bool false,.slice none 0 0,.int .i64 0,.int .i64 0,.int .i64 0] 33):=⟨_,rfl⟩
  have hW1s:W1.heap.size=w.heap.size+1:=by rw [hW1];simp
  rw [← hW1] at HZ HW
  obtain⟨b,off,rfl,c19⟩:=(h.bs.keep HW.out (Nat.le_refl _)).2.2 19 (by omega)
  obtain⟨n,hn⟩:∃n,n=xs.getD 19 0:=⟨_,rfl⟩
  rw [← hn] at c19 h4 HDN HDS
  have HNE:=hide hn
  have i2:¬(4:Int)<(n:Int):=by omega
  have hw64:IntKind.i64.wrap (n:Int)=(n:Int):=by rw [IntKind.wrap_i64];omega
  have HC19:=hide c19
  have HK0:Hid (OwnsV 3 (W1.alloc (.cells #[.int .i64 1,.int .i64 4,.int .i64 3,.int .i64 2,.int .i64 3,.int .i64 1] 3)) W1.heap.size (.slice (some ⟨w.heap.size+1,0,none⟩) 6 6) (kVals (headK ++ List.replicate 0 4))):=by
   have:=OwnsV.lit 3 W1 W1.heap.size (kVals headK) (Nat.le_refl _) (by decide)
   rw [hW1s] at this
   rw [hW1s]
   exact this
  have HKB:=hide (Zaa W1 (.cells #[.int .i64 1,.int .i64 4,.int .i64 3,.int .i64 2,.int .i64 3,.int .i64 1] 3))
  rw [hW1] at c19
  have HW1E:=hide hW1
  have HW1S:=hide hW1s
  rw [hW1] at HK0 HKB
  clear h hn hW1 hW1s
  go_enter Tryz.func125,Tryz.ntmps125
  go_wp2_with fail
  rw [← HW1E.out] at HK0 HKB ⊢
  clear c19
  go_loopw [4,5] (fun v i wr=>∃k:Nat,k≤n∧i=.int .i64 k∧Hid (OwnsV 3 wr W1.heap.size v (kVals (headK ++ List.replicate k 4)))∧Hid (Below W1.heap.size W1 wr)) (fun _ i _=>n-(intOf i).toNat)
  case atStart=>exact ⟨0,by omega,rfl,HK0,HKB⟩
  case round =>
   obtain⟨k,hk,rfl,hown,hWr⟩:=hrel
   have d19:wr.cell? ⟨b,off+19,none⟩=some (.int .u8 (n:Nat)):=(hWr.out.cell (World.block_lt_of_cell? W1 _ HC19.out)).trans HC19.out
   rcases Nat.lt_or_ge k n with hlt | hge
   · have HOk:=hide (hown.out.keep (Zaa wr (.cells #[.int .i64 4] 3)) (Nat.le_refl _))
     have HWk:=hide (hWr.out.trans ((Zaa wr (.cells #[.int .i64 4] 3)).mono hWr.out.size))
     have HV:=hide (Zlg 3 wr (.int .i64 4) rfl)
     have HLEN:Hid ((kVals (headK ++ List.replicate k 4)).length+1≤1000000):=by show _≤_;simp [kVals,headK];omega
     go_wp2_with (at_builtin;refine Zbz ZkB _ rfl (.tmp 30) (.tmp 31) rfl W1.heap.size _ _ rfl HOk.out _ _ _ [.int .i64 4] rfl HV.out (fun h=>by cases h) HLEN.out HWk.out.size ?_)
     intro v6 w6 ho6 hb6 _
     have HO6:=hide ho6
     have HB6:=hide (HWk.out.trans hb6)
     clear ho6 hb6 d19
     go_wp2
     go_roundw
     case rel =>
      refine⟨k+1,by omega,by go_num,?_,HB6⟩
      rw [ZiQ]
      exact HO6
     case measure=>simp only [intOf];omega
   · have hkn:k=n:=by omega
     have hown':OwnsV 3 wr W1.heap.size u4 (kVals (headK ++ List.replicate n 4)):=by
      have:=hown.out
      rw [hkn] at this
      exact this
     obtain⟨ka,kc,hkv,hvs,_⟩:=hown'.vs (Zg0 _)
     have hkl:(kVals (headK ++ List.replicate n 4)).length=6+n:=by simp [kVals,headK];omega
     rw [hkl] at hkv hvs
     subst hkv
     have HWW:=hide (HW.out.trans (hWr.out.mono HW.out.size))
     have HZ1:=hide (HZ.out.keep hWr.out)
     obtain⟨K,hK⟩:∃K,K=headK ++ List.replicate n 4:=⟨_,rfl⟩
     have hT:=Zhx _ len cap xs ka (6+n) kc K wr (H.out.keep HWW.out (Nat.le_refl _)) (by rw [hK];exact Zii hvs) hl (by omega)
     unfold ZaK at hT
     rw [ZbN (by rw [hK];exact ZiP n)] at hT
     rw [← hK] at HDN HDS
     have HT:=hide hT
     have hks:∀k∈K,1≤k∧k≤5:=by
      rw [hK]
      intro k hk
      rcases List.mem_append.1 hk with h | h
      · exact Zdc k h
      · rw [(List.mem_replicate.1 h).2];decide
     obtain⟨N,hN⟩:∃N,N=6+n:=⟨_,rfl⟩
     rw [← hN] at HT ⊢
     have HNN:=hide hN
     clear hkn hown' hown hvs hkl hT hK hN
     cases hT1:tks xs K [] 0 with
     | none =>
      have HND:=hide (HDN.out hT1)
      rw [hT1] at HT
      simp only at HT
      clear hT1 HDS HDN
      go_wp2_with fail
      refine HT.out.mono ?_
      rintro e w2 ⟨v2,rfl,hb2,_,_⟩
      have HW2:=hide (Zab HWW.out hb2)
      have HZ2:=hide (HZ1.out.keep hb2)
      have z0:=HZ2.out.c0
      have z1:=HZ2.out.c1
      have z2:=HZ2.out.c2
      have z3:=HZ2.out.c3
      have z4:=HZ2.out.c4
      have z5:=HZ2.out.c5
      have f0:=HZ2.out.fz
      simp only [zeroR] at z0 z1 z3 z4 z5
      clear hb2 d19
      go_wp2_with fail
      show bodyPost Tryz.prog Tryz.f125 _ Exit.ret _ (setRw w2 w.heap.size zeroR (.slice none 0 0))
      refine ZbP rfl HZ2.out zeroR (.slice none 0 0) (.bool false) ⟨_,_,_,rfl⟩ (by rfl) (by rfl) (by rfl) ?_
      exact Zd0.no HND.out (Zas HW2.out (Nat.le_refl _) _ _)
     | some LQ =>
      obtain⟨L,Q⟩:=LQ
      obtain⟨hLL,m,hm,hyes,hno⟩:=HDS.out hT1
      rw [hT1] at HT
      simp only at HT
      have HLL:=hide (hLL.trans HNN.out.symm)
      have HM:=hide hm
      have HYES:=hide hyes
      have HNO:=hide hno
      clear hT1 HDS HDN hLL hm hyes hno
      go_wp2_with fail
      refine HT.out.mono ?_
      rintro e w2 ⟨v2,rfl,hb2,ho2,hf2⟩
      have HW2:=hide (Zab HWW.out hb2)
      have HZ2:=hide (HZ1.out.keep hb2)
      have h6N:6≤N:=by rw [HNN.out];omega
      have hN10:N≤10:=by rw [HNN.out];omega
      obtain⟨g,cp,cur,hv2,hbg,hgb⟩:∃g cp cur,v2=.slice (some ⟨g,0,none⟩) N cp∧wr.heap.size≤g∧w2.heap[g]? = some (Obj.cells cur 158 (0,0)):=by
       rcases ho2.2 with ⟨_,h0⟩ | ⟨g,cp,cur,hv,hb,hg,_⟩
       · rw [HLL.out] at h0
         omega
       · exact⟨g,cp,cur,by rw [hv,HLL.out],hb,hg⟩
      obtain⟨p2,c2,hv3,is2,_⟩:=ho2.is hf2
      rw [hv2,HLL.out] at hv3
      simp only [Value.slice.injEq] at hv3
      obtain⟨rfl,_,rfl⟩:=hv3
      subst hv2
      rw [HLL.out] at is2
      have hat:∀j,j<N→ItAt w2 g (0+j*4) (L.getD j itD):=fun j hj=>by
       obtain⟨_,_,e,h⟩:=is2.2.2 j hj
       simp only [Option.some.injEq,Addr.mk.injEq,and_true] at e
       obtain⟨rfl,rfl⟩:=e
       exact h
      have HAT:=hide hat
      have HGB:=hide hgb
      have HFit':=hide (Zhy hf2 (by rw [HLL.out];exact h6N))
      have hglt:g<w2.heap.size:=(Array.getElem?_eq_some_iff.1 hgb).1
      have hzlt:w.heap.size<w2.heap.size:=(Array.getElem?_eq_some_iff.1 HZ2.out).1
      clear hb2 ho2 hf2 is2 hat hgb HT d19 hbg
      go_wp2_with fail
      refine Pl.q9 (ops:=Pl.find 11 ((Tryz.f125.body).getD .skip)) ?_
      refine Zob w2 w2 g 0 N cp h6N _ _ _ _ _ (HAT.out 0 (by omega)) (HAT.out 1 (by omega)) (HAT.out 2 (by omega)) (HAT.out 3 (by omega)) (HAT.out 4 (by omega)) (Below.refl _ _) (by rfl) (by rfl) (by rfl) ?_
      intro u w3 hw3
      simp only [Act.put,List.setIfInBounds_toArray,List.set_cons_zero,List.set_cons_succ]
      have hb3:Below w2.heap.size w2 w3:=by rw [hw3];exact ((Below.refl _ _).drew).alloc (Nat.le_refl _) _
      have hx3:RwBlk w3 w2.heap.size ⟨(L.getD 1 itD).x,(L.getD 0 itD).n == 1,[],(L.getD 2 itD).n,(L.getD 3 itD).n,(L.getD 4 itD).n⟩ (.slice none 0 0):=by rw [hw3];exact Zai w2.drew ⟨(L.getD 1 itD).x,(L.getD 0 itD).n == 1,[],(L.getD 2 itD).n,(L.getD 3 itD).n,(L.getD 4 itD).n⟩ (.slice none 0 0)
      have HX3:=hide hx3
      have HW3:=hide (Zab HW2.out hb3)
      have HZ3:=hide (HZ2.out.keep hb3)
      have HG3:=hide (hb3.block g hglt)
      have hg9:w2.drew.heap.size=w2.heap.size:=rfl
      rw [hg9]
      obtain⟨R0,hR0⟩:∃R0:Rw,R0=⟨(L.getD 1 itD).x,(L.getD 0 itD).n == 1,[],(L.getD 2 itD).n,(L.getD 3 itD).n,(L.getD 4 itD).n⟩:=⟨_,rfl⟩
      rw [← hR0] at HX3
      have HR0:=hide hR0
      clear hw3 hb3 hx3 hg9 hR0
      go_wp2_with fail
      go_loopw [10] (fun i wr2=>∃k:Nat,6≤k∧k≤N∧i=.int .i64 k∧Hid (∃v,RwBlk wr2 w2.heap.size R0 v∧OwnsV 23 wr2 w.heap.size v (fVals (((L.drop 6).map It.x).take (k-6))))∧Hid (Below w.heap.size w wr2)∧Hid (RwBlk wr2 w.heap.size zeroR (.slice none 0 0))∧Hid (wr2.heap[g]? = w2.heap[g]?)) (fun i _=>N-(intOf i).toNat)
      case atStart=>exact ⟨6,by omega,by omega,rfl,⟨_,HX3.out,OwnsV.nil _ _ _⟩,HW3,HZ3,HG3⟩
      case round =>
       obtain⟨k,h6k,hkN,rfl,hv,hWr2,hZr2,hGr2⟩:=hrel
       rcases Nat.lt_or_ge k N with hlt | hge
       · obtain⟨v,hvb,hvo⟩:=hv.out
         have HVB:=hide hvb
         have HVO:=hide hvo
         have hit:=HAT.out k hlt
         have HIT:Hid (ItAt wr g (0+k*4) (L.getD k itD)):=⟨(Za3 hGr2.out _).trans hit.1,(Za3 hGr2.out _).trans hit.2.1,(Za3 hGr2.out _).trans hit.2.2.1,(Za3 hGr2.out _).trans hit.2.2.2⟩
         have HIB:Hid (wr.heap[g]? = some (Obj.cells cur 158 (0,0))):=hGr2.out.trans HGB.out
         have HLEN:Hid ((fVals (((L.drop 6).map It.x).take (k-6))).length≤1000):=by
          show _≤_
          simp [fVals]
          omega
         clear hvb hvo hv hit
         go_wp2_with fail
         refine Pl.q9 (ops:=Pl.find 15 ((Tryz.f125.body).getD .skip)) ?_
         refine Zoc w wr w.heap.size w2.heap.size R0 v _ hWr2.out (by omega) hWr2.out.size HVB.out HVO.out HLEN.out g 0 N cp k (L.getD k itD) cur (0,0) hlt HIB.out (by omega) HIT.out (by rfl) (by rfl) (by rfl) (by rfl) (by rfl) ?_
         intro u' w5 v5 hce
         simp only [Act.put,List.setIfInBounds_toArray,List.set_cons_zero,List.set_cons_succ]
         have HCE:=hide hce
         have HZ5:Hid (RwBlk w5 w.heap.size zeroR (.slice none 0 0)):=(hce.stay _ _ _ _ hZr2.out (by decide) (by omega)).trans hZr2.out
         have HG5:Hid (w5.heap[g]? = w2.heap[g]?):=(hce.stay _ _ _ _ HIB.out (by decide) (by omega)).trans hGr2.out
         clear hce
         go_wp2_with fail
         go_roundw
         case rel =>
          refine⟨k+1,by omega,by omega,by go_num,⟨v5,HCE.out.blk,?_⟩,HCE.out.below,HZ5,HG5⟩
          have hk6:k-6<(L.drop 6).length:=by rw [List.length_drop,HLL.out];omega
          have e:fVals (((L.drop 6).map It.x).take (k+1-6))=fVals (((L.drop 6).map It.x).take (k-6)) ++ [.float .f64 (L.getD k itD).x]:=by
           rw [show k+1-6=(k-6)+1 by omega,List.take_succ_eq_append_getElem (by simpa using hk6)]
           have hkl:k<L.length:=by rw [HLL.out];exact hlt
           have:L[6+(k-6)]'(by omega)=L[k]:=by congr 1;omega
           simp [fVals,List.getD,hkl,this]
          rw [e]
          exact HCE.out.owns
         case measure=>simp only [intOf];omega
       · have htk:((L.drop 6).map It.x).take (k-6)=(L.drop 6).map It.x:=List.take_of_length_le (by rw [List.length_map,List.length_drop,HLL.out];omega)
         rw [htk] at hv
         obtain⟨v,hvb,hvo⟩:=hv.out
         obtain⟨X,hX⟩:∃X,X=Zdr L (L.drop 6):=⟨_,rfl⟩
         rw [HM.out] at hX hvo HFit' htk
         rw [← hX] at HYES HNO HFit'
         have hXx:X.xs=m.map It.x:=by rw [hX];rfl
         rw [← hXx] at hvo
         obtain⟨nm,hnm⟩:∃nm,X.xs.length=nm:=⟨_,rfl⟩
         have hnm4:nm≤10:=by
          rw [← hnm,hXx,List.length_map,← HM.out,List.length_drop,HLL.out]
          omega
         obtain⟨ca,cc,rfl,hfs⟩:=hvo.fs HFit'.out.xs hnm (by omega)
         have hxb:RwBlk wr w2.heap.size X (.slice ca nm cc):=by
          have:=hvb
          rw [HR0.out] at this
          rw [hX]
          exact this
         have HXB:=hide hxb
         have HFS:=hide hfs
         have HVO:=hide hvo
         have HFit:=HFit'
         have HXL2:=hide hnm
         have hcame:=H.out.keep hWr2.out (Nat.le_refl _)
         have HCM:=hide hcame
         clear hvb hvo hv htk hXx hnm hxb hfs hX hcame HAT HGB
         go_wp2_with fail
         refine Pl.q9 (ops:=Pl.find 16 ((Tryz.f125.body).getD .skip)) ?_
         cases hmay:X.may
         · have HND:Hid (decB xs=none):=HNO.out (fun h=>by rw [hmay] at h;cases h.1)
           refine Znp wr wr w2.heap.size X ca nm cc HXB.out HFS.out HFit.out _ len cap xs HCM.out hmay (Below.refl _ _) (by rfl) (by rfl) (by rfl) (by rfl) ?_
           intro u2 w4 hb4
           simp only [Act.put,List.setIfInBounds_toArray,List.set_cons_zero,List.set_cons_succ]
           clear hmay
           have HW4:=hide (Zab hWr2.out hb4)
           have HZ4:=hide (hZr2.out.keep hb4)
           have z0:=HZ4.out.c0
           have z1:=HZ4.out.c1
           have z2:=HZ4.out.c2
           have z3:=HZ4.out.c3
           have z4:=HZ4.out.c4
           have z5:=HZ4.out.c5
           have f0:=HZ4.out.fz
           simp only [zeroR] at z0 z1 z3 z4 z5
           clear hb4
           go_wp2_with fail
           show bodyPost Tryz.prog Tryz.f125 _ Exit.ret _ (setRw w4 w.heap.size zeroR (.slice none 0 0))
           refine ZbP rfl HZ4.out zeroR (.slice none 0 0) (.bool false) ⟨_,_,_,rfl⟩ (by rfl) (by rfl) (by rfl) ?_
           exact Zd0.no HND.out (Zas HW4.out (Nat.le_refl _) _ _)

         · by_cases hbx:X.bytes=xs
           · have HSD:Hid (decB xs=some X):=HYES.out hmay HFit.out hbx
             refine Znr wr wr w2.heap.size X ca nm cc HXB.out HFS.out HFit.out _ len cap xs HCM.out hmay hbx (Below.refl _ _) (by rfl) (by rfl) (by rfl) (by rfl) ?_
             intro u2 w4 hb4
             simp only [Act.put,List.setIfInBounds_toArray,List.set_cons_zero,List.set_cons_succ]
             clear hmay hbx
             have HW4:=hide (Zab hWr2.out hb4)
             have HZ4:=hide (hZr2.out.keep hb4)
             have HX4:=hide (HXB.out.keep hb4)
             have HO4:=hide (HVO.out.keep hb4 (Nat.le_refl _))
             have z0:=HZ4.out.c0
             have z1:=HZ4.out.c1
             have z2:=HZ4.out.c2
             have z3:=HZ4.out.c3
             have z4:=HZ4.out.c4
             have z5:=HZ4.out.c5
             have f0:=HZ4.out.fz
             simp only [zeroR] at z0 z1 z3 z4 z5
             have x0:=HX4.out.c0
             have x1:=HX4.out.c1
             have x2:=HX4.out.c2
             have x3:=HX4.out.c3
             have x4:=HX4.out.c4
             have x5:=HX4.out.c5
             clear hb4
             go_wp2_with fail
             show bodyPost Tryz.prog Tryz.f125 _ Exit.ret _ (setRw w4 w.heap.size X (.slice ca nm cc))
             refine ZbP rfl HZ4.out X (.slice ca nm cc) (.bool true) ⟨_,_,_,rfl⟩ (by rfl) (by rfl) (by rfl) ?_
             refine⟨Zas HW4.out (Nat.le_refl _) _ _,(fun h=>by rw [HSD.out] at h;cases h),fun r h=>?_⟩
             rw [HSD.out] at h
             simp only [Option.some.injEq] at h
             subst h
             exact⟨HFit.out,ca,nm,cc,rfl,(HO4.out.setRw HZ4.out _ _).fsAt HFit.out.xs (by rw [HXL2.out];omega),HO4.out.setRw HZ4.out _ _⟩

           · have HND:Hid (decB xs=none):=HNO.out (fun h=>hbx h.2)
             have hne:¬(bstr X.bytes).toList=(bstr xs).toList:=beq_eq_false_iff_ne.1 (ZgR (Zbn hmay) HXB'.out hbx)
             refine Znq wr wr w2.heap.size X ca nm cc HXB.out HFS.out HFit.out _ len cap xs HCM.out hmay hne (Below.refl _ _) (by rfl) (by rfl) (by rfl) (by rfl) ?_
             intro u2 w4 hb4
             simp only [Act.put,List.setIfInBounds_toArray,List.set_cons_zero,List.set_cons_succ]
             clear hmay hbx hne
             have HW4:=hide (Zab hWr2.out hb4)
             have HZ4:=hide (hZr2.out.keep hb4)
             have z0:=HZ4.out.c0
             have z1:=HZ4.out.c1
             have z2:=HZ4.out.c2
             have z3:=HZ4.out.c3
             have z4:=HZ4.out.c4
             have z5:=HZ4.out.c5
             have f0:=HZ4.out.fz
             simp only [zeroR] at z0 z1 z3 z4 z5
             clear hb4
             go_wp2_with fail
             show bodyPost Tryz.prog Tryz.f125 _ Exit.ret _ (setRw w4 w.heap.size zeroR (.slice none 0 0))
             refine ZbP rfl HZ4.out zeroR (.slice none 0 0) (.bool false) ⟨_,_,_,rfl⟩ (by rfl) (by rfl) (by rfl) ?_
             exact Zd0.no HND.out (Zas HW4.out (Nat.le_refl _) _ _)
theorem ZfH : (Tryz.prog.info? 3).map (fun i => (i.zero, i.size, i.bytes)) = some (some (.int .i64 0), 1, 8) := by kernel_rfl
def Zav (t : List Int) : List Value := t.map fun x => .int .i64 x
theorem Zi0 (t : List Int) : ∀ u ∈ Zav t, u.oneCell' = true := by
 intro u hu
 obtain ⟨i, _, rfl⟩ := List.mem_map.1 hu
 rfl
theorem ZbF (t : List Int) : (Zav t).length = t.length := by simp [Zav]
theorem ZeP {t : List Int} {i : Nat} (h : i < t.length) : (Zav t)[i]? = some (.int .i64 (t.getD i 0)) := by simp [Zav, List.getD, h]
theorem Zi1 (t : List Int) (i : Nat) (x : Int) : Zav (t.set i x) = (Zav t).set i (.int .i64 x) := by simp [Zav, List.map_set]
def OwnN (w : World) (v : Sl) (t : List Int) : Prop := Own 3 1 w v (Zav t)
theorem OwnN.len (h : OwnN w v t) : t.length = v.len := by
 have := h.1
 rw [ZbF] at this
 omega
theorem OwnN.cellAt (h : OwnN w v t) {g off : Nat} (ha : v.a = some ⟨g, off, none⟩) {i : Nat} (hi : i < v.len) : w.cell? ⟨g, off + i, none⟩ = some (.int .i64 (t.getD i 0)) := by
 have := Own.cell h ha i _ (ZeP (by rw [h.len]; exact hi))
 rwa [Addr.add_lit] at this
theorem OwnN.frozen (h : OwnN w v t) {g off : Nat} (ha : v.a = some ⟨g, off, none⟩) (o : Nat) : w.frozen? ⟨g, o, none⟩ = false := by
 obtain ⟨cur, hc⟩ := Own.kind h (k := g) (by rw [Sl.blk, ha]; rfl)
 exact frozen_of_row w g _ cur 3 hc
theorem OwnN.pos {w : World} {v : Sl} {t : List Int} (h : OwnN w v t) (hp : 0 < v.len) : ∃ g off, v.a = some ⟨g, off, none⟩ := by
  rcases h.2 with ⟨h0, _⟩ | ⟨g, off, cur, ha, _⟩
  · rw [h0] at hp; exact absurd hp (Nat.not_lt_zero _)
  · exact ⟨g, off, ha⟩
theorem OwnN.gi {D : Nat → Prop} (h : OwnN w v t) (hD : ∀ k, v.blk = some k → D k) (hm : v.len ≤ 1000000) : Gi D w v t := by
 refine ⟨h.len, Own.nilcap h, Own.lecap h, hm, fun ad ha _ => hD _ (by rw [Sl.blk, ha]; rfl), fun i hi => ?_⟩
 obtain ⟨g, off, ha⟩ := h.pos (by omega)
 exact ⟨g, off, ha, h.cellAt ha hi⟩
theorem Gi.src {D:Nat→Prop}(h:Gi D w v t):Src Tryz.prog 1 46 v.val v.len (Zav t) w:=by
 obtain⟨a,len,cap⟩:=v
 have hl:t.length=len:=h.len
 cases a with
 | none =>
  have hc:cap=0:=h.nil rfl
  have h0:len=0:=by have:len≤cap:=h.le;omega
  subst hc;subst h0
  have:t=[]:=List.eq_nil_of_length_eq_zero hl
  subst this
  exact Src.ofNil w Tryz.underlying46 0
 | some ad =>
  refine Src.ofSlice w Tryz.underlying46 ad len cap (Zav t) (by rw [ZbF,hl,Nat.mul_one]) (fun j u hj=>?_) (Zi0 t)
  have hjl:j<t.length:=by
   have:=(List.getElem?_eq_some_iff.1 hj).1
   rwa [ZbF] at this
  obtain⟨b,off,e,c0⟩:=h.cell j (by show j<len;omega)
  obtain rfl:=Option.some.inj e
  rw [Addr.add_lit,c0,← ZeP hjl,hj]
section
variable {ops : Array Oper} {rest : List Oper} {o : Oper} {a : Act} {Q : Exit → Act → World → Prop}
end
theorem Zom (w : World) (g off len cap : Nat) (t : List Int) (o : OwnN w ⟨some ⟨g, off, none⟩, len, cap⟩ t) (i : Nat) (hi : i < len) (x : Int) : ∃ W, (Instr.storeAt 3 (.pointer (some ⟨g, off + i, none⟩)) (.int .i64 x)).run Tryz.prog w = .ok () W ∧ OwnN W ⟨some ⟨g, off, none⟩, len, cap⟩ (t.set i x) ∧ Frm (fun k => k = g) w W := by
 have k0 := o.cellAt rfl hi
 have f0 := o.frozen rfl (off + i)
 refine ⟨w.setCell ⟨g, off + i, none⟩ (.int .i64 x), ?_, ?_, (Frm.refl (fun k => k = g) w).setCell (p := ⟨g, off + i, none⟩) rfl _⟩
 · simp [go_sem, Instr.storeAt, k0, f0]
 · unfold OwnN
   rw [Zi1]
   exact Own.setCell o rfl i _
end Go.Proofs.YtdojdcncncgncaaGreat
