/-
  Lemmas.
-/
import Derived.Test.YtiecfcjlhldhdaaGreatKeaz
import Derived.Test.YtiecfcjlhldhdaaGreatKeav
import Derived.Laws.MakeOwn
import Derived.Lib.SmallJoins
import Derived.Laws.Cover2
import Derived.Deep.Slices
namespace Go.Proofs.YtiecfcjlhldhdaaGreat
open Go.RowKit
set_option linter.unusedVariables false
set_option linter.unusedSimpArgs false
set_option maxRecDepth 100000
set_option maxHeartbeats 4000000
variable {w:World}{s:Sl}{l:List Rx}{a:Option Addr}{n len cap:Nat}
structure ZaA (w:World) (s:Sl) (l:List Rx):Prop where
  rz:Rz w s.a s.len l
  le:s.len≤s.cap
  nil:s.a=none→s.cap=0
  flt:∀x∈l,ColF w x
theorem ZaA.keep {w':World}(h:ZaA w s l)(hb:Below w.heap.size w w'):ZaA w' s l:=⟨h.rz.keep hb (Nat.le_refl _),h.le,h.nil,fun x hx=>(h.flt x hx).keep hb⟩
theorem Rq.rows {w0:World}(h:Rq w0 w s l)(hf:∀x∈l,ColF w x):ZaA w s l:=by
 refine⟨h.rz,?_,fun e=>?_,hf⟩
 · rcases h.own.2 with ⟨h0,_⟩ | ⟨g,off,cur,ha,hc,hd,he,_⟩
   · rw [h0];exact Nat.le_refl _
   · exact he
 · rcases h.own.2 with ⟨h0,_⟩ | ⟨g,off,cur,ha,_⟩
   · rw [h0];rfl
   · rw [ha] at e;cases e
def ZcA (a:Option Addr) (cap k:Nat):Option Addr:=if cap=k then a else a.map (·.add (k*6))
theorem szRw (w:World):(sizeOf 39).run Tryz.prog w=.ok 6 w:=by
 obtain⟨i0,hi,ab,aa,ac⟩:=info_parts ZlJ;simp [sizeOf,typeInfo,hi,aa]
theorem Zo0:Tryz.prog.elem 49=39:=by kernel_rfl
theorem Zi6 (a:Option Addr)(len cap k:Nat)(hk:k≤len)(w:World):(Instr.sliceAt 49 (.slice a len cap) (some (.int .i64 (k:Int))) none none).run Tryz.prog w=.ok (.slice (ZcA a cap k) (len-k) (cap-k)) w:=by
 (have aa:Tryz.prog.underlying 49=some (.slice (Tryz.prog.elem 49)):=by kernel_rfl);rw [run_sliceAt_slice w 49 _ _ _ _ aa,run_slice_l w 49 a len cap aa .i64 (k:Nat) (by omega) (by omega),Zo0,szRw];simp [Result.andThen,sliced,ZcA]
theorem ZiA (a:Option Addr)(len cap k:Nat)(hk:k≤cap)(w:World):(Instr.sliceAt 49 (.slice a len cap) none (some (.int .i64 (k:Int))) none).run Tryz.prog w=.ok (.slice (ZcA a cap 0) k cap) w:=by
 (have aa:Tryz.prog.underlying 49=some (.slice (Tryz.prog.elem 49)):=by kernel_rfl);rw [run_sliceAt_slice w 49 _ _ _ _ aa,run_slice_h w 49 a len cap aa .i64 (k:Nat) (by omega) (by omega),Zo0,szRw];simp [Result.andThen,sliced,ZcA]
theorem ZaA.part (h:ZaA w s l){k m:Nat}(hk:k+m≤s.len){c:Nat}(ha:a=ZcA s.a s.cap k)(hc:s.a=none→c=0):Src Tryz.prog 6 49 (.slice a m c) m (Zau ((l.drop k).take m)) w:=by
 (have hl:((l.drop k).take m).length=m:=by rw [List.length_take,List.length_drop,h.rz.len];omega);refine Rz.src ⟨hl,fun j hj=>?_,fun x hx=>h.rz.cols x (List.mem_of_mem_drop (List.mem_of_mem_take hx)),fun x hx=>h.rz.fits x (List.mem_of_mem_drop (List.mem_of_mem_take hx))⟩ (fun e=>?_)
 · obtain⟨b,off,ad,ab⟩:=h.rz.at' (k+j) (by omega);have ac:=h.le;refine⟨b,off+k*6,?_,?_⟩
   · rw [ha,ad];unfold ZcA;rw [if_neg (by omega)];simp [Addr.add_lit]
   · have e1:((l.drop k).take m).getD j Rx.zero=l.getD (k+j) Rx.zero:=by
      simp only [List.getD,List.getElem?_take,List.getElem?_drop,if_pos hj]
     rw [e1,show off+k*6+j*6=off+(k+j)*6 by omega];exact ab
 · rw [e] at ha;unfold ZcA at ha;have aa:s.a=none:=by
    split at ha
    · exact ha.symm
    · cases hs:s.a with
      | none=>rfl
      | some q=>rw [hs] at ha;cases ha
   have:=h.nil aa;have ac:=h.le;exact⟨by omega,hc aa⟩
theorem ZgB (w:World):(Instr.buildSlice 49 0 #[]).run Tryz.prog w=.ok (.slice (some ⟨w.heap.size,0,none⟩) 0 0) (w.alloc (.cells #[] 39)):=by
 (have aa:Tryz.prog.underlying 49=some (.slice (Tryz.prog.elem 49)):=by kernel_rfl);simp [go_sem,Instr.buildSlice,run_underlying aa]
theorem Ze2 (x:Rx)(w:World):(Instr.buildSlice 49 1 #[(0,x.val)]).run Tryz.prog w=.ok (.slice (some ⟨w.heap.size,0,none⟩) 1 1) (w.alloc (.cells #[.float .f64 x.r.key,.bool x.r.dead,.slice x.a x.n x.c,.int .i64 x.r.wr,.int .i64 x.r.cell,.int .i64 x.r.no] 39)):=by
 (have aa:Tryz.prog.underlying 49=some (.slice (Tryz.prog.elem 49)):=by kernel_rfl);simp [go_sem,Instr.buildSlice,run_underlying aa,Rx.val,Rw.val]
theorem ZoO {w0:World}{s14:Sl}{x:Rx}{ay:Nat}(hl:ZaA w0 s l)(hx:ColF w0 x)(hq:Rq w0 w s14 ([] ++ (l.drop 0).take ay ++ [x] ++ (l.drop ay).take (s.len-ay)))(aa:ay≤s.len):ZaA w s14 (l.take ay ++ [x] ++ l.drop ay):=by
 have e:[] ++ (l.drop 0).take ay ++ [x] ++ (l.drop ay).take (s.len-ay)=l.take ay ++ [x] ++ l.drop ay:=by
  rw [List.nil_append,List.drop_zero,List.take_of_length_le (l:=l.drop ay) (by rw [List.length_drop,hl.rz.len];exact Nat.le_refl _)]
 rw [e] at hq;refine hq.rows (fun y hy=>?_);rcases List.mem_append.1 hy with hy | hy
 · rcases List.mem_append.1 hy with hy | hy
   · exact(hl.flt y (List.mem_of_mem_take hy)).keep hq.below
   · rw [List.mem_singleton.1 hy];exact hx.keep hq.below
 · exact(hl.flt y (List.mem_of_mem_drop hy)).keep hq.below
theorem ZiC {p:Nat}{x:Rx}(h:RwBlk w p x.r (.slice x.a x.n x.c)):Src Tryz.prog 6 49 (.slice (some ⟨p,0,none⟩) 1 1) 1 (Zau [x]) w:=by
 refine Src.ofSlice _ Tryz.underlying49 ⟨p,0,none⟩ 1 1 (Zau [x]) rfl (fun j u hj=>?_) (Zbo _);rw [Addr.add_lit,cell_of_row _ _ _ _ _ _ h];simpa [Zau,Rx.cells] using hj
theorem ZlE (w0 w:World)(s:Sl)(l:List Rx)(hl:ZaA w0 s l)(az:s.len+1≤1000000)(ay:Nat)(ar:ay≤s.len)(b off len c i:Nat)(hi:i<len)(x:Rx)(bc:RwAt w0 b (off+i*6) x)(hx:ColF w0 x)(aw:x.r.fits)(hW:Below w0.heap.size w0 w)
    {Q:Exit→Act→World→Prop}{A:Act}(bb:A.tmps.size=70)(ba:A.defers=[])(s9:A.tmps.getD 9 undef=.slice s.a s.len s.cap)(s12:A.tmps.getD 12 undef=.int .i64 (ay:Int))(s7:A.tmps.getD 7 undef=.slice (some ⟨b,off,none⟩) len c)(s10:A.tmps.getD 10 undef=.int .i64 (i:Int))
    (hend:∀(u:Nat→Value)(s14:Sl) w',ZaA w' s14 (l.take ay ++ [x] ++ l.drop ay)→Below w0.heap.size w0 w'→Q .normal ((Pl.pu A u [55,56,57,59,60,61,62,65,66,67,54,58,63,64,68]).put (some 9) (s14.val)) w') :
    (Code.region 11 (Pl.find 11 ((Tryz.f19.body).getD .skip)) true).wp Tryz.prog Q A w:=by
  have ag:Below w0.heap.size w0 w.drew:=hW.drew;have hA:=Pl.At.same (v:=.int .i64 (i:Int)) (d:=10) (Pl.At.same (v:=.slice (some ⟨b,off,none⟩) len c) (d:=7) (Pl.At.same (v:=.int .i64 (ay:Int)) (d:=12) (Pl.At.same (v:=.slice s.a s.len s.cap) (d:=9) (Pl.At.here bb ba) s9) s12) s7) s10;refine Pl.qa (S:=fun w'=>Below w0.heap.size w0 w') hA ag ?_;rw [show (Pl.find 11 ((Tryz.f19.body).getD .skip)).size=16 by kernel_rfl];refine Pl.q0 1 55 (.slice s.a s.len s.cap) (Pl.q1) (Pl.q2 (.tmp 9)) ag ?_;refine Pl.q0 2 56 (.int .i64 (ay:Int)) (Pl.q1) (Pl.q2 (.tmp 12)) ag ?_;refine Pl.q0 3 57 (.slice (ZcA s.a s.cap 0) ay s.cap) (Pl.q1) (Pl.qu 49 (.tmp 55) none (some (.tmp 56)) (fun w=>ZiA s.a s.len s.cap ay (by have:=hl.le;omega) w)) ag ?_;refine Pl.q0 5 59 (.slice (some ⟨b,off,none⟩) len c) (Pl.q1) (Pl.q2 (.tmp 7)) ag ?_;refine Pl.q0 6 60 (.int .i64 (i:Int)) (Pl.q1) (Pl.q2 (.tmp 10)) ag ?_;refine Pl.q0 7 61 (.pointer (some ⟨b,off+i*6,none⟩)) (Pl.q1) (Pl.qb 49 (.tmp 59) (.tmp 60) (ZaW b off len c i hi)) ag ?_;refine Pl.q0 8 62 (x.val) (Pl.q1) (Pl.q4 39 (.tmp 61) (fun w' hS=>ZbD b (off+i*6) x w' (bc.keep hS (Nat.le_refl _)))) ag ?_;refine Pl.q0 11 65 (.slice s.a s.len s.cap) (Pl.q1) (Pl.q2 (.tmp 9)) ag ?_;refine Pl.q0 12 66 (.int .i64 (ay:Int)) (Pl.q1) (Pl.q2 (.tmp 12)) ag ?_;refine Pl.q0 13 67 (.slice (ZcA s.a s.cap ay) (s.len-ay) (s.cap-ay)) (Pl.q1) (Pl.qu 49 (.tmp 65) (some (.tmp 66)) none (fun w=>Zi6 s.a s.len s.cap ay ar w)) ag ?_;refine Pl.qs 0 9 ?_ ?_
  · have ak:Below w0.heap.size w0 (w.drew.alloc (.cells #[] 39)):=ag.alloc ag.size _;have aq:Rq w0 (w.drew.alloc (.cells #[] 39)) ⟨some ⟨w.drew.heap.size,0,none⟩,0,0⟩ []:=Rq.new0 w0 w.drew ag;refine Pl.qm 0 54 (.slice (some ⟨w.drew.heap.size,0,none⟩) 0 0) (w.drew.alloc (.cells #[] 39)) (Pl.zero 0 49 _ _ (by kernel_rfl) (ZgB w.drew)) ak ?_;refine Pl.qs 4 9 ?_ ?_
    · obtain⟨s4,w4,ai,ao,al⟩:=aq.app ((hl.keep ak).part (k:=0) (m:=ay) (by omega) (a:=ZcA s.a s.cap 0) (c:=s.cap) rfl (fun e=>by have:=hl.nil e;have:=hl.le;omega)) (by rw [List.length_take,List.length_drop,hl.rz.len];omega) (fun y hy=>((hl.flt y (List.mem_of_mem_drop (List.mem_of_mem_take hy))).keep ak).colR w0) (fun y hy=>hl.rz.fits y (List.mem_of_mem_drop (List.mem_of_mem_take hy))) (by simp only [List.length_take,List.length_drop,List.length_nil,hl.rz.len];omega);have aj:Below w0.heap.size w0 w4:=ao.below;refine Pl.qm 4 58 (s4.val) w4 (Pl.qx 49 (.tmp 54) (.tmp 57) ai) aj ?_;have ah:Below w0.heap.size w0 (w4.alloc (.cells #[.float .f64 x.r.key,.bool x.r.dead,.slice x.a x.n x.c,.int .i64 x.r.wr,.int .i64 x.r.cell,.int .i64 x.r.no] 39)):=aj.alloc aj.size _;have ap:=Zai w4 x.r (.slice x.a x.n x.c);have av:=ao.keep (Zaa w4 (.cells #[.float .f64 x.r.key,.bool x.r.dead,.slice x.a x.n x.c,.int .i64 x.r.wr,.int .i64 x.r.cell,.int .i64 x.r.no] 39));refine Pl.qh 9 63 (.slice (some ⟨w4.heap.size,0,none⟩) 1 1) (w4.alloc (.cells #[.float .f64 x.r.key,.bool x.r.dead,.slice x.a x.n x.c,.int .i64 x.r.wr,.int .i64 x.r.cell,.int .i64 x.r.no] 39)) (Pl.q1) (Pl.qy 49 (.tmp 62) (Ze2 x w4)) ah ?_;obtain⟨s10,w10,ac,ae,am⟩:=av.app (ZiC ap) rfl (fun y hy=>by rw [List.mem_singleton.1 hy];exact (hx.keep ah).colR w0) (fun y hy=>by rw [List.mem_singleton.1 hy];exact aw) (by simp only [List.length_append,List.length_take,List.length_drop,List.length_cons,List.length_nil,hl.rz.len];omega);have aa:Below w0.heap.size w0 w10:=ae.below;refine Pl.qh 10 64 (s10.val) w10 (Pl.q1) (Pl.qx 49 (.tmp 58) (.tmp 63) ac) aa ?_;obtain⟨s14,w14,ad,af,an⟩:=ae.app ((hl.keep aa).part (k:=ay) (m:=(s.len-ay)) (by omega) (a:=ZcA s.a s.cap ay) (c:=(s.cap-ay)) rfl (fun e=>by have:=hl.nil e;have:=hl.le;omega)) (by rw [List.length_take,List.length_drop,hl.rz.len];omega) (fun y hy=>((hl.flt y (List.mem_of_mem_drop (List.mem_of_mem_take hy))).keep aa).colR w0) (fun y hy=>hl.rz.fits y (List.mem_of_mem_drop (List.mem_of_mem_take hy))) (by simp only [List.length_append,List.length_take,List.length_drop,List.length_cons,List.length_nil,hl.rz.len];omega);have ab:Below w0.heap.size w0 w14:=af.below;refine Pl.qh 14 68 (s14.val) w14 (Pl.q1) (Pl.qx 49 (.tmp 64) (.tmp 67) ad) ab ?_;refine Pl.q0 15 9 (s14.val) (Pl.q1) (Pl.qe (.tmp 68)) ab ?_;refine Pl.q8 (fun A' hA'=>?_);rw [Pl.At.ext hA' ((((((((((((((((hA.put 55 _).put 56 _).put 57 _).put 59 _).put 60 _).put 61 _).put 62 _).put 65 _).put 66 _).put 67 _).put 54 _).put 58 _).put 63 _).put 64 _).put 68 _).put 9 _)];exact hend hA'.fn _ _ (ZoO hl hx af ar) ab
    · have ah:Below w0.heap.size w0 ((w.drew.alloc (.cells #[] 39)).alloc (.cells #[.float .f64 x.r.key,.bool x.r.dead,.slice x.a x.n x.c,.int .i64 x.r.wr,.int .i64 x.r.cell,.int .i64 x.r.no] 39)):=ak.alloc ak.size _;have ap:=Zai ((w.drew.alloc (.cells #[] 39))) x.r (.slice x.a x.n x.c);have av:=aq.keep (Zaa ((w.drew.alloc (.cells #[] 39))) (.cells #[.float .f64 x.r.key,.bool x.r.dead,.slice x.a x.n x.c,.int .i64 x.r.wr,.int .i64 x.r.cell,.int .i64 x.r.no] 39));refine Pl.qm 9 63 (.slice (some ⟨((w.drew.alloc (.cells #[] 39))).heap.size,0,none⟩) 1 1) ((w.drew.alloc (.cells #[] 39)).alloc (.cells #[.float .f64 x.r.key,.bool x.r.dead,.slice x.a x.n x.c,.int .i64 x.r.wr,.int .i64 x.r.cell,.int .i64 x.r.no] 39)) (Pl.qy 49 (.tmp 62) (Ze2 x ((w.drew.alloc (.cells #[] 39))))) ah ?_;obtain⟨s4,w4,ai,ao,al⟩:=av.app ((hl.keep ah).part (k:=0) (m:=ay) (by omega) (a:=ZcA s.a s.cap 0) (c:=s.cap) rfl (fun e=>by have:=hl.nil e;have:=hl.le;omega)) (by rw [List.length_take,List.length_drop,hl.rz.len];omega) (fun y hy=>((hl.flt y (List.mem_of_mem_drop (List.mem_of_mem_take hy))).keep ah).colR w0) (fun y hy=>hl.rz.fits y (List.mem_of_mem_drop (List.mem_of_mem_take hy))) (by simp only [List.length_take,List.length_drop,List.length_nil,hl.rz.len];omega);have aj:Below w0.heap.size w0 w4:=ao.below;have au:RwBlk w4 ((w.drew.alloc (.cells #[] 39))).heap.size x.r (.slice x.a x.n x.c):=(al.block _ (Array.getElem?_eq_some_iff.1 ap).1 (fun e=>by simp only [Sl.blk,Option.map_some,Option.some.injEq,Zae] at e;omega)).trans ap;refine Pl.qh 4 58 (s4.val) w4 (Pl.q1) (Pl.qx 49 (.tmp 54) (.tmp 57) ai) aj ?_;rw [Pl.qg 63 58];obtain⟨s10,w10,ac,ae,am⟩:=ao.app (ZiC au) rfl (fun y hy=>by rw [List.mem_singleton.1 hy];exact (hx.keep aj).colR w0) (fun y hy=>by rw [List.mem_singleton.1 hy];exact aw) (by simp only [List.length_append,List.length_take,List.length_drop,List.length_cons,List.length_nil,hl.rz.len];omega);have aa:Below w0.heap.size w0 w10:=ae.below;refine Pl.qh 10 64 (s10.val) w10 (Pl.q1) (Pl.qx 49 (.tmp 58) (.tmp 63) ac) aa ?_;obtain⟨s14,w14,ad,af,an⟩:=ae.app ((hl.keep aa).part (k:=ay) (m:=(s.len-ay)) (by omega) (a:=ZcA s.a s.cap ay) (c:=(s.cap-ay)) rfl (fun e=>by have:=hl.nil e;have:=hl.le;omega)) (by rw [List.length_take,List.length_drop,hl.rz.len];omega) (fun y hy=>((hl.flt y (List.mem_of_mem_drop (List.mem_of_mem_take hy))).keep aa).colR w0) (fun y hy=>hl.rz.fits y (List.mem_of_mem_drop (List.mem_of_mem_take hy))) (by simp only [List.length_append,List.length_take,List.length_drop,List.length_cons,List.length_nil,hl.rz.len];omega);have ab:Below w0.heap.size w0 w14:=af.below;refine Pl.qh 14 68 (s14.val) w14 (Pl.q1) (Pl.qx 49 (.tmp 64) (.tmp 67) ad) ab ?_;refine Pl.q0 15 9 (s14.val) (Pl.q1) (Pl.qe (.tmp 68)) ab ?_;refine Pl.q8 (fun A' hA'=>?_);rw [Pl.At.ext hA' ((((((((((((((((hA.put 55 _).put 56 _).put 57 _).put 59 _).put 60 _).put 61 _).put 62 _).put 65 _).put 66 _).put 67 _).put 54 _).put 58 _).put 63 _).put 64 _).put 68 _).put 9 _)];exact hend hA'.fn _ _ (ZoO hl hx af ar) ab
  · have ah:Below w0.heap.size w0 (w.drew.alloc (.cells #[.float .f64 x.r.key,.bool x.r.dead,.slice x.a x.n x.c,.int .i64 x.r.wr,.int .i64 x.r.cell,.int .i64 x.r.no] 39)):=ag.alloc ag.size _;have ap:=Zai w.drew x.r (.slice x.a x.n x.c);refine Pl.qm 9 63 (.slice (some ⟨w.drew.heap.size,0,none⟩) 1 1) (w.drew.alloc (.cells #[.float .f64 x.r.key,.bool x.r.dead,.slice x.a x.n x.c,.int .i64 x.r.wr,.int .i64 x.r.cell,.int .i64 x.r.no] 39)) (Pl.qy 49 (.tmp 62) (Ze2 x w.drew)) ah ?_;have ak:Below w0.heap.size w0 ((w.drew.alloc (.cells #[.float .f64 x.r.key,.bool x.r.dead,.slice x.a x.n x.c,.int .i64 x.r.wr,.int .i64 x.r.cell,.int .i64 x.r.no] 39)).alloc (.cells #[] 39)):=ah.alloc ah.size _;have aq:Rq w0 ((w.drew.alloc (.cells #[.float .f64 x.r.key,.bool x.r.dead,.slice x.a x.n x.c,.int .i64 x.r.wr,.int .i64 x.r.cell,.int .i64 x.r.no] 39)).alloc (.cells #[] 39)) ⟨some ⟨((w.drew.alloc (.cells #[.float .f64 x.r.key,.bool x.r.dead,.slice x.a x.n x.c,.int .i64 x.r.wr,.int .i64 x.r.cell,.int .i64 x.r.no] 39))).heap.size,0,none⟩,0,0⟩ []:=Rq.new0 w0 ((w.drew.alloc (.cells #[.float .f64 x.r.key,.bool x.r.dead,.slice x.a x.n x.c,.int .i64 x.r.wr,.int .i64 x.r.cell,.int .i64 x.r.no] 39))) ah;have ax:=ap.keep (Zaa ((w.drew.alloc (.cells #[.float .f64 x.r.key,.bool x.r.dead,.slice x.a x.n x.c,.int .i64 x.r.wr,.int .i64 x.r.cell,.int .i64 x.r.no] 39))) (.cells #[] 39));refine Pl.qh 0 54 (.slice (some ⟨((w.drew.alloc (.cells #[.float .f64 x.r.key,.bool x.r.dead,.slice x.a x.n x.c,.int .i64 x.r.wr,.int .i64 x.r.cell,.int .i64 x.r.no] 39))).heap.size,0,none⟩) 0 0) ((w.drew.alloc (.cells #[.float .f64 x.r.key,.bool x.r.dead,.slice x.a x.n x.c,.int .i64 x.r.wr,.int .i64 x.r.cell,.int .i64 x.r.no] 39)).alloc (.cells #[] 39)) (Pl.q1) (Pl.zero 0 49 _ _ (by kernel_rfl) (ZgB ((w.drew.alloc (.cells #[.float .f64 x.r.key,.bool x.r.dead,.slice x.a x.n x.c,.int .i64 x.r.wr,.int .i64 x.r.cell,.int .i64 x.r.no] 39))))) ak ?_;rw [Pl.qg 63 54];obtain⟨s4,w4,ai,ao,al⟩:=aq.app ((hl.keep ak).part (k:=0) (m:=ay) (by omega) (a:=ZcA s.a s.cap 0) (c:=s.cap) rfl (fun e=>by have:=hl.nil e;have:=hl.le;omega)) (by rw [List.length_take,List.length_drop,hl.rz.len];omega) (fun y hy=>((hl.flt y (List.mem_of_mem_drop (List.mem_of_mem_take hy))).keep ak).colR w0) (fun y hy=>hl.rz.fits y (List.mem_of_mem_drop (List.mem_of_mem_take hy))) (by simp only [List.length_take,List.length_drop,List.length_nil,hl.rz.len];omega);have aj:Below w0.heap.size w0 w4:=ao.below;have au:RwBlk w4 w.drew.heap.size x.r (.slice x.a x.n x.c):=(al.block _ (Array.getElem?_eq_some_iff.1 ax).1 (fun e=>by simp only [Sl.blk,Option.map_some,Option.some.injEq,Zae] at e;omega)).trans ax;refine Pl.qh 4 58 (s4.val) w4 (Pl.q1) (Pl.qx 49 (.tmp 54) (.tmp 57) ai) aj ?_;rw [Pl.qg 63 58];obtain⟨s10,w10,ac,ae,am⟩:=ao.app (ZiC au) rfl (fun y hy=>by rw [List.mem_singleton.1 hy];exact (hx.keep aj).colR w0) (fun y hy=>by rw [List.mem_singleton.1 hy];exact aw) (by simp only [List.length_append,List.length_take,List.length_drop,List.length_cons,List.length_nil,hl.rz.len];omega);have aa:Below w0.heap.size w0 w10:=ae.below;refine Pl.qh 10 64 (s10.val) w10 (Pl.q1) (Pl.qx 49 (.tmp 58) (.tmp 63) ac) aa ?_;obtain⟨s14,w14,ad,af,an⟩:=ae.app ((hl.keep aa).part (k:=ay) (m:=(s.len-ay)) (by omega) (a:=ZcA s.a s.cap ay) (c:=(s.cap-ay)) rfl (fun e=>by have:=hl.nil e;have:=hl.le;omega)) (by rw [List.length_take,List.length_drop,hl.rz.len];omega) (fun y hy=>((hl.flt y (List.mem_of_mem_drop (List.mem_of_mem_take hy))).keep aa).colR w0) (fun y hy=>hl.rz.fits y (List.mem_of_mem_drop (List.mem_of_mem_take hy))) (by simp only [List.length_append,List.length_take,List.length_drop,List.length_cons,List.length_nil,hl.rz.len];omega);have ab:Below w0.heap.size w0 w14:=af.below;refine Pl.qh 14 68 (s14.val) w14 (Pl.q1) (Pl.qx 49 (.tmp 64) (.tmp 67) ad) ab ?_;refine Pl.q0 15 9 (s14.val) (Pl.q1) (Pl.qe (.tmp 68)) ab ?_;refine Pl.q8 (fun A' hA'=>?_);rw [Pl.At.ext hA' ((((((((((((((((hA.put 55 _).put 56 _).put 57 _).put 59 _).put 60 _).put 61 _).put 62 _).put 65 _).put 66 _).put 67 _).put 54 _).put 58 _).put 63 _).put 64 _).put 68 _).put 9 _)];exact hend hA'.fn _ _ (ZoO hl hx af ar) ab
def posK (k:Nat):List Rw→Nat
  | []=>0
  | x :: l=>if Fl.less x.key k=true then posK k l+1 else 0
theorem Zmo (k:Nat):∀l:List Rw,posK k l≤l.length
 | []=>Nat.le_refl _
 | x :: l=>by
  have:=Zmo k l
  unfold posK
  split
  · rw [List.length_cons];omega
  · exact Nat.zero_le _
theorem Ziw {k:Nat}:∀{l:List Rw}{p:Nat},p≤l.length→(∀j,(hj:j<p)→(hl:j<l.length)→Fl.less l[j].key k=true)→((hp:p<l.length)→Fl.less l[p].key k=false)→posK k l=p
 | [],p,h,_,_=>by simp at h;rw [h];rfl
 | x :: l,0,_,_,h2=>by
  have:=h2 (by simp)
  unfold posK
  rw [if_neg (by simpa using this)]
 | x :: l,p+1,h,h1,h2=>by
  have h0:=h1 0 (Nat.zero_lt_succ _) (by simp)
  unfold posK
  rw [if_pos (by simpa using h0)]
  rw [Ziw (l:=l) (p:=p) (by simpa using h) (fun j hj hl=>by have:=h1 (j+1) (by omega) (by simpa using hl);simpa using this) (fun hp=>by have:=h2 (by simpa using hp);simpa using this)]
def insK (l:List Rw) (r:Rw):List Rw:=l.take (posK r.key l) ++ [r] ++ l.drop (posK r.key l)
def Zei (lo hi:Nat) (o:List Rw) (h:Hr):List Rw:=if (Fl.less h.r.key lo || !(Fl.less h.r.key hi))=true then o else insK o h.r
def Zay (lo hi:Nat) (l:List Hr):List Rw:=l.foldl (Zei lo hi) []
theorem ZeO {lo hi:Nat}{l:List Hr}{i:Nat}(h:i<l.length):Zay lo hi (l.take (i+1))=Zei lo hi (Zay lo hi (l.take i)) l[i]:=by
 unfold Zay;rw [List.take_succ_eq_append_getElem h,List.foldl_append];rfl
theorem ZnA (l:List Rw)(r:Rw):(insK l r).length=l.length+1:=by
 have:=Zmo r.key l;unfold insK;simp only [List.length_append,List.length_take,List.length_drop,List.length_cons,List.length_nil];omega
theorem ZeN (lo hi:Nat)(l:List Hr):∀i,i≤l.length→(Zay lo hi (l.take i)).length≤i
 | 0,_=>by simp [Zay]
 | i+1,h=>by
  have ih:=ZeN lo hi l i (by omega)
  rw [ZeO (by omega)]
  unfold Zei
  split
  · omega
  · rw [ZnA];omega
def Zej (w:World) (rs:List Rw) (e:Ending) (w':World):Prop:=Below w.heap.size w w'∧∃(s:Sl) (l:List Rx),e=.returned (.slice s.a s.len s.cap)∧ZaA w' s l∧rws l=rs
theorem ZaA.new (w:World):ZaA (w.alloc (.cells #[] 39)) ⟨some ⟨w.heap.size,0,none⟩,0,0⟩ []:=
 ⟨⟨rfl,(fun j hj=>absurd hj (Nat.not_lt_zero _)),(fun x hx=>by cases hx),fun x hx=>by cases hx⟩,Nat.le_refl _,(fun e=>by cases e),fun x hx=>by cases hx⟩
theorem ZkP {D:Nat→Prop}(w:World)(s:Sl)(L:List Lb)(h:Gl D w s L)(lo hi:Nat)(ab:lo<18446744073709551616)(bs:hi<18446744073709551616) :
    Calls Tryz.prog 19 #[s.val,.float .f64 lo,.float .f64 hi] w (Zej w (Zay lo hi (allH (lfs L)))):=by
  obtain⟨A,hA⟩:∃A,A=allH (lfs L):=⟨_,rfl⟩;have ae:=hide (Zgy w s L h);rw [← hA] at ae ⊢;have ci:A.length≤900000:=by
   rw [hA];have hs:∀f∈lfs L,f.slots.length≤1000:=by
    intro f hf;obtain⟨x,hx,rfl⟩:=List.mem_map.1 hf;have:=(h.it x hx).2;show (bss x.l).length≤1000;rw [Zaj,this.len];exact this.big
   have h1:=Zeu (lfs L) 0 hs;have h2:=h.big;have h3:=h.len;rw [Zbe] at h1;have h4:L.length*1000≤900*1000:=Nat.mul_le_mul_right _ (by omega);unfold allH;omega
  obtain⟨a,len,cap⟩:=s;clear h hA;unfold Sl.val at *;simp only at *;have ca:=hide ab;have bx:=hide bs;clear ab bs;go_enter Tryz.func19,Tryz.ntmps19;go_wp2_with fail;refine ae.out.mono ?_;rintro e w1 ⟨⟨ra,rn,rc⟩,⟨ba,bn,bc⟩,R,rfl,hT⟩;(have cf:rn=A.length:=by rw [← Zev hT.r];exact hT.i.rows.len.symm);have bm:Hid (ZaA w1 ⟨ra,rn,rc⟩ R):=hT.i.rows.rows hT.i.flt;have cd:=hide hT.r;have bv:=hide hT.i.below;have be:=Zaa w1 (.cells #[] 39);have cb:=hide (ZaA.new w1);have bw:=hide (Zac bv.out be);have az:=hide (bm.out.keep be);have ck:(w1.alloc (.cells #[] 39)).heap.size=w1.heap.size+1:=Zae _ _;clear hT ae be bm;subst cf;go_wp2_with fail;generalize w1.alloc (.cells #[] 39)=W2 at *;go_loopw [9,10] (fun ov iv wr=>∃(i:Nat) (so:Sl) (lo':List Rx),i≤A.length∧iv=.int .i64 (i:Nat)∧ov=.slice so.a so.len so.cap∧Hid (ZaA wr so lo')∧Hid (rws lo'=Zay lo hi (A.take i))∧Hid (Below W2.heap.size W2 wr)) (fun _ iv _=>A.length-(intOf iv).toNat)
  case atStart=>exact ⟨0,_,[],Nat.zero_le _,rfl,rfl,cb,rfl,Below.refl _ _⟩
  case round =>
   obtain⟨i,so,l,hi',rfl,rfl,aa,ab,hW⟩:=hrel;have ce:l.length≤i:=by
    have h1:=ZeN lo hi A i hi';rw [← ab.out,ZaX] at h1;exact h1
   have aw:Hid (l.length=so.len):=aa.out.rz.len;(have cl:so.len≤900000:=by rw [← aw.out];omega);clear ce;rcases Nat.lt_or_ge i A.length with ad | cj
   · (have j1:(i:Int)<(A.length:Int):=by omega);have ai:=hide (az.out.keep hW.out);obtain⟨b,off,bh,an⟩:=ai.out.rz.at' i ad;replace bh:ra=some ⟨b,off,none⟩:=bh;subst bh;have ao:=ai.out.rz.fits _ (ai.out.rz.mem ad);have bk:=ai.out.flt _ (ai.out.rz.mem ad);have bi:=ZfH cd.out ad;obtain⟨x,hx⟩:∃x,x=R.getD i Rx.zero:=⟨_,rfl⟩;rw [← hx] at an ao bk bi;(have bt:Zay lo hi (A.take (i+1))=if (Fl.less x.r.key lo || !(Fl.less x.r.key hi))=true then Zay lo hi (A.take i) else insK (Zay lo hi (A.take i)) x.r:=by rw [ZeO ad];unfold Zei;rw [bi]);have af:=hide bt;have bo:=hide an;have bq:=hide ao;have bp:=hide bk;have ac:x.r.key<18446744073709551616:=ao.key;have ar:=hide ac;have au:=hide (ZcD x.r.key lo ac ca.out wr);have am:=hide (ZcD x.r.key hi ac bx.out wr);have x0:=an.c0;have ch:=hide (ZaW b off A.length rc i ad);clear bt an ao bk bi hx ac;go_wp2_with fail;refine au.out.mono ?_;rintro e w3 ⟨rfl,bj⟩;obtain rfl:=bj.symm;cases hq1:Fl.less x.r.key lo with
     | true =>
      (have bb:Hid (rws l=Zay lo hi (A.take (i+1))):=by show _=_;rw [af.out,hq1,Bool.true_or,if_pos rfl];exact ab.out);clear hq1 au am ab;go_wp2_with fail;go_roundw
      case rel=>exact ⟨i+1,so,l,by omega,by go_num,rfl,aa,bb,hW⟩
      case measure=>simp only [intOf];omega
     | false =>
      rw [hq1] at af;rw [Bool.false_or] at af;clear hq1 au;go_wp2_with fail;refine am.out.mono ?_;rintro e w3 ⟨rfl,bj⟩;obtain rfl:=bj.symm;cases hq2:Fl.less x.r.key hi with
      | false =>
       (have bb:Hid (rws l=Zay lo hi (A.take (i+1))):=by show _=_;rw [af.out,hq2,if_pos (by decide:(!false)=true)];exact ab.out);clear hq2 am ab;go_wp2_with fail;go_roundw
       case rel=>exact ⟨i+1,so,l,by omega,by go_num,rfl,aa,bb,hW⟩
       case measure=>simp only [intOf];omega
      | true =>
       rw [hq2,if_neg (by decide)] at af;clear hq2 am;go_wp2_with fail;obtain⟨oa,on,oc⟩:=so;simp only at *;go_loopw [12] (fun pv wq=>∃p:Nat,p≤on∧pv=.int .i64 (p:Nat)∧wq=wr∧Hid (∀j,j<p→Fl.less (l.getD j Rx.zero).r.key x.r.key=true)) (fun pv _=>on-(intOf pv).toNat)
       case atStart=>exact ⟨0,Nat.zero_le _,rfl,rfl,fun j hj=>absurd hj (Nat.not_lt_zero _)⟩
       case round =>
        obtain⟨p,hp,rfl,rfl,ah⟩:=hrel;rcases Nat.lt_or_ge p on with ag | bf
        · (have j2:(p:Int)<(on:Int):=by omega);obtain⟨b2,o2,bg,bu⟩:=aa.out.rz.at' p ag;replace bg:oa=some ⟨b2,o2,none⟩:=bg;subst bg;have bl:=(aa.out.rz.fits _ (aa.out.rz.mem ag)).key;have y0:=bu.c0;obtain⟨y,hy⟩:∃y,y=l.getD p Rx.zero:=⟨_,rfl⟩;rw [← hy] at y0 bl;have br:=hide hy;have av:=hide (ZcD y.r.key x.r.key bl ar.out wr);have bz:=hide (ZaW b2 o2 on oc p ag);clear bu bl hy;go_wp2_with fail;refine av.out.mono ?_;rintro e w4 ⟨rfl,cg⟩;obtain rfl:=cg.symm;cases hq3:Fl.less y.r.key x.r.key with
          | true =>
           have cc:Hid (∀j,j<p+1→Fl.less (l.getD j Rx.zero).r.key x.r.key=true):=by
            intro j hj;rcases Nat.lt_or_ge j p with h1 | h1
            · exact ah.out j h1
            · rw [show j=p by omega,← br.out];exact hq3
           clear hq3 av ah;go_wp2_with fail;go_roundw
           case rel=>exact ⟨p+1,by omega,by go_num,trivial,cc⟩
           case measure=>simp only [intOf];omega
          | false =>
           have ak:posK x.r.key (rws l)=p:=by
            refine Ziw (by rw [ZaX,aa.out.rz.len];exact hp) (fun j hj hl=>?_) (fun hl=>?_)
            · have:=ah.out j hj;rw [← ZcF] at this;simpa [List.getD,hl] using this
            · have:=hq3;rw [br.out,← ZcF] at this;simpa [List.getD,hl] using this
           have ax:=hide ak;clear hq3 av ah ak y0;go_wp2_with fail;refine Pl.q9 (ops:=Pl.find 11 ((Tryz.f19.body).getD .skip)) ?_;refine ZlE wr wr ⟨some ⟨b2,o2,none⟩,on,oc⟩ l aa.out (by show on+1≤_;omega) p hp b off A.length rc i ad x bo.out bp.out bq.out (Below.refl _ _) (by rfl) (by rfl) (by rfl) (by rfl) (by rfl) (by rfl) ?_;intro u s14 w9 al aj;simp only [Pl.pu,List.foldl,Act.put,List.setIfInBounds_toArray,List.set_cons_zero,List.set_cons_succ];have ay:=hide al;have bd:=hide (Zac hW.out aj);have ap:Hid (rws (l.take p ++ [x] ++ l.drop p)=Zay lo hi (A.take (i+1))):=by
            show _=_;rw [af.out,← ab.out];unfold insK;rw [ax.out];simp [rws,List.map_take,List.map_drop]
           clear al aj ab aa;unfold Sl.val;go_wp2_with fail;go_roundw
           case rel=>exact ⟨i+1,s14,_,by omega,by go_num,rfl,ay,ap,bd⟩
           case measure=>simp only [intOf];omega
        · (have j2:¬(p:Int)<(on:Int):=by omega);have ak:posK x.r.key (rws l)=p:=by
           refine Ziw (by rw [ZaX,aa.out.rz.len];exact hp) (fun j hj hl=>?_) (fun hl=>?_)
           · have:=ah.out j hj;rw [← ZcF] at this;simpa [List.getD,hl] using this
           · rw [ZaX,aa.out.rz.len] at hl;exact absurd hl (Nat.not_lt.2 bf)
          have ax:=hide ak;clear ah ak;go_wp2_with fail;refine Pl.q9 (ops:=Pl.find 11 ((Tryz.f19.body).getD .skip)) ?_;refine ZlE wr wr ⟨oa,on,oc⟩ l aa.out (by show on+1≤_;omega) p hp b off A.length rc i ad x bo.out bp.out bq.out (Below.refl _ _) (by rfl) (by rfl) (by rfl) (by rfl) (by rfl) (by rfl) ?_;intro u s14 w9 al aj;simp only [Pl.pu,List.foldl,Act.put,List.setIfInBounds_toArray,List.set_cons_zero,List.set_cons_succ];have ay:=hide al;have bd:=hide (Zac hW.out aj);have ap:Hid (rws (l.take p ++ [x] ++ l.drop p)=Zay lo hi (A.take (i+1))):=by
           show _=_;rw [af.out,← ab.out];unfold insK;rw [ax.out];simp [rws,List.map_take,List.map_drop]
          clear al aj ab aa;unfold Sl.val;go_wp2_with fail;go_roundw
          case rel=>exact ⟨i+1,s14,_,by omega,by go_num,rfl,ay,ap,bd⟩
          case measure=>simp only [intOf];omega
   · (have j1:¬(i:Int)<(A.length:Int):=by omega);(have e0:i=A.length:=by omega);have aq:Hid (Zej w (Zay lo hi A) (.returned (.slice so.a so.len so.cap)) wr):=by
      refine⟨Zac bw.out hW.out,so,l,rfl,aa.out,?_⟩;have:=ab.out;rw [e0,List.take_length] at this;exact this
     clear aa ab e0;go_wp2_with fail;go_ret;exact aq.out
theorem ZlX (n:Nat):madeCells (Value.int .i64 0).cells (n*1)=(Zan (List.replicate n 0)).toArray:=by
 apply Array.ext
 · simp [size_madeCells,Zan]
 · intro i h1 h2;simp [madeCells,Zan,Value.cells,Nat.mod_one]
theorem ZlZ (n:Nat)(hn:n≤1000000)(w:World):(Instr.makeSlice 29 (.int .i64 (n:Nat)) (.int .i64 (n:Nat))).run Tryz.prog w=.ok (.slice (some ⟨w.heap.size,0,none⟩) n n) (w.alloc (.cells (Zan (List.replicate n 0)).toArray 3)):=by
 obtain⟨i0,hi,ab,aa,ac⟩:=info_parts Zgg;have h:=run_makeSlice (P:=Tryz.prog) w 29 3 i0 (.int .i64 0) Tryz.underlying29 hi ab .i64 .i64 (n:Nat) (n:Nat) (by omega) (by omega) (by rw [aa];simp;omega) (by rw [ac];simp;omega) (by omega);rw [aa,show (n:Int).toNat=n by omega,ZlX] at h;exact h
section
variable {ops : Array Oper} {rest : List Oper} {o : Oper} {a : Act} {Q : Exit → Act → World → Prop}
theorem ZiL (w:World)(ab:o.guard=none)(t:TypeId)(x y:Operand)(ho:o.op=.makeSlice t x y)(u u' v:Value)(hu:a.eval x=u)(hu':a.eval y=u')(w':World)(aa:(Instr.makeSlice t u u').run Tryz.prog w=.ok v w')(hK:wpList Tryz.prog ops Q rest (a.put o.dst v) w'):wpList Tryz.prog ops Q (o :: rest) a w:=by
 refine Zc3 w ab v w' ?_ hK;have e:execOp a.eval o=(do pure (.value (← Instr.makeSlice t (a.eval x) (a.eval y)))):=by
  unfold execOp;rw [ho]
 rw [e,hu,hu'];simp [aa]
end
open Go.ChangeShapes Go.WideShapes Go.ChangeAt Go.RowKit
structure InI (w:World) (s:Sl) (t:List Int):Prop where
  len:t.length=s.len
  nil:s.a=none→s.cap=0
  le:s.len≤s.cap
  big:s.len≤9223372036854775807
  cell:∀i,i<s.len→∃b off,s.a=some ⟨b,off,none⟩∧w.cell? ⟨b,off+i,none⟩=some (.int .i64 (t.getD i 0))
theorem InI.gi {t:List Int}(h:InI w s t)(hl:s.len≤1000000):Gi (fun _=>True) w s t:=⟨h.len,h.nil,h.le,hl,fun _ _ _=>trivial,h.cell⟩
structure InS (w:World) (s:Sl) (l:List Sb):Prop where
  len:l.length=s.len
  nil:s.a=none→s.cap=0
  le:s.len≤s.cap
  big:s.len≤9223372036854775807
  cell:∀i,i<s.len→∃b off,s.a=some ⟨b,off,none⟩∧w.cell? ⟨b,off+i,none⟩=some (l.getD i Sb.zero).s.val
  bs:∀x∈l,Came w x.s.a x.s.len x.s.cap x.bs
theorem InS.gb {l:List Sb}(h:InS w s l)(hl:s.len≤1000)(hb:∀x∈l,x.s.len≤1000):Gb (fun _=>True) w s l:=
 ⟨h.len,h.nil,h.le,hl,fun _ _ _=>trivial,h.cell,fun x hx=>⟨⟨h.bs x hx,fun _ _ _=>trivial⟩,by have:=(h.bs x hx).bs.1;have:=hb x hx;omega⟩⟩
section
variable {H : Type} {enc : TypeId × Value → H} {w : World} {base : Nat} {spare : Nat → Bool} {held : Bool}
theorem Zk6 {y:DataW H × List MemPlace}(h:DataW.trod enc Tryz.prog w base spare held n 29 [.slice a len cap]=some y):∃t,InI w ⟨a,len,cap⟩ t:=by
 (have hC:Tryz.prog.cellsOf 3=1:=by kernel_rfl);rcases Go.Deep.open_slice1 Tryz.underlying29 hC h with ⟨aa,_⟩ | ⟨x,l,c,m,k,V,D,Pl,aa,hb,hl,hm,ac,_,hx⟩
 · simp only [List.cons.injEq,Value.slice.injEq,and_true] at aa;obtain⟨rfl,rfl,rfl⟩:=aa;exact⟨[],⟨rfl,fun _=>rfl,Nat.le_refl _,Nat.zero_le _,fun j hj=>absurd hj (Nat.not_lt_zero _)⟩⟩
 · simp only [List.cons.injEq,Value.slice.injEq,and_true] at aa;obtain⟨rfl,rfl,rfl⟩:=aa;(have ae:len≤m:=by rw [ac];split <;> omega);have ad:0<len→x.spot=none:=by
    intro h0;have:=World.cell?_spot (hx 0 (by omega)).1;simpa [Addr.add] using this
   have each:∀i,i<len→∃b:Int,V i=.int .i64 b:=by
    intro i hi;obtain⟨k3,e3,_,w3⟩:=DataW.trod_int Tryz.underlying3 (hx i (by omega)).2;exact⟨k3,by simpa using e3⟩
   obtain⟨f,hf⟩:=@Go.Deep.choose_lt Int ⟨0⟩ len _ each;refine⟨(List.range len).map f,⟨by simp,(fun e=>by cases e),hl,by show len≤_;unfold maxLen at hm;omega,?_⟩⟩;intro j hj;replace hj:j<len:=hj;have hc:=(hx j (by omega)).1;obtain⟨b,off,spot⟩:=x;have ab:spot=none:=ad (by omega);subst ab;refine⟨b,off,rfl,?_⟩;rw [Addr.add_lit] at hc;rw [hc,hf j hj];simp [List.getD,hj]
theorem ZnO {y:DataW H × List MemPlace}(h:DataW.trod enc Tryz.prog w base spare held n 107 [.slice a len cap]=some y) :
    ∃xs,Came w a len cap xs:=by
  (have hC:Tryz.prog.cellsOf 5=1:=by kernel_rfl);rcases Go.Deep.open_slice1 Tryz.underlying107 hC h with ⟨aa,_⟩ | ⟨x,l,c,m,k,V,D,Pl,aa,hb,hl,hm,ac,_,hx⟩
  · simp only [List.cons.injEq,Value.slice.injEq,and_true] at aa;obtain⟨rfl,rfl,rfl⟩:=aa;exact⟨[],⟨⟨rfl,(fun u hu=>by cases hu),fun j hj=>by omega⟩,fun _=>rfl,Nat.le_refl _,by omega⟩⟩
  · simp only [List.cons.injEq,Value.slice.injEq,and_true] at aa;obtain⟨rfl,rfl,rfl⟩:=aa;(have ae:len≤m:=by rw [ac];split <;> omega);have ad:0<len→x.spot=none:=by
     intro h0;have:=World.cell?_spot (hx 0 (by omega)).1;simpa [Addr.add] using this
    have each:∀i,i<len→∃b:Nat,V i=.int .u8 (b:Int)∧b<256:=by
     intro i hi;obtain⟨k3,e3,_,w3⟩:=DataW.trod_int Tryz.underlying5 (hx i (by omega)).2;have hb:=bounds_u8 w3;refine⟨k3.toNat,?_,by omega⟩;rw [Int.toNat_of_nonneg hb.1];simpa using e3
    obtain⟨f,hf⟩:=@Go.Deep.choose_lt Nat ⟨0⟩ len _ each;refine⟨(List.range len).map f,⟨⟨by simp,?_,?_⟩,(fun e=>by cases e),hl,by unfold maxLen at hm;omega⟩⟩
    · intro z hz;obtain⟨j,hj,rfl⟩:=List.mem_map.1 hz;exact(hf j (by simpa using hj)).2
    · intro j hj;have hc:=(hx j (by omega)).1;obtain⟨b,off,spot⟩:=x;have ab:spot=none:=ad (by omega);subst ab;refine⟨b,off,rfl,?_⟩;rw [Addr.add_lit] at hc;rw [hc,(hf j hj).1];simp [List.getD,hj]
theorem Zk8 {y:DataW H × List MemPlace}(h:DataW.trod enc Tryz.prog w base spare held n 99 [.slice a len cap]=some y):∃l,InS w ⟨a,len,cap⟩ l:=by
 (have hC:Tryz.prog.cellsOf 107=1:=by kernel_rfl);rcases Go.Deep.open_slice1 Tryz.underlying99 hC h with ⟨aa,_⟩ | ⟨x,l,c,m,k,V,D,Pl,aa,hb,hl,hm,ad,_,hx⟩
 · simp only [List.cons.injEq,Value.slice.injEq,and_true] at aa;obtain⟨rfl,rfl,rfl⟩:=aa;exact⟨[],⟨rfl,fun _=>rfl,Nat.le_refl _,Nat.zero_le _,fun j hj=>absurd hj (Nat.not_lt_zero _),fun x hx=>(by cases hx)⟩⟩
 · simp only [List.cons.injEq,Value.slice.injEq,and_true] at aa;obtain⟨rfl,rfl,rfl⟩:=aa;(have af:len≤m:=by rw [ad];split <;> omega);have ae:0<len→x.spot=none:=by
    intro h0;have:=World.cell?_spot (hx 0 (by omega)).1;simpa [Addr.add] using this
   have each:∀i,i<len→∃t:Sb,V i=t.s.val∧Came w t.s.a t.s.len t.s.cap t.bs:=by
    intro i hi;have t2:=(hx i (by omega)).2;obtain⟨a',len',cap',e4⟩:=Go.Joins.slice_form Tryz.underlying107 t2;simp only [List.cons.injEq,and_true] at e4;rw [e4] at t2;obtain⟨bs,ac⟩:=ZnO t2;exact⟨⟨⟨a',len',cap'⟩,bs⟩,e4,ac⟩
   obtain⟨f,hf⟩:=@Go.Deep.choose_lt Sb ⟨Sb.zero⟩ len _ each;refine⟨(List.range len).map f,⟨by simp,(fun e=>by cases e),hl,by show len≤_;unfold maxLen at hm;omega,?_,?_⟩⟩
   · intro j hj;replace hj:j<len:=hj;have hc:=(hx j (by omega)).1;obtain⟨b,off,spot⟩:=x;have ab:spot=none:=ae (by omega);subst ab;refine⟨b,off,rfl,?_⟩;rw [Addr.add_lit] at hc;rw [hc,(hf j hj).1];simp [List.getD,hj]
   · intro t ht;obtain⟨j,hj,rfl⟩:=List.mem_map.1 ht;exact(hf j (by simpa using hj)).2
end
def ZdQ (u v:Sl) (l:List Sb):Prop:=v.len≤80∧u.len≤20∧∀x∈l,x.s.len≤600
def Zla (u v:Sl) (l:List Sb) (e:Ending):Prop:=e=.returned (.bool false)∨(ZdQ u v l∧e=.returned (.bool true))
theorem ZlU (w:World)(u v:Sl)(l:List Sb)(hg:InS w v l)(hu:u.len≤9223372036854775807) :
    Calls Tryz.prog 57 #[lfV u v] w fun e w'=>Zla u v l e∧Below w.heap.size w w':=by
  obtain⟨a,len,cap⟩:=v;obtain⟨ua,ul,uc⟩:=u;have hl:l.length=len:=hg.len;have ag:len≤9223372036854775807:=hg.big;have hA:=Zaa w (.cells #[.slice ua ul uc,.slice a len cap] 101);have HG:Hid (∀i,i<len→∃b off,a=some ⟨b,off,none⟩∧(w.alloc (.cells #[.slice ua ul uc,.slice a len cap] 101)).cell? ⟨b,off+i,none⟩=some (l.getD i Sb.zero).s.val):=by
   intro i hi;obtain⟨b,off,ha,hc⟩:=hg.cell i hi;exact⟨b,off,ha,Zag hc hA⟩
  have HM:Hid (∀i,i<len→(l.getD i Sb.zero).s.len≤9223372036854775807):=fun i hi=>(hg.bs _ (ZgW (by omega))).big;have HA:=hide hA;have HL:=hide hl;clear hg hl hA;unfold lfV Sl.val;simp only at *;go_enter Tryz.func57,Tryz.ntmps57;go_wp2_with fail;go_loopw [3] (fun iv wr=>wr=w.alloc (.cells #[.slice ua ul uc,.slice a len cap] 101)∧∃i:Nat,i≤len∧i≤80∧iv=.int .i64 (i:Nat)∧Hid (∀j,j<i→(l.getD j Sb.zero).s.len≤600)) (fun iv _=>80-(intOf iv).toNat)
  case atStart=>exact ⟨rfl,0,Nat.zero_le _,Nat.zero_le _,rfl,fun _ h=>absurd h (Nat.not_lt_zero _)⟩
  case round =>
   obtain⟨rfl,i,hi,ai,rfl,ab⟩:=hrel;have aa:Hid (len≤80→i=len→ul≤20→ZdQ ⟨ua,ul,uc⟩ ⟨a,len,cap⟩ l):=by
    intro h1 h2 h3;refine⟨h1,h3,fun x hx=>?_⟩;obtain⟨j,hj,rfl⟩:=Zpo hx;exact ab.out j (by rw [HL.out] at hj;omega)
   rcases Nat.lt_or_ge i len with ae | ah
   · (have i1:(i:Int)<(len:Int):=by omega);rcases Nat.lt_or_ge i 80 with h8 | h8
     · (have i8:(i:Int)<80:=by omega);obtain⟨bb,oo,ha,c0⟩:=HG.out i ae;subst ha;have af:=HM.out i ae;obtain⟨⟨sa,sn,sc⟩,ad⟩:∃s,s=(l.getD i Sb.zero).s:=⟨_,rfl⟩;rw [← ad] at c0 af;(have ac:Hid ((l.getD i Sb.zero).s.len=sn):=by show _=_;rw [← ad]);unfold Sl.val at c0;simp only at c0 af;clear ad;by_cases h6:600<sn
       · (have i6:(600:Int)<(sn:Int):=by omega);clear ab aa ac;go_wp2_with fail;go_ret;exact⟨.inl rfl,HA.out⟩
       · (have i6:¬(600:Int)<(sn:Int):=by omega);have HS:Hid (∀j,j<i+1→(l.getD j Sb.zero).s.len≤600):=by
          intro j hj;by_cases e:j=i
          · rw [e,ac.out];omega
          · exact ab.out j (by omega)
         clear ab aa ac;go_wp2_with fail;go_roundw
         case rel=>exact ⟨trivial,i+1,by omega,by omega,by go_num,HS⟩
         case measure=>simp only [intOf];omega
     · (have i8:¬(i:Int)<80:=by omega);(have i9:¬(len:Int)≤80:=by omega);clear ab aa;go_wp2_with fail;go_ret;exact⟨.inl rfl,HA.out⟩
   · (have i1:¬(i:Int)<(len:Int):=by omega);(have i9:(len:Int)≤80:=by omega);by_cases h2:ul≤20
     · (have i2:(ul:Int)≤20:=by omega);have HP:=hide (aa.out (by omega) (by omega) h2);clear ab aa;go_wp2_with fail;go_ret;exact⟨.inr ⟨HP.out,rfl⟩,HA.out⟩
     · (have i2:¬(ul:Int)≤20:=by omega);clear ab aa;go_wp2_with fail;go_ret;exact⟨.inl rfl,HA.out⟩
end Go.Proofs.YtiecfcjlhldhdaaGreat
