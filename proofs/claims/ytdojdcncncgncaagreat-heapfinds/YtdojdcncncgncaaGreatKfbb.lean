/-
  Lemmas.
-/
import Derived.Test.YtdojdcncncgncaaGreatKfba
import Derived.Test.YtdojdcncncgncaaGreatKfaw
import Derived.Laws.MakeOwn
import Derived.Lib.SmallJoins
import Derived.Laws.Cover2
import Derived.Deep.Slices
namespace Go.Proofs.YtdojdcncncgncaaGreat
open Go.RowKit
set_option linter.unusedVariables false
set_option maxRecDepth 100000
set_option maxHeartbeats 4000000
variable {w:World}{s:Sl}{l:List Rx}{a:Option Addr}{n len cap:Nat}
structure ZaU (w : World) (s : Sl) (l : List Rx) : Prop where
  rz : Rz w s.a s.len l
  le : s.len ≤ s.cap
  nil : s.a = none → s.cap = 0
  flt : ∀ x ∈ l, ColF w x
theorem ZaU.keep {w w' : World} {s : Sl} {l : List Rx} (h : ZaU w s l) (hb : Below w.heap.size w w') : ZaU w' s l := ⟨h.rz.keep hb (Nat.le_refl _), h.le, h.nil, fun x hx => (h.flt x hx).keep hb⟩
theorem Rq.rows {w0 w : World} {s : Sl} {l : List Rx} (h : Rq w0 w s l) (hf : ∀ x ∈ l, ColF w x) : ZaU w s l := by
  refine ⟨h.rz, ?_, fun e => ?_, hf⟩
  · rcases h.own.2 with ⟨h0, _⟩ | ⟨g, off, cur, ha, hc, hd, he, _⟩
    · rw [h0]; exact Nat.le_refl _
    · exact he
  · rcases h.own.2 with ⟨h0, _⟩ | ⟨g, off, cur, ha, _⟩
    · rw [h0]; rfl
    · rw [ha] at e; cases e
def ZcK (a : Option Addr) (cap k : Nat) : Option Addr := if cap = k then a else a.map (·.add (k * 6))
theorem szRw (w:World):(sizeOf 33).run Tryz.prog w=.ok 6 w:=by
 obtain⟨i0,hi,hz0,hz1,hz2⟩:=info_parts ZmH
 simp [sizeOf,typeInfo,hi,hz1]
theorem ZmC : Tryz.prog.elem 38 = 33 := by kernel_rfl
theorem ZhG (a:Option Addr)(len cap k:Nat)(hk:k≤len)(w:World):(Instr.sliceAt 38 (.slice a len cap) (some (.int .i64 (k:Int))) none none).run Tryz.prog w=.ok (.slice (ZcK a cap k) (len-k) (cap-k)) w:=by
 have h22:Tryz.prog.underlying 38=some (.slice (Tryz.prog.elem 38)):=by kernel_rfl
 rw [run_sliceAt_slice w 38 _ _ _ _ h22,run_slice_l w 38 a len cap h22 .i64 (k:Nat) (by omega) (by omega),ZmC,szRw]
 simp [Result.andThen,sliced,ZcK]
theorem ZhJ (a:Option Addr)(len cap k:Nat)(hk:k≤cap)(w:World):(Instr.sliceAt 38 (.slice a len cap) none (some (.int .i64 (k:Int))) none).run Tryz.prog w=.ok (.slice (ZcK a cap 0) k cap) w:=by
 have h22:Tryz.prog.underlying 38=some (.slice (Tryz.prog.elem 38)):=by kernel_rfl
 rw [run_sliceAt_slice w 38 _ _ _ _ h22,run_slice_h w 38 a len cap h22 .i64 (k:Nat) (by omega) (by omega),ZmC,szRw]
 simp [Result.andThen,sliced,ZcK]
theorem ZaU.part (h:ZaU w s l){k m:Nat}(hk:k+m≤s.len){c:Nat}(ha:a=ZcK s.a s.cap k)(hc:s.a=none→c=0):Src Tryz.prog 6 38 (.slice a m c) m (Za5 ((l.drop k).take m)) w:=by
 have hl:((l.drop k).take m).length=m:=by rw [List.length_take,List.length_drop,h.rz.len];omega
 refine Rz.src ⟨hl,fun j hj=>?_,fun x hx=>h.rz.cols x (List.mem_of_mem_drop (List.mem_of_mem_take hx)),fun x hx=>h.rz.fits x (List.mem_of_mem_drop (List.mem_of_mem_take hx))⟩ (fun e=>?_)
 · obtain⟨b,off,hsa,hat⟩:=h.rz.at' (k+j) (by omega)
   have hle:=h.le
   refine⟨b,off+k*6,?_,?_⟩
   · rw [ha,hsa]
     unfold ZcK
     rw [if_neg (by omega)]
     simp [Addr.add_lit]
   · have e1:((l.drop k).take m).getD j Rx.zero=l.getD (k+j) Rx.zero:=by
      simp only [List.getD,List.getElem?_take,List.getElem?_drop,if_pos hj]
     rw [e1,show off+k*6+j*6=off+(k+j)*6 by omega]
     exact hat
 · rw [e] at ha
   unfold ZcK at ha
   have hsn:s.a=none:=by
    split at ha
    · exact ha.symm
    · cases hs:s.a with
      | none=>rfl
      | some q=>rw [hs] at ha;cases ha
   have:=h.nil hsn
   have hle:=h.le
   exact⟨by omega,hc hsn⟩
theorem Zgt (w:World):(Instr.buildSlice 38 0 #[]).run Tryz.prog w=.ok (.slice (some ⟨w.heap.size,0,none⟩) 0 0) (w.alloc (.cells #[] 33)):=by
 have h22:Tryz.prog.underlying 38=some (.slice (Tryz.prog.elem 38)):=by kernel_rfl
 simp [go_sem,Instr.buildSlice,run_underlying h22]
theorem Zes (x:Rx)(w:World):(Instr.buildSlice 38 1 #[(0,x.val)]).run Tryz.prog w=.ok (.slice (some ⟨w.heap.size,0,none⟩) 1 1) (w.alloc (.cells #[.float .f64 x.r.key,.bool x.r.dead,.slice x.a x.n x.c,.int .i64 x.r.wr,.int .i64 x.r.cell,.int .i64 x.r.no] 33)):=by
 have h22:Tryz.prog.underlying 38=some (.slice (Tryz.prog.elem 38)):=by kernel_rfl
 simp [go_sem,Instr.buildSlice,run_underlying h22,Rx.val,Rw.val]
theorem Znb {w0:World}{s14:Sl}{x:Rx}{ay:Nat}(hl:ZaU w0 s l)(hx:ColF w0 x)(hq:Rq w0 w s14 ([] ++ (l.drop 0).take ay ++ [x] ++ (l.drop ay).take (s.len-ay)))(hat:ay≤s.len):ZaU w s14 (l.take ay ++ [x] ++ l.drop ay):=by
 have e:[] ++ (l.drop 0).take ay ++ [x] ++ (l.drop ay).take (s.len-ay)=l.take ay ++ [x] ++ l.drop ay:=by
  rw [List.nil_append,List.drop_zero,List.take_of_length_le (l:=l.drop ay) (by rw [List.length_drop,hl.rz.len];exact Nat.le_refl _)]
 rw [e] at hq
 refine hq.rows (fun y hy=>?_)
 rcases List.mem_append.1 hy with hy | hy
 · rcases List.mem_append.1 hy with hy | hy
   · exact(hl.flt y (List.mem_of_mem_take hy)).keep hq.below
   · rw [List.mem_singleton.1 hy];exact hx.keep hq.below
 · exact(hl.flt y (List.mem_of_mem_drop hy)).keep hq.below
theorem ZhL {p : Nat} {x : Rx} (h : RwBlk w p x.r (.slice x.a x.n x.c)) : Src Tryz.prog 6 38 (.slice (some ⟨p, 0, none⟩) 1 1) 1 (Za5 [x]) w := by
 refine Src.ofSlice _ Tryz.underlying38 ⟨p, 0, none⟩ 1 1 (Za5 [x]) rfl (fun j u hj => ?_) (Zb6 _)
 rw [Addr.add_lit, cell_of_row _ _ _ _ _ _ h]
 simpa [Za5, Rx.cells] using hj
theorem Zks (w0 w:World)(s:Sl)(l:List Rx)(hl:ZaU w0 s l)(hbig:s.len+1≤1000000)(ay:Nat)(hat:ay≤s.len)(b off len c i:Nat)(hi:i<len)(x:Rx)(hxa:RwAt w0 b (off+i*6) x)(hx:ColF w0 x)(hxf:x.r.fits)(hW:Below w0.heap.size w0 w)
    {Q:Exit→Act→World→Prop}{A:Act}(hsz:A.tmps.size=70)(hdf:A.defers=[])(s9:A.tmps.getD 9 undef=.slice s.a s.len s.cap)(s12:A.tmps.getD 12 undef=.int .i64 (ay:Int))(s7:A.tmps.getD 7 undef=.slice (some ⟨b,off,none⟩) len c)(s10:A.tmps.getD 10 undef=.int .i64 (i:Int))
    (hend:∀(u:Nat→Value)(s14:Sl) w',ZaU w' s14 (l.take ay ++ [x] ++ l.drop ay)→Below w0.heap.size w0 w'→Q .normal (((((((((((((((((A).put (some 55) (u 55)).put (some 56) (u 56)).put (some 57) (u 57)).put (some 59) (u 59)).put (some 60) (u 60)).put (some 61) (u 61)).put (some 62) (u 62)).put (some 65) (u 65)).put (some 66) (u 66)).put (some 67) (u 67)).put (some 54) (u 54)).put (some 58) (u 58)).put (some 63) (u 63)).put (some 64) (u 64)).put (some 68) (u 68)).put (some 9) (s14.val)) w') :
    (Code.region 11 (Pl.find 11 ((Tryz.f19.body).getD .skip)) true).wp Tryz.prog Q A w:=by
  have hS0:Below w0.heap.size w0 w.drew:=hW.drew
  have hA:=Pl.At.same (v:=.int .i64 (i:Int)) (d:=10) (Pl.At.same (v:=.slice (some ⟨b,off,none⟩) len c) (d:=7) (Pl.At.same (v:=.int .i64 (ay:Int)) (d:=12) (Pl.At.same (v:=.slice s.a s.len s.cap) (d:=9) (Pl.At.here hsz hdf) s9) s12) s7) s10
  refine Pl.qa (S:=fun w'=>Below w0.heap.size w0 w') hA hS0 ?_
  rw [show (Pl.find 11 ((Tryz.f19.body).getD .skip)).size=16 by kernel_rfl]
  refine Pl.q0 1 55 (.slice s.a s.len s.cap) (Pl.q1) (Pl.q2 (.tmp 9)) hS0 ?_
  refine Pl.q0 2 56 (.int .i64 (ay:Int)) (Pl.q1) (Pl.q2 (.tmp 12)) hS0 ?_
  refine Pl.q0 3 57 (.slice (ZcK s.a s.cap 0) ay s.cap) (Pl.q1) (Pl.qv 38 (.tmp 55) none (some (.tmp 56)) (fun w=>ZhJ s.a s.len s.cap ay (by have:=hl.le;omega) w)) hS0 ?_
  refine Pl.q0 5 59 (.slice (some ⟨b,off,none⟩) len c) (Pl.q1) (Pl.q2 (.tmp 7)) hS0 ?_
  refine Pl.q0 6 60 (.int .i64 (i:Int)) (Pl.q1) (Pl.q2 (.tmp 10)) hS0 ?_
  refine Pl.q0 7 61 (.pointer (some ⟨b,off+i*6,none⟩)) (Pl.q1) (Pl.qb 38 (.tmp 59) (.tmp 60) (ZaP b off len c i hi)) hS0 ?_
  refine Pl.q0 8 62 (x.val) (Pl.q1) (Pl.q4 33 (.tmp 61) (fun w' hS=>Zbf b (off+i*6) x w' (hxa.keep hS (Nat.le_refl _)))) hS0 ?_
  refine Pl.q0 11 65 (.slice s.a s.len s.cap) (Pl.q1) (Pl.q2 (.tmp 9)) hS0 ?_
  refine Pl.q0 12 66 (.int .i64 (ay:Int)) (Pl.q1) (Pl.q2 (.tmp 12)) hS0 ?_
  refine Pl.q0 13 67 (.slice (ZcK s.a s.cap ay) (s.len-ay) (s.cap-ay)) (Pl.q1) (Pl.qv 38 (.tmp 65) (some (.tmp 66)) none (fun w=>ZhG s.a s.len s.cap ay hat w)) hS0 ?_
  refine Pl.qq 0 9 ?_ ?_
  · have hSe:Below w0.heap.size w0 (w.drew.alloc (.cells #[] 33)):=hS0.alloc hS0.size _
    have hQe:Rq w0 (w.drew.alloc (.cells #[] 33)) ⟨some ⟨w.drew.heap.size,0,none⟩,0,0⟩ []:=Rq.new0 w0 w.drew hS0
    refine Pl.qk 0 54 (.slice (some ⟨w.drew.heap.size,0,none⟩) 0 0) (w.drew.alloc (.cells #[] 33)) (Pl.zero 0 38 _ _ (by kernel_rfl) (Zgt w.drew)) hSe ?_
    refine Pl.qq 4 9 ?_ ?_
    · obtain⟨s4,w4,hap4,hq4,hfa4⟩:=hQe.app ((hl.keep hSe).part (k:=0) (m:=ay) (by omega) (a:=ZcK s.a s.cap 0) (c:=s.cap) rfl (fun e=>by have:=hl.nil e;have:=hl.le;omega)) (by rw [List.length_take,List.length_drop,hl.rz.len];omega) (fun y hy=>((hl.flt y (List.mem_of_mem_drop (List.mem_of_mem_take hy))).keep hSe).colR w0) (fun y hy=>hl.rz.fits y (List.mem_of_mem_drop (List.mem_of_mem_take hy))) (by simp only [List.length_take,List.length_drop,List.length_nil,hl.rz.len];omega)
      have hS4:Below w0.heap.size w0 w4:=hq4.below
      refine Pl.qk 4 58 (s4.val) w4 (Pl.qr 38 (.tmp 54) (.tmp 57) hap4) hS4 ?_
      have hSl:Below w0.heap.size w0 (w4.alloc (.cells #[.float .f64 x.r.key,.bool x.r.dead,.slice x.a x.n x.c,.int .i64 x.r.wr,.int .i64 x.r.cell,.int .i64 x.r.no] 33)):=hS4.alloc hS4.size _
      have hLl:=Zag w4 x.r (.slice x.a x.n x.c)
      have hQl:=hq4.keep (Zaa w4 (.cells #[.float .f64 x.r.key,.bool x.r.dead,.slice x.a x.n x.c,.int .i64 x.r.wr,.int .i64 x.r.cell,.int .i64 x.r.no] 33))
      refine Pl.qg 9 63 (.slice (some ⟨w4.heap.size,0,none⟩) 1 1) (w4.alloc (.cells #[.float .f64 x.r.key,.bool x.r.dead,.slice x.a x.n x.c,.int .i64 x.r.wr,.int .i64 x.r.cell,.int .i64 x.r.no] 33)) (Pl.q1) (Pl.qu 38 (.tmp 62) (Zes x w4)) hSl ?_
      obtain⟨s10,w10,hap10,hq10,hfa10⟩:=hQl.app (ZhL hLl) rfl (fun y hy=>by rw [List.mem_singleton.1 hy];exact (hx.keep hSl).colR w0) (fun y hy=>by rw [List.mem_singleton.1 hy];exact hxf) (by simp only [List.length_append,List.length_take,List.length_drop,List.length_cons,List.length_nil,hl.rz.len];omega)
      have hS10:Below w0.heap.size w0 w10:=hq10.below
      refine Pl.qg 10 64 (s10.val) w10 (Pl.q1) (Pl.qr 38 (.tmp 58) (.tmp 63) hap10) hS10 ?_
      obtain⟨s14,w14,hap14,hq14,hfa14⟩:=hq10.app ((hl.keep hS10).part (k:=ay) (m:=(s.len-ay)) (by omega) (a:=ZcK s.a s.cap ay) (c:=(s.cap-ay)) rfl (fun e=>by have:=hl.nil e;have:=hl.le;omega)) (by rw [List.length_take,List.length_drop,hl.rz.len];omega) (fun y hy=>((hl.flt y (List.mem_of_mem_drop (List.mem_of_mem_take hy))).keep hS10).colR w0) (fun y hy=>hl.rz.fits y (List.mem_of_mem_drop (List.mem_of_mem_take hy))) (by simp only [List.length_append,List.length_take,List.length_drop,List.length_cons,List.length_nil,hl.rz.len];omega)
      have hS14:Below w0.heap.size w0 w14:=hq14.below
      refine Pl.qg 14 68 (s14.val) w14 (Pl.q1) (Pl.qr 38 (.tmp 64) (.tmp 67) hap14) hS14 ?_
      refine Pl.q0 15 9 (s14.val) (Pl.q1) (Pl.qe (.tmp 68)) hS14 ?_
      refine Pl.q7 (fun A' hA'=>?_)
      rw [Pl.At.ext hA' ((((((((((((((((hA.put 55 _).put 56 _).put 57 _).put 59 _).put 60 _).put 61 _).put 62 _).put 65 _).put 66 _).put 67 _).put 54 _).put 58 _).put 63 _).put 64 _).put 68 _).put 9 _)]
      exact hend hA'.fn _ _ (Znb hl hx hq14 hat) hS14
    · have hSl:Below w0.heap.size w0 ((w.drew.alloc (.cells #[] 33)).alloc (.cells #[.float .f64 x.r.key,.bool x.r.dead,.slice x.a x.n x.c,.int .i64 x.r.wr,.int .i64 x.r.cell,.int .i64 x.r.no] 33)):=hSe.alloc hSe.size _
      have hLl:=Zag ((w.drew.alloc (.cells #[] 33))) x.r (.slice x.a x.n x.c)
      have hQl:=hQe.keep (Zaa ((w.drew.alloc (.cells #[] 33))) (.cells #[.float .f64 x.r.key,.bool x.r.dead,.slice x.a x.n x.c,.int .i64 x.r.wr,.int .i64 x.r.cell,.int .i64 x.r.no] 33))
      refine Pl.qk 9 63 (.slice (some ⟨((w.drew.alloc (.cells #[] 33))).heap.size,0,none⟩) 1 1) ((w.drew.alloc (.cells #[] 33)).alloc (.cells #[.float .f64 x.r.key,.bool x.r.dead,.slice x.a x.n x.c,.int .i64 x.r.wr,.int .i64 x.r.cell,.int .i64 x.r.no] 33)) (Pl.qu 38 (.tmp 62) (Zes x ((w.drew.alloc (.cells #[] 33))))) hSl ?_
      obtain⟨s4,w4,hap4,hq4,hfa4⟩:=hQl.app ((hl.keep hSl).part (k:=0) (m:=ay) (by omega) (a:=ZcK s.a s.cap 0) (c:=s.cap) rfl (fun e=>by have:=hl.nil e;have:=hl.le;omega)) (by rw [List.length_take,List.length_drop,hl.rz.len];omega) (fun y hy=>((hl.flt y (List.mem_of_mem_drop (List.mem_of_mem_take hy))).keep hSl).colR w0) (fun y hy=>hl.rz.fits y (List.mem_of_mem_drop (List.mem_of_mem_take hy))) (by simp only [List.length_take,List.length_drop,List.length_nil,hl.rz.len];omega)
      have hS4:Below w0.heap.size w0 w4:=hq4.below
      have hL4:RwBlk w4 ((w.drew.alloc (.cells #[] 33))).heap.size x.r (.slice x.a x.n x.c):=(hfa4.block _ (Array.getElem?_eq_some_iff.1 hLl).1 (fun e=>by simp only [Sl.blk,Option.map_some,Option.some.injEq,Zae] at e;omega)).trans hLl
      refine Pl.qg 4 58 (s4.val) w4 (Pl.q1) (Pl.qr 38 (.tmp 54) (.tmp 57) hap4) hS4 ?_
      rw [Pl.ql 63 58]
      obtain⟨s10,w10,hap10,hq10,hfa10⟩:=hq4.app (ZhL hL4) rfl (fun y hy=>by rw [List.mem_singleton.1 hy];exact (hx.keep hS4).colR w0) (fun y hy=>by rw [List.mem_singleton.1 hy];exact hxf) (by simp only [List.length_append,List.length_take,List.length_drop,List.length_cons,List.length_nil,hl.rz.len];omega)
      have hS10:Below w0.heap.size w0 w10:=hq10.below
      refine Pl.qg 10 64 (s10.val) w10 (Pl.q1) (Pl.qr 38 (.tmp 58) (.tmp 63) hap10) hS10 ?_
      obtain⟨s14,w14,hap14,hq14,hfa14⟩:=hq10.app ((hl.keep hS10).part (k:=ay) (m:=(s.len-ay)) (by omega) (a:=ZcK s.a s.cap ay) (c:=(s.cap-ay)) rfl (fun e=>by have:=hl.nil e;have:=hl.le;omega)) (by rw [List.length_take,List.length_drop,hl.rz.len];omega) (fun y hy=>((hl.flt y (List.mem_of_mem_drop (List.mem_of_mem_take hy))).keep hS10).colR w0) (fun y hy=>hl.rz.fits y (List.mem_of_mem_drop (List.mem_of_mem_take hy))) (by simp only [List.length_append,List.length_take,List.length_drop,List.length_cons,List.length_nil,hl.rz.len];omega)
      have hS14:Below w0.heap.size w0 w14:=hq14.below
      refine Pl.qg 14 68 (s14.val) w14 (Pl.q1) (Pl.qr 38 (.tmp 64) (.tmp 67) hap14) hS14 ?_
      refine Pl.q0 15 9 (s14.val) (Pl.q1) (Pl.qe (.tmp 68)) hS14 ?_
      refine Pl.q7 (fun A' hA'=>?_)
      rw [Pl.At.ext hA' ((((((((((((((((hA.put 55 _).put 56 _).put 57 _).put 59 _).put 60 _).put 61 _).put 62 _).put 65 _).put 66 _).put 67 _).put 54 _).put 58 _).put 63 _).put 64 _).put 68 _).put 9 _)]
      exact hend hA'.fn _ _ (Znb hl hx hq14 hat) hS14
  · have hSl:Below w0.heap.size w0 (w.drew.alloc (.cells #[.float .f64 x.r.key,.bool x.r.dead,.slice x.a x.n x.c,.int .i64 x.r.wr,.int .i64 x.r.cell,.int .i64 x.r.no] 33)):=hS0.alloc hS0.size _
    have hLl:=Zag w.drew x.r (.slice x.a x.n x.c)
    refine Pl.qk 9 63 (.slice (some ⟨w.drew.heap.size,0,none⟩) 1 1) (w.drew.alloc (.cells #[.float .f64 x.r.key,.bool x.r.dead,.slice x.a x.n x.c,.int .i64 x.r.wr,.int .i64 x.r.cell,.int .i64 x.r.no] 33)) (Pl.qu 38 (.tmp 62) (Zes x w.drew)) hSl ?_
    have hSe:Below w0.heap.size w0 ((w.drew.alloc (.cells #[.float .f64 x.r.key,.bool x.r.dead,.slice x.a x.n x.c,.int .i64 x.r.wr,.int .i64 x.r.cell,.int .i64 x.r.no] 33)).alloc (.cells #[] 33)):=hSl.alloc hSl.size _
    have hQe:Rq w0 ((w.drew.alloc (.cells #[.float .f64 x.r.key,.bool x.r.dead,.slice x.a x.n x.c,.int .i64 x.r.wr,.int .i64 x.r.cell,.int .i64 x.r.no] 33)).alloc (.cells #[] 33)) ⟨some ⟨((w.drew.alloc (.cells #[.float .f64 x.r.key,.bool x.r.dead,.slice x.a x.n x.c,.int .i64 x.r.wr,.int .i64 x.r.cell,.int .i64 x.r.no] 33))).heap.size,0,none⟩,0,0⟩ []:=Rq.new0 w0 ((w.drew.alloc (.cells #[.float .f64 x.r.key,.bool x.r.dead,.slice x.a x.n x.c,.int .i64 x.r.wr,.int .i64 x.r.cell,.int .i64 x.r.no] 33))) hSl
    have hLe:=hLl.keep (Zaa ((w.drew.alloc (.cells #[.float .f64 x.r.key,.bool x.r.dead,.slice x.a x.n x.c,.int .i64 x.r.wr,.int .i64 x.r.cell,.int .i64 x.r.no] 33))) (.cells #[] 33))
    refine Pl.qg 0 54 (.slice (some ⟨((w.drew.alloc (.cells #[.float .f64 x.r.key,.bool x.r.dead,.slice x.a x.n x.c,.int .i64 x.r.wr,.int .i64 x.r.cell,.int .i64 x.r.no] 33))).heap.size,0,none⟩) 0 0) ((w.drew.alloc (.cells #[.float .f64 x.r.key,.bool x.r.dead,.slice x.a x.n x.c,.int .i64 x.r.wr,.int .i64 x.r.cell,.int .i64 x.r.no] 33)).alloc (.cells #[] 33)) (Pl.q1) (Pl.zero 0 38 _ _ (by kernel_rfl) (Zgt ((w.drew.alloc (.cells #[.float .f64 x.r.key,.bool x.r.dead,.slice x.a x.n x.c,.int .i64 x.r.wr,.int .i64 x.r.cell,.int .i64 x.r.no] 33))))) hSe ?_
    rw [Pl.ql 63 54]
    obtain⟨s4,w4,hap4,hq4,hfa4⟩:=hQe.app ((hl.keep hSe).part (k:=0) (m:=ay) (by omega) (a:=ZcK s.a s.cap 0) (c:=s.cap) rfl (fun e=>by have:=hl.nil e;have:=hl.le;omega)) (by rw [List.length_take,List.length_drop,hl.rz.len];omega) (fun y hy=>((hl.flt y (List.mem_of_mem_drop (List.mem_of_mem_take hy))).keep hSe).colR w0) (fun y hy=>hl.rz.fits y (List.mem_of_mem_drop (List.mem_of_mem_take hy))) (by simp only [List.length_take,List.length_drop,List.length_nil,hl.rz.len];omega)
    have hS4:Below w0.heap.size w0 w4:=hq4.below
    have hL4:RwBlk w4 w.drew.heap.size x.r (.slice x.a x.n x.c):=(hfa4.block _ (Array.getElem?_eq_some_iff.1 hLe).1 (fun e=>by simp only [Sl.blk,Option.map_some,Option.some.injEq,Zae] at e;omega)).trans hLe
    refine Pl.qg 4 58 (s4.val) w4 (Pl.q1) (Pl.qr 38 (.tmp 54) (.tmp 57) hap4) hS4 ?_
    rw [Pl.ql 63 58]
    obtain⟨s10,w10,hap10,hq10,hfa10⟩:=hq4.app (ZhL hL4) rfl (fun y hy=>by rw [List.mem_singleton.1 hy];exact (hx.keep hS4).colR w0) (fun y hy=>by rw [List.mem_singleton.1 hy];exact hxf) (by simp only [List.length_append,List.length_take,List.length_drop,List.length_cons,List.length_nil,hl.rz.len];omega)
    have hS10:Below w0.heap.size w0 w10:=hq10.below
    refine Pl.qg 10 64 (s10.val) w10 (Pl.q1) (Pl.qr 38 (.tmp 58) (.tmp 63) hap10) hS10 ?_
    obtain⟨s14,w14,hap14,hq14,hfa14⟩:=hq10.app ((hl.keep hS10).part (k:=ay) (m:=(s.len-ay)) (by omega) (a:=ZcK s.a s.cap ay) (c:=(s.cap-ay)) rfl (fun e=>by have:=hl.nil e;have:=hl.le;omega)) (by rw [List.length_take,List.length_drop,hl.rz.len];omega) (fun y hy=>((hl.flt y (List.mem_of_mem_drop (List.mem_of_mem_take hy))).keep hS10).colR w0) (fun y hy=>hl.rz.fits y (List.mem_of_mem_drop (List.mem_of_mem_take hy))) (by simp only [List.length_append,List.length_take,List.length_drop,List.length_cons,List.length_nil,hl.rz.len];omega)
    have hS14:Below w0.heap.size w0 w14:=hq14.below
    refine Pl.qg 14 68 (s14.val) w14 (Pl.q1) (Pl.qr 38 (.tmp 64) (.tmp 67) hap14) hS14 ?_
    refine Pl.q0 15 9 (s14.val) (Pl.q1) (Pl.qe (.tmp 68)) hS14 ?_
    refine Pl.q7 (fun A' hA'=>?_)
    rw [Pl.At.ext hA' ((((((((((((((((hA.put 55 _).put 56 _).put 57 _).put 59 _).put 60 _).put 61 _).put 62 _).put 65 _).put 66 _).put 67 _).put 54 _).put 58 _).put 63 _).put 64 _).put 68 _).put 9 _)]
    exact hend hA'.fn _ _ (Znb hl hx hq14 hat) hS14
def posK (k : Nat) : List Rw → Nat
  | [] => 0
  | x :: l => if Fl.less x.key k = true then posK k l + 1 else 0
theorem ZkV (k : Nat) : ∀ l : List Rw, posK k l ≤ l.length
  | [] => Nat.le_refl _
  | x :: l => by
    have := ZkV k l
    unfold posK
    split
    · rw [List.length_cons]; omega
    · exact Nat.zero_le _
theorem Zh8 {k : Nat} : ∀ {l : List Rw} {p : Nat}, p ≤ l.length → (∀ j, (hj : j < p) → (hl : j < l.length) → Fl.less l[j].key k = true) → ((hp : p < l.length) → Fl.less l[p].key k = false) → posK k l = p
  | [], p, h, _, _ => by simp at h; rw [h]; rfl
  | x :: l, 0, _, _, h2 => by
    have := h2 (by simp)
    unfold posK
    rw [if_neg (by simpa using this)]
  | x :: l, p + 1, h, h1, h2 => by
    have h0 := h1 0 (Nat.zero_lt_succ _) (by simp)
    unfold posK
    rw [if_pos (by simpa using h0)]
    rw [Zh8 (l := l) (p := p) (by simpa using h) (fun j hj hl => by have := h1 (j + 1) (by omega) (by simpa using hl); simpa using this) (fun hp => by have := h2 (by simpa using hp); simpa using this)]
def insK (l : List Rw) (r : Rw) : List Rw := l.take (posK r.key l) ++ [r] ++ l.drop (posK r.key l)
def Zec (lo hi : Nat) (o : List Rw) (h : Hr) : List Rw := if (Fl.less h.r.key lo || !(Fl.less h.r.key hi)) = true then o else insK o h.r
def ZaH (lo hi : Nat) (l : List Hr) : List Rw := l.foldl (Zec lo hi) []
theorem ZeF {lo hi : Nat} {l : List Hr} {i : Nat} (h : i < l.length) : ZaH lo hi (l.take (i + 1)) = Zec lo hi (ZaH lo hi (l.take i)) l[i] := by
 unfold ZaH
 rw [List.take_succ_eq_append_getElem h, List.foldl_append]
 rfl
theorem ZlU (l : List Rw) (r : Rw) : (insK l r).length = l.length + 1 := by
 have := ZkV r.key l
 unfold insK
 simp only [List.length_append, List.length_take, List.length_drop, List.length_cons, List.length_nil]
 omega
theorem ZeE (lo hi : Nat) (l : List Hr) : ∀ i, i ≤ l.length → (ZaH lo hi (l.take i)).length ≤ i
  | 0, _ => by simp [ZaH]
  | i + 1, h => by
    have ih := ZeE lo hi l i (by omega)
    rw [ZeF (by omega)]
    unfold Zec
    split
    · omega
    · rw [ZlU]; omega
def Zcv (w : World) (rs : List Rw) (e : Ending) (w' : World) : Prop := Below w.heap.size w w' ∧ ∃ (s : Sl) (l : List Rx), e = .returned (.slice s.a s.len s.cap) ∧ ZaU w' s l ∧ rws l = rs
theorem ZaU.new (w : World) : ZaU (w.alloc (.cells #[] 33)) ⟨some ⟨w.heap.size, 0, none⟩, 0, 0⟩ [] :=
  ⟨⟨rfl, (fun j hj => absurd hj (Nat.not_lt_zero _)), (fun x hx => by cases hx), fun x hx => by cases hx⟩, Nat.le_refl _, (fun e => by cases e), fun x hx => by cases hx⟩
theorem Zj4 {D:Nat→Prop}(w:World)(s:Sl)(L:List Lb)(h:Gl D w s L)(lo hi:Nat)(hlo:lo<18446744073709551616)(hhi:hi<18446744073709551616) :
    Calls Tryz.prog 19 #[s.val,.float .f64 lo,.float .f64 hi] w (Zcv w (ZaH lo hi (allH (lfs L)))):=by
  obtain⟨A,hA⟩:∃A,A=allH (lfs L):=⟨_,rfl⟩
  have HALL:=hide (Zej w s L h)
  rw [← hA] at HALL ⊢
  have hA9:A.length≤900000:=by
   rw [hA]
   have hs:∀f∈lfs L,f.slots.length≤1000:=by
    intro f hf
    obtain⟨x,hx,rfl⟩:=List.mem_map.1 hf
    have:=(h.it x hx).2
    show (bss x.l).length≤1000
    rw [Zah,this.len]
    exact this.big
   have h1:=Zek (lfs L) 0 hs
   have h2:=h.big
   have h3:=h.len
   rw [Za6] at h1
   have h4:L.length*1000≤900*1000:=Nat.mul_le_mul_right _ (by omega)
   unfold allH
   omega
  obtain⟨a,len,cap⟩:=s
  clear h hA
  unfold Sl.val at *
  simp only at *
  have HLO:=hide hlo
  have HHI:=hide hhi
  clear hlo hhi
  go_enter Tryz.func19,Tryz.ntmps19
  go_wp2_with fail
  refine HALL.out.mono ?_
  rintro e w1 ⟨⟨ra,rn,rc⟩,⟨ba,bn,bc⟩,R,rfl,hT⟩
  have hrl:rn=A.length:=by rw [← Zdy hT.r];exact hT.i.rows.len.symm
  have HRI:Hid (ZaU w1 ⟨ra,rn,rc⟩ R):=hT.i.rows.rows hT.i.flt
  have HRR:=hide hT.r
  have HB1:=hide hT.i.below
  have hB2:=Zaa w1 (.cells #[] 33)
  have HN0:=hide (ZaU.new w1)
  have HB2:=hide (Zac HB1.out hB2)
  have HRI2:=hide (HRI.out.keep hB2)
  have hs2:(w1.alloc (.cells #[] 33)).heap.size=w1.heap.size+1:=Zae _ _
  clear hT HALL hB2 HRI
  subst hrl
  go_wp2_with fail
  generalize w1.alloc (.cells #[] 33)=W2 at *
  go_loopw [9,10] (fun ov iv wr=>∃(i:Nat) (so:Sl) (lo':List Rx),i≤A.length∧iv=.int .i64 (i:Nat)∧ov=.slice so.a so.len so.cap∧Hid (ZaU wr so lo')∧Hid (rws lo'=ZaH lo hi (A.take i))∧Hid (Below W2.heap.size W2 wr)) (fun _ iv _=>A.length-(intOf iv).toNat)
  case atStart=>exact ⟨0,_,[],Nat.zero_le _,rfl,rfl,HN0,rfl,Below.refl _ _⟩
  case round =>
   obtain⟨i,so,l,hi',rfl,rfl,hRo,hlo,hW⟩:=hrel
   have hln:l.length≤i:=by
    have h1:=ZeE lo hi A i hi'
    rw [← hlo.out,Zb3] at h1
    exact h1
   have HLEN:Hid (l.length=so.len):=hRo.out.rz.len
   have hsl:so.len≤900000:=by rw [← HLEN.out];omega
   clear hln
   rcases Nat.lt_or_ge i A.length with hlt | hge
   · have j1:(i:Int)<(A.length:Int):=by omega
     have HRW:=hide (HRI2.out.keep hW.out)
     obtain⟨b,off,hra,hxa⟩:=HRW.out.rz.at' i hlt
     replace hra:ra=some ⟨b,off,none⟩:=hra
     subst hra
     have hxf:=HRW.out.rz.fits _ (HRW.out.rz.mem hlt)
     have hxc:=HRW.out.flt _ (HRW.out.rz.mem hlt)
     have hri:=ZeI HRR.out hlt
     obtain⟨x,hx⟩:∃x,x=R.getD i Rx.zero:=⟨_,rfl⟩
     rw [← hx] at hxa hxf hxc hri
     have hsn:ZaH lo hi (A.take (i+1))=if (Fl.less x.r.key lo || !(Fl.less x.r.key hi))=true then ZaH lo hi (A.take i) else insK (ZaH lo hi (A.take i)) x.r:=by rw [ZeF hlt];unfold Zec;rw [hri]
     have HSN:=hide hsn
     have HXA:=hide hxa
     have HXF:=hide hxf
     have HXC:=hide hxc
     have hkey:x.r.key<18446744073709551616:=hxf.key
     have HKEY:=hide hkey
     have HL1:=hide (ZcM x.r.key lo hkey HLO.out wr)
     have HL2:=hide (ZcM x.r.key hi hkey HHI.out wr)
     have x0:=hxa.c0
     have HIX:=hide (ZaP b off A.length rc i hlt)
     clear hsn hxa hxf hxc hri hx hkey
     go_wp2_with fail
     refine HL1.out.mono ?_
     rintro e w3 ⟨rfl,hw3⟩
     obtain rfl:=hw3.symm
     cases hq1:Fl.less x.r.key lo with
     | true =>
      have HS1:Hid (rws l=ZaH lo hi (A.take (i+1))):=by show _=_;rw [HSN.out,hq1,Bool.true_or,if_pos rfl];exact hlo.out
      clear hq1 HL1 HL2 hlo
      go_wp2_with fail
      go_roundw
      case rel=>exact ⟨i+1,so,l,by omega,by go_num,rfl,hRo,HS1,hW⟩
      case measure=>simp only [intOf];omega
     | false =>
      rw [hq1] at HSN
      rw [Bool.false_or] at HSN
      clear hq1 HL1
      go_wp2_with fail
      refine HL2.out.mono ?_
      rintro e w3 ⟨rfl,hw3⟩
      obtain rfl:=hw3.symm
      cases hq2:Fl.less x.r.key hi with
      | false =>
       have HS1:Hid (rws l=ZaH lo hi (A.take (i+1))):=by show _=_;rw [HSN.out,hq2,if_pos (by decide:(!false)=true)];exact hlo.out
       clear hq2 HL2 hlo
       go_wp2_with fail
       go_roundw
       case rel=>exact ⟨i+1,so,l,by omega,by go_num,rfl,hRo,HS1,hW⟩
       case measure=>simp only [intOf];omega
      | true =>
       rw [hq2,if_neg (by decide)] at HSN
       clear hq2 HL2
       go_wp2_with fail
       obtain⟨oa,on,oc⟩:=so
       simp only at *
       go_loopw [12] (fun pv wq=>∃p:Nat,p≤on∧pv=.int .i64 (p:Nat)∧wq=wr∧Hid (∀j,j<p→Fl.less (l.getD j Rx.zero).r.key x.r.key=true)) (fun pv _=>on-(intOf pv).toNat)
       case atStart=>exact ⟨0,Nat.zero_le _,rfl,rfl,fun j hj=>absurd hj (Nat.not_lt_zero _)⟩
       case round =>
        obtain⟨p,hp,rfl,rfl,hps⟩:=hrel
        rcases Nat.lt_or_ge p on with hlt2 | hge2
        · have j2:(p:Int)<(on:Int):=by omega
          obtain⟨b2,o2,hoa,hya⟩:=hRo.out.rz.at' p hlt2
          replace hoa:oa=some ⟨b2,o2,none⟩:=hoa
          subst hoa
          have hyf:=(hRo.out.rz.fits _ (hRo.out.rz.mem hlt2)).key
          have y0:=hya.c0
          obtain⟨y,hy⟩:∃y,y=l.getD p Rx.zero:=⟨_,rfl⟩
          rw [← hy] at y0 hyf
          have HYE:=hide hy
          have HL3:=hide (ZcM y.r.key x.r.key hyf HKEY.out wr)
          have HIX2:=hide (ZaP b2 o2 on oc p hlt2)
          clear hya hyf hy
          go_wp2_with fail
          refine HL3.out.mono ?_
          rintro e w4 ⟨rfl,hw4⟩
          obtain rfl:=hw4.symm
          cases hq3:Fl.less y.r.key x.r.key with
          | true =>
           have HPS:Hid (∀j,j<p+1→Fl.less (l.getD j Rx.zero).r.key x.r.key=true):=by
            intro j hj
            rcases Nat.lt_or_ge j p with h1 | h1
            · exact hps.out j h1
            · rw [show j=p by omega,← HYE.out];exact hq3
           clear hq3 HL3 hps
           go_wp2_with fail
           go_roundw
           case rel=>exact ⟨p+1,by omega,by go_num,trivial,HPS⟩
           case measure=>simp only [intOf];omega
          | false =>
           have hpk:posK x.r.key (rws l)=p:=by
            refine Zh8 (by rw [Zb3,hRo.out.rz.len];exact hp) (fun j hj hl=>?_) (fun hl=>?_)
            · have:=hps.out j hj
              rw [← ZeJ] at this
              simpa [List.getD,hl] using this
            · have:=hq3
              rw [HYE.out,← ZeJ] at this
              simpa [List.getD,hl] using this
           have HPK:=hide hpk
           clear hq3 HL3 hps hpk y0
           go_wp2_with fail
           refine Pl.q8 (ops:=Pl.find 11 ((Tryz.f19.body).getD .skip)) ?_
           refine Zks wr wr ⟨some ⟨b2,o2,none⟩,on,oc⟩ l hRo.out (by show on+1≤_;omega) p hp b off A.length rc i hlt x HXA.out HXC.out HXF.out (Below.refl _ _) (by rfl) (by rfl) (by rfl) (by rfl) (by rfl) (by rfl) ?_
           intro u s14 w9 hr9 hb9
           simp only [Act.put,List.setIfInBounds_toArray,List.set_cons_zero,List.set_cons_succ]
           have HR9:=hide hr9
           have HW9:=hide (Zac hW.out hb9)
           have HE9:Hid (rws (l.take p ++ [x] ++ l.drop p)=ZaH lo hi (A.take (i+1))):=by
            show _=_
            rw [HSN.out,← hlo.out]
            unfold insK
            rw [HPK.out]
            simp [rws,List.map_take,List.map_drop]
           clear hr9 hb9 hlo hRo
           unfold Sl.val
           go_wp2_with fail
           go_roundw
           case rel=>exact ⟨i+1,s14,_,by omega,by go_num,rfl,HR9,HE9,HW9⟩
           case measure=>simp only [intOf];omega
        · have j2:¬(p:Int)<(on:Int):=by omega
          have hpk:posK x.r.key (rws l)=p:=by
           refine Zh8 (by rw [Zb3,hRo.out.rz.len];exact hp) (fun j hj hl=>?_) (fun hl=>?_)
           · have:=hps.out j hj
             rw [← ZeJ] at this
             simpa [List.getD,hl] using this
           · rw [Zb3,hRo.out.rz.len] at hl
             exact absurd hl (Nat.not_lt.2 hge2)
          have HPK:=hide hpk
          clear hps hpk
          go_wp2_with fail
          refine Pl.q8 (ops:=Pl.find 11 ((Tryz.f19.body).getD .skip)) ?_
          refine Zks wr wr ⟨oa,on,oc⟩ l hRo.out (by show on+1≤_;omega) p hp b off A.length rc i hlt x HXA.out HXC.out HXF.out (Below.refl _ _) (by rfl) (by rfl) (by rfl) (by rfl) (by rfl) (by rfl) ?_
          intro u s14 w9 hr9 hb9
          simp only [Act.put,List.setIfInBounds_toArray,List.set_cons_zero,List.set_cons_succ]
          have HR9:=hide hr9
          have HW9:=hide (Zac hW.out hb9)
          have HE9:Hid (rws (l.take p ++ [x] ++ l.drop p)=ZaH lo hi (A.take (i+1))):=by
           show _=_
           rw [HSN.out,← hlo.out]
           unfold insK
           rw [HPK.out]
           simp [rws,List.map_take,List.map_drop]
          clear hr9 hb9 hlo hRo
          unfold Sl.val
          go_wp2_with fail
          go_roundw
          case rel=>exact ⟨i+1,s14,_,by omega,by go_num,rfl,HR9,HE9,HW9⟩
          case measure=>simp only [intOf];omega
   · have j1:¬(i:Int)<(A.length:Int):=by omega
     have e0:i=A.length:=by omega
     have HEND:Hid (Zcv w (ZaH lo hi A) (.returned (.slice so.a so.len so.cap)) wr):=by
      refine⟨Zac HB2.out hW.out,so,l,rfl,hRo.out,?_⟩
      have:=hlo.out
      rw [e0,List.take_length] at this
      exact this
     clear hRo hlo e0
     go_wp2_with fail
     go_ret
     exact HEND.out
theorem Zjj (n : Nat) : madeCells (Value.int .u8 0).cells (n * 1) = (vals (List.replicate n 0)).toArray := by
 apply Array.ext
 · simp [size_madeCells, vals]
 · intro i h1 h2
   simp [madeCells, vals, Value.cells, Nat.mod_one]
theorem Zjk (n:Nat)(hn:n≤10000000)(w:World):(Instr.makeSlice 56 (.int .i64 (n:Nat)) (.int .i64 (n:Nat))).run Tryz.prog w=.ok (.slice (some ⟨w.heap.size,0,none⟩) n n) (w.alloc (.cells (vals (List.replicate n 0)).toArray 5)):=by
 obtain⟨i0,hi,hz0,hz1,hz2⟩:=info_parts info5
 have h:=run_makeSlice (P:=Tryz.prog) w 56 5 i0 (.int .u8 0) Tryz.underlying56 hi hz0 .i64 .i64 (n:Nat) (n:Nat) (by omega) (by omega) (by rw [hz1];simp;omega) (by rw [hz2];simp;omega) (by omega)
 rw [hz1,show (n:Int).toNat=n by omega,Zjj] at h
 exact h
theorem ZkG (n : Nat) : madeCells (Value.int .i64 0).cells (n * 1) = (Zav (List.replicate n 0)).toArray := by
 apply Array.ext
 · simp [size_madeCells, Zav]
 · intro i h1 h2
   simp [madeCells, Zav, Value.cells, Nat.mod_one]
theorem ZkI (n:Nat)(hn:n≤1000000)(w:World):(Instr.makeSlice 46 (.int .i64 (n:Nat)) (.int .i64 (n:Nat))).run Tryz.prog w=.ok (.slice (some ⟨w.heap.size,0,none⟩) n n) (w.alloc (.cells (Zav (List.replicate n 0)).toArray 3)):=by
 obtain⟨i0,hi,hz0,hz1,hz2⟩:=info_parts ZfX
 have h:=run_makeSlice (P:=Tryz.prog) w 46 3 i0 (.int .i64 0) Tryz.underlying46 hi hz0 .i64 .i64 (n:Nat) (n:Nat) (by omega) (by omega) (by rw [hz1];simp;omega) (by rw [hz2];simp;omega) (by omega)
 rw [hz1,show (n:Int).toNat=n by omega,ZkG] at h
 exact h
section
variable {ops : Array Oper} {rest : List Oper} {o : Oper} {a : Act} {Q : Exit → Act → World → Prop}
theorem ZeQ (w:World)(hgd:o.guard=none)(t:TypeId)(x y:Operand)(ho:o.op=.makeSlice t x y)(u u' v:Value)(hu:a.eval x=u)(hu':a.eval y=u')(w':World)(hrun:(Instr.makeSlice t u u').run Tryz.prog w=.ok v w')(hK:wpList Tryz.prog ops Q rest (a.put o.dst v) w'):wpList Tryz.prog ops Q (o :: rest) a w:=by
 refine ZcB w hgd v w' ?_ hK
 have e:execOp a.eval o=(do pure (.value (← Instr.makeSlice t (a.eval x) (a.eval y)))):=by
  unfold execOp
  rw [ho]
 rw [e,hu,hu']
 simp [hrun]
end
open Go.ChangeShapes Go.WideShapes Go.ChangeAt Go.RowKit
structure InI (w : World) (s : Sl) (t : List Int) : Prop where
  len : t.length = s.len
  nil : s.a = none → s.cap = 0
  le : s.len ≤ s.cap
  big : s.len ≤ 9223372036854775807
  cell : ∀ i, i < s.len → ∃ b off, s.a = some ⟨b, off, none⟩ ∧ w.cell? ⟨b, off + i, none⟩ = some (.int .i64 (t.getD i 0))
theorem InI.gi {w : World} {s : Sl} {t : List Int} (h : InI w s t) (hl : s.len ≤ 1000000) : Gi (fun _ => True) w s t := ⟨h.len, h.nil, h.le, hl, fun _ _ _ => trivial, h.cell⟩
structure InS (w : World) (s : Sl) (l : List Sb) : Prop where
  len : l.length = s.len
  nil : s.a = none → s.cap = 0
  le : s.len ≤ s.cap
  big : s.len ≤ 9223372036854775807
  cell : ∀ i, i < s.len → ∃ b off, s.a = some ⟨b, off, none⟩ ∧ w.cell? ⟨b, off + i, none⟩ = some (l.getD i Sb.zero).s.val
  bs : ∀ x ∈ l, Came w x.s.a x.s.len x.s.cap x.bs
theorem InS.gb {w : World} {s : Sl} {l : List Sb} (h : InS w s l) (hl : s.len ≤ 1000) (hb : ∀ x ∈ l, x.s.len ≤ 1000) : Gb (fun _ => True) w s l :=
  ⟨h.len, h.nil, h.le, hl, fun _ _ _ => trivial, h.cell, fun x hx => ⟨⟨h.bs x hx, fun _ _ _ => trivial⟩, by have := (h.bs x hx).bs.1; have := hb x hx; omega⟩⟩
section
variable {H : Type} {enc : TypeId × Value → H} {w : World} {base : Nat} {spare : Nat → Bool} {held : Bool}
theorem Zjq {y:DataW H × List MemPlace}(h:DataW.trod enc Tryz.prog w base spare held n 46 [.slice a len cap]=some y):∃t,InI w ⟨a,len,cap⟩ t:=by
 have hC:Tryz.prog.cellsOf 3=1:=by kernel_rfl
 rcases Go.Deep.open_slice1 Tryz.underlying46 hC h with ⟨hcs,_⟩ | ⟨x,l,c,m,k,V,D,Pl,hcs,hb,hl,hm,hmm,_,hx⟩
 · simp only [List.cons.injEq,Value.slice.injEq,and_true] at hcs
   obtain⟨rfl,rfl,rfl⟩:=hcs
   exact⟨[],⟨rfl,fun _=>rfl,Nat.le_refl _,Nat.zero_le _,fun j hj=>absurd hj (Nat.not_lt_zero _)⟩⟩
 · simp only [List.cons.injEq,Value.slice.injEq,and_true] at hcs
   obtain⟨rfl,rfl,rfl⟩:=hcs
   have hle:len≤m:=by rw [hmm];split <;> omega
   have hsp:0<len→x.spot=none:=by
    intro h0
    have:=World.cell?_spot (hx 0 (by omega)).1
    simpa [Addr.add] using this
   have each:∀i,i<len→∃b:Int,V i=.int .i64 b:=by
    intro i hi
    obtain⟨k3,e3,_,w3⟩:=DataW.trod_int Tryz.underlying3 (hx i (by omega)).2
    exact⟨k3,by simpa using e3⟩
   obtain⟨f,hf⟩:=@Go.Deep.choose_lt Int ⟨0⟩ len _ each
   refine⟨(List.range len).map f,⟨by simp,(fun e=>by cases e),hl,by show len≤_;unfold maxLen at hm;omega,?_⟩⟩
   intro j hj
   replace hj:j<len:=hj
   have hc:=(hx j (by omega)).1
   obtain⟨b,off,spot⟩:=x
   have hspot:spot=none:=hsp (by omega)
   subst hspot
   refine⟨b,off,rfl,?_⟩
   rw [Addr.add_lit] at hc
   rw [hc,hf j hj]
   simp [List.getD,hj]
theorem Zmi {y:DataW H × List MemPlace}(h:DataW.trod enc Tryz.prog w base spare held n 56 [.slice a len cap]=some y) :
    ∃xs,Came w a len cap xs:=by
  have hC:Tryz.prog.cellsOf 5=1:=by kernel_rfl
  rcases Go.Deep.open_slice1 Tryz.underlying56 hC h with ⟨hcs,_⟩ | ⟨x,l,c,m,k,V,D,Pl,hcs,hb,hl,hm,hmm,_,hx⟩
  · simp only [List.cons.injEq,Value.slice.injEq,and_true] at hcs
    obtain⟨rfl,rfl,rfl⟩:=hcs
    exact⟨[],⟨⟨rfl,(fun u hu=>by cases hu),fun j hj=>by omega⟩,fun _=>rfl,Nat.le_refl _,by omega⟩⟩
  · simp only [List.cons.injEq,Value.slice.injEq,and_true] at hcs
    obtain⟨rfl,rfl,rfl⟩:=hcs
    have hle:len≤m:=by rw [hmm];split <;> omega
    have hsp:0<len→x.spot=none:=by
     intro h0
     have:=World.cell?_spot (hx 0 (by omega)).1
     simpa [Addr.add] using this
    have each:∀i,i<len→∃b:Nat,V i=.int .u8 (b:Int)∧b<256:=by
     intro i hi
     obtain⟨k3,e3,_,w3⟩:=DataW.trod_int Tryz.underlying5 (hx i (by omega)).2
     have hb:=bounds_u8 w3
     refine⟨k3.toNat,?_,by omega⟩
     rw [Int.toNat_of_nonneg hb.1]
     simpa using e3
    obtain⟨f,hf⟩:=@Go.Deep.choose_lt Nat ⟨0⟩ len _ each
    refine⟨(List.range len).map f,⟨⟨by simp,?_,?_⟩,(fun e=>by cases e),hl,by unfold maxLen at hm;omega⟩⟩
    · intro z hz
      obtain⟨j,hj,rfl⟩:=List.mem_map.1 hz
      exact(hf j (by simpa using hj)).2
    · intro j hj
      have hc:=(hx j (by omega)).1
      obtain⟨b,off,spot⟩:=x
      have hspot:spot=none:=hsp (by omega)
      subst hspot
      refine⟨b,off,rfl,?_⟩
      rw [Addr.add_lit] at hc
      rw [hc,(hf j hj).1]
      simp [List.getD,hj]
theorem Zjr {y:DataW H × List MemPlace}(h:DataW.trod enc Tryz.prog w base spare held n 65 [.slice a len cap]=some y):∃l,InS w ⟨a,len,cap⟩ l:=by
 have hC:Tryz.prog.cellsOf 56=1:=by kernel_rfl
 rcases Go.Deep.open_slice1 Tryz.underlying65 hC h with ⟨hcs,_⟩ | ⟨x,l,c,m,k,V,D,Pl,hcs,hb,hl,hm,hmm,_,hx⟩
 · simp only [List.cons.injEq,Value.slice.injEq,and_true] at hcs
   obtain⟨rfl,rfl,rfl⟩:=hcs
   exact⟨[],⟨rfl,fun _=>rfl,Nat.le_refl _,Nat.zero_le _,fun j hj=>absurd hj (Nat.not_lt_zero _),fun x hx=>(by cases hx)⟩⟩
 · simp only [List.cons.injEq,Value.slice.injEq,and_true] at hcs
   obtain⟨rfl,rfl,rfl⟩:=hcs
   have hle:len≤m:=by rw [hmm];split <;> omega
   have hsp:0<len→x.spot=none:=by
    intro h0
    have:=World.cell?_spot (hx 0 (by omega)).1
    simpa [Addr.add] using this
   have each:∀i,i<len→∃t:Sb,V i=t.s.val∧Came w t.s.a t.s.len t.s.cap t.bs:=by
    intro i hi
    have t2:=(hx i (by omega)).2
    obtain⟨a',len',cap',e4⟩:=Go.Joins.slice_form Tryz.underlying56 t2
    simp only [List.cons.injEq,and_true] at e4
    rw [e4] at t2
    obtain⟨bs,hbs⟩:=Zmi t2
    exact⟨⟨⟨a',len',cap'⟩,bs⟩,e4,hbs⟩
   obtain⟨f,hf⟩:=@Go.Deep.choose_lt Sb ⟨Sb.zero⟩ len _ each
   refine⟨(List.range len).map f,⟨by simp,(fun e=>by cases e),hl,by show len≤_;unfold maxLen at hm;omega,?_,?_⟩⟩
   · intro j hj
     replace hj:j<len:=hj
     have hc:=(hx j (by omega)).1
     obtain⟨b,off,spot⟩:=x
     have hspot:spot=none:=hsp (by omega)
     subst hspot
     refine⟨b,off,rfl,?_⟩
     rw [Addr.add_lit] at hc
     rw [hc,(hf j hj).1]
     simp [List.getD,hj]
   · intro t ht
     obtain⟨j,hj,rfl⟩:=List.mem_map.1 ht
     exact(hf j (by simpa using hj)).2
end
def Zeo (u v : Sl) (l : List Sb) : Prop := v.len ≤ 80 ∧ u.len ≤ 20 ∧ ∀ x ∈ l, x.s.len ≤ 600
def ZjF (u v : Sl) (l : List Sb) (e : Ending) : Prop := e = .returned (.bool false) ∨ (Zeo u v l ∧ e = .returned (.bool true))
theorem ZkD (w:World)(u v:Sl)(l:List Sb)(hg:InS w v l)(hu:u.len≤9223372036854775807) :
    Calls Tryz.prog 32 #[lfV u v] w fun e w'=>ZjF u v l e∧Below w.heap.size w w':=by
  obtain⟨a,len,cap⟩:=v
  obtain⟨ua,ul,uc⟩:=u
  have hl:l.length=len:=hg.len
  have hbig:len≤9223372036854775807:=hg.big
  have hA:=Zaa w (.cells #[.slice ua ul uc,.slice a len cap] 67)
  have HG:Hid (∀i,i<len→∃b off,a=some ⟨b,off,none⟩∧(w.alloc (.cells #[.slice ua ul uc,.slice a len cap] 67)).cell? ⟨b,off+i,none⟩=some (l.getD i Sb.zero).s.val):=by
   intro i hi
   obtain⟨b,off,ha,hc⟩:=hg.cell i hi
   exact⟨b,off,ha,Zaj hc hA⟩
  have HM:Hid (∀i,i<len→(l.getD i Sb.zero).s.len≤9223372036854775807):=fun i hi=>(hg.bs _ (ZbB (by omega))).big
  have HA:=hide hA
  have HL:=hide hl
  clear hg hl hA
  unfold lfV Sl.val
  simp only at *
  go_enter Tryz.func32,Tryz.ntmps32
  go_wp2_with fail
  go_loopw [3] (fun iv wr=>wr=w.alloc (.cells #[.slice ua ul uc,.slice a len cap] 67)∧∃i:Nat,i≤len∧i≤80∧iv=.int .i64 (i:Nat)∧Hid (∀j,j<i→(l.getD j Sb.zero).s.len≤600)) (fun iv _=>80-(intOf iv).toNat)
  case atStart=>exact ⟨rfl,0,Nat.zero_le _,Nat.zero_le _,rfl,fun _ h=>absurd h (Nat.not_lt_zero _)⟩
  case round =>
   obtain⟨rfl,i,hi,hi8,rfl,hsm⟩:=hrel
   have HEND:Hid (len≤80→i=len→ul≤20→Zeo ⟨ua,ul,uc⟩ ⟨a,len,cap⟩ l):=by
    intro h1 h2 h3
    refine⟨h1,h3,fun x hx=>?_⟩
    obtain⟨j,hj,rfl⟩:=ZkN hx
    exact hsm.out j (by rw [HL.out] at hj;omega)
   rcases Nat.lt_or_ge i len with hlt | hge
   · have i1:(i:Int)<(len:Int):=by omega
     rcases Nat.lt_or_ge i 80 with h8 | h8
     · have i8:(i:Int)<80:=by omega
       obtain⟨bb,oo,ha,c0⟩:=HG.out i hlt
       subst ha
       have hms:=HM.out i hlt
       obtain⟨⟨sa,sn,sc⟩,hsb⟩:∃s,s=(l.getD i Sb.zero).s:=⟨_,rfl⟩
       rw [← hsb] at c0 hms
       have HSB:Hid ((l.getD i Sb.zero).s.len=sn):=by show _=_;rw [← hsb]
       unfold Sl.val at c0
       simp only at c0 hms
       clear hsb
       by_cases h6:600<sn
       · have i6:(600:Int)<(sn:Int):=by omega
         clear hsm HEND HSB
         go_wp2_with fail
         go_ret
         exact⟨.inl rfl,HA.out⟩
       · have i6:¬(600:Int)<(sn:Int):=by omega
         have HS:Hid (∀j,j<i+1→(l.getD j Sb.zero).s.len≤600):=by
          intro j hj
          by_cases e:j=i
          · rw [e,HSB.out];omega
          · exact hsm.out j (by omega)
         clear hsm HEND HSB
         go_wp2_with fail
         go_roundw
         case rel=>exact ⟨trivial,i+1,by omega,by omega,by go_num,HS⟩
         case measure=>simp only [intOf];omega
     · have i8:¬(i:Int)<80:=by omega
       have i9:¬(len:Int)≤80:=by omega
       clear hsm HEND
       go_wp2_with fail
       go_ret
       exact⟨.inl rfl,HA.out⟩
   · have i1:¬(i:Int)<(len:Int):=by omega
     have i9:(len:Int)≤80:=by omega
     by_cases h2:ul≤20
     · have i2:(ul:Int)≤20:=by omega
       have HP:=hide (HEND.out (by omega) (by omega) h2)
       clear hsm HEND
       go_wp2_with fail
       go_ret
       exact⟨.inr ⟨HP.out,rfl⟩,HA.out⟩
     · have i2:¬(ul:Int)≤20:=by omega
       clear hsm HEND
       go_wp2_with fail
       go_ret
       exact⟨.inl rfl,HA.out⟩
end Go.Proofs.YtdojdcncncgncaaGreat
