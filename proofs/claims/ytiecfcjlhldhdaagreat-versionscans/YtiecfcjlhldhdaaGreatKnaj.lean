/-
  Lemmas.
-/
import Derived.Test.YtiecfcjlhldhdaaGreatKnai
import Derived.Test.YtiecfcjlhldhdaaGreatKnah
import Derived.Laws.MakeOwn
import Derived.Lib.SmallJoins
import Derived.Laws.Cover2
import Derived.Deep.Slices
import Derived.Test.YtiecfcjlhldhdaaGreatKnag
import Derived.Test.YtiecfcjlhldhdaaGreatKnaf
namespace Go.Proofs.YtiecfcjlhldhdaaGreat
open Go.RowKit Go.Proofs.Tryz
set_option linter.unusedVariables false
set_option linter.unusedSimpArgs false
set_option maxRecDepth 100000
set_option maxHeartbeats 4000000
variable {w w0 w' W:World}{p n b k cap g lo hi k0 k1 B:Nat}{c:Value}{s:Sl}{a:Option Addr}{r:Rw}{L:List Lb}{x:Rx}{A:Act}
structure Za9 (w:World) (s:Sl) (l:List Rx):Prop where
  rz:Rz w s.a s.len l
  le:s.len≤s.cap
  nil:s.a=none→s.cap=0
  flt:∀x∈l,ColF w x
theorem Za9.keep {l:List Rx}(h:Za9 w s l)(hb:Bl w w'):Za9 w' s l:=⟨h.rz.keep hb (Nat.le_refl _),h.le,h.nil,fun x hx=>(h.flt x hx).keep hb⟩
theorem Rq.rows {l:List Rx}(h:Rq w0 w s l)(hf:∀x∈l,ColF w x):Za9 w s l:=by
 refine⟨h.rz,?_,fun e=>?_,hf⟩
 · rcases h.own.2 with ⟨h0,_⟩ | ⟨g,off,cur,ha,hc,hd,he,_⟩
   · rw [h0];exact Nat.le_refl _
   · exact he
 · rcases h.own.2 with ⟨h0,_⟩ | ⟨g,off,cur,ha,_⟩
   · rw [h0];rfl
   · rw [ha] at e;cases e
def ZcE (a:Option Addr) (cap k:Nat):Option Addr:=if cap=k then a else a.map (·.add (k*6))
theorem szRw (w:World):(sizeOf 39).run prog w=.ok 6 w:=by
 obtain⟨i0,hi,ab,aa,ac⟩:=info_parts Zmc;simp [sizeOf,typeInfo,hi,aa]
theorem ZoQ:prog.elem 49=39:=by kernel_rfl
theorem ZiN (a:Option Addr)(len cap k:Nat)(hk:k≤len)(w:World):(Instr.sliceAt 49 (.slice a len cap) (some (.int .i64 (k:Int))) none none).run prog w=.ok (.slice (ZcE a cap k) (len-k) (cap-k)) w:=by
 (have aa:prog.underlying 49=some (.slice (prog.elem 49)):=by kernel_rfl);rw [run_sliceAt_slice w 49 _ _ _ _ aa,run_slice_l w 49 a len cap aa .i64 (k:Nat) (by omega) (by omega),ZoQ,szRw];simp [Result.andThen,sliced,ZcE]
theorem ZiR (a:Option Addr)(len cap k:Nat)(hk:k≤cap)(w:World):(Instr.sliceAt 49 (.slice a len cap) none (some (.int .i64 (k:Int))) none).run prog w=.ok (.slice (ZcE a cap 0) k cap) w:=by
 (have aa:prog.underlying 49=some (.slice (prog.elem 49)):=by kernel_rfl);rw [run_sliceAt_slice w 49 _ _ _ _ aa,run_slice_h w 49 a len cap aa .i64 (k:Nat) (by omega) (by omega),ZoQ,szRw];simp [Result.andThen,sliced,ZcE]
theorem Za9.part {l:List Rx}(h:Za9 w s l){m:Nat}(hk:k+m≤s.len){c:Nat}(ha:a=ZcE s.a s.cap k)(hc:s.a=none→c=0):Src prog 6 49 (.slice a m c) m (Zav ((l.drop k).take m)) w:=by
 (have hl:((l.drop k).take m).length=m:=by rw [List.length_take,List.length_drop,h.rz.len];omega);refine Rz.src ⟨hl,fun j hj=>?_,fun x hx=>h.rz.cols x (List.mem_of_mem_drop (List.mem_of_mem_take hx)),fun x hx=>h.rz.fits x (List.mem_of_mem_drop (List.mem_of_mem_take hx))⟩ (fun e=>?_)
 · obtain⟨b,off,ad,ab⟩:=h.rz.at' (k+j) (by omega);have ac:=h.le;refine⟨b,off+k*6,?_,?_⟩
   · rw [ha,ad];unfold ZcE;rw [if_neg (by omega)];simp [Addr.add_lit]
   · have e1:((l.drop k).take m).getD j Rx.zero=l.getD (k+j) Rx.zero:=by
      simp only [List.getD,List.getElem?_take,List.getElem?_drop,if_pos hj]
     rw [e1,show off+k*6+j*6=off+(k+j)*6 by omega];exact ab
 · rw [e] at ha;unfold ZcE at ha;have aa:s.a=none:=by
    split at ha
    · exact ha.symm
    · cases hs:s.a with
      | none=>rfl
      | some q=>rw [hs] at ha;cases ha
   have:=h.nil aa;have ac:=h.le;exact⟨by omega,hc aa⟩
theorem ZgR (w:World):(Instr.buildSlice 49 0 #[]).run prog w=.ok (.slice (some ⟨w.heap.size,0,none⟩) 0 0) (w.alloc (.cells #[] 39)):=by
 (have aa:prog.underlying 49=some (.slice (prog.elem 49)):=by kernel_rfl);simp [go_sem,Instr.buildSlice,run_underlying aa]
theorem ZeD (x:Rx)(w:World):(Instr.buildSlice 49 1 #[(0,x.val)]).run prog w=.ok (.slice (some ⟨w.heap.size,0,none⟩) 1 1) (w.alloc (.cells #[.float .f64 x.r.key,.bool x.r.dead,.slice x.a x.n x.c,.int .i64 x.r.wr,.int .i64 x.r.cell,.int .i64 x.r.no] 39)):=by
 (have aa:prog.underlying 49=some (.slice (prog.elem 49)):=by kernel_rfl);simp [go_sem,Instr.buildSlice,run_underlying aa,Rx.val,Rw.val]
theorem Zpr {s14:Sl}{l:List Rx}{ay:Nat}(hl:Za9 w0 s l)(hx:ColF w0 x)(hq:Rq w0 w s14 ([] ++ (l.drop 0).take ay ++ [x] ++ (l.drop ay).take (s.len-ay)))(aa:ay≤s.len):Za9 w s14 (l.take ay ++ [x] ++ l.drop ay):=by
 have e:[] ++ (l.drop 0).take ay ++ [x] ++ (l.drop ay).take (s.len-ay)=l.take ay ++ [x] ++ l.drop ay:=by
  rw [List.nil_append,List.drop_zero,List.take_of_length_le (l:=l.drop ay) (by rw [List.length_drop,hl.rz.len];exact Nat.le_refl _)]
 rw [e] at hq;refine hq.rows (fun y hy=>?_);rcases List.mem_append.1 hy with hy | hy
 · rcases List.mem_append.1 hy with hy | hy
   · exact(hl.flt y (List.mem_of_mem_take hy)).keep hq.below
   · rw [List.mem_singleton.1 hy];exact hx.keep hq.below
 · exact(hl.flt y (List.mem_of_mem_drop hy)).keep hq.below
theorem ZiT (h:RwBlk w p x.r (.slice x.a x.n x.c)):Src prog 6 49 (.slice (some ⟨p,0,none⟩) 1 1) 1 (Zav [x]) w:=by
 refine Src.ofSlice _ underlying49 ⟨p,0,none⟩ 1 1 (Zav [x]) rfl (fun j u hj=>?_) (Zbt _);rw [Addr.add_lit,cell_of_row _ _ _ _ _ _ h];simpa [Zav,Rx.cells] using hj
theorem ZlX (w0 w:World)(s:Sl)(l:List Rx)(hl:Za9 w0 s l)(az:s.len+1≤1000000)(ay:Nat)(ar:ay≤s.len)(b off len c i:Nat)(hi:i<len)(x:Rx)(bc:RwAt w0 b (off+i*6) x)(hx:ColF w0 x)(aw:x.r.fits)(hW:Bl w0 w)
    {Q:Exit→Act→World→Prop}(bb:A.tmps.size=70)(ba:A.defers=[])(s9:A.tmps.getD 9 undef=.slice s.a s.len s.cap)(s12:A.tmps.getD 12 undef=.int .i64 (ay:Int))(s7:A.tmps.getD 7 undef=.slice (some ⟨b,off,none⟩) len c)(s10:A.tmps.getD 10 undef=.int .i64 (i:Int))
    (hend:∀(u:Nat→Value)(s14:Sl) w',Za9 w' s14 (l.take ay ++ [x] ++ l.drop ay)→Bl w0 w'→Q .normal ((Pl.pu A u [55,56,57,59,60,61,62,65,66,67,54,58,63,64,68]).put (some 9) (s14.val)) w') :
    Pl.rg prog 11 f19 Q A w:=by
  have ag:Bl w0 w.drew:=hW.drew;have hA:=Pl.At.same (v:=.int .i64 (i:Int)) (d:=10) (Pl.At.same (v:=.slice (some ⟨b,off,none⟩) len c) (d:=7) (Pl.At.same (v:=.int .i64 (ay:Int)) (d:=12) (Pl.At.same (v:=.slice s.a s.len s.cap) (d:=9) (Pl.At.here bb ba) s9) s12) s7) s10;refine Pl.qb (S:=fun w'=>Bl w0 w') hA ag ?_;rw [show (Pl.fd 11 f19).size=16 by kernel_rfl];refine Pl.q0 1 55 (.slice s.a s.len s.cap) (Pl.q1) (Pl.q2 (.tmp 9)) ag ?_;refine Pl.q0 2 56 (.int .i64 (ay:Int)) (Pl.q1) (Pl.q2 (.tmp 12)) ag ?_;refine Pl.q0 3 57 (.slice (ZcE s.a s.cap 0) ay s.cap) (Pl.q1) (Pl.qt 49 (.tmp 55) none (some (.tmp 56)) (fun w=>ZiR s.a s.len s.cap ay (by have:=hl.le;omega) w)) ag ?_;refine Pl.q0 5 59 (.slice (some ⟨b,off,none⟩) len c) (Pl.q1) (Pl.q2 (.tmp 7)) ag ?_;refine Pl.q0 6 60 (.int .i64 (i:Int)) (Pl.q1) (Pl.q2 (.tmp 10)) ag ?_;refine Pl.q0 7 61 (.pointer (some ⟨b,off+i*6,none⟩)) (Pl.q1) (Pl.qa 49 (.tmp 59) (.tmp 60) (ZaX b off len c i hi)) ag ?_;refine Pl.q0 8 62 (x.val) (Pl.q1) (Pl.q4 39 (.tmp 61) (fun w' hS=>Zbl b (off+i*6) x w' (bc.keep hS (Nat.le_refl _)))) ag ?_;refine Pl.q0 11 65 (.slice s.a s.len s.cap) (Pl.q1) (Pl.q2 (.tmp 9)) ag ?_;refine Pl.q0 12 66 (.int .i64 (ay:Int)) (Pl.q1) (Pl.q2 (.tmp 12)) ag ?_;refine Pl.q0 13 67 (.slice (ZcE s.a s.cap ay) (s.len-ay) (s.cap-ay)) (Pl.q1) (Pl.qt 49 (.tmp 65) (some (.tmp 66)) none (fun w=>ZiN s.a s.len s.cap ay ar w)) ag ?_;refine Pl.qs 0 9 ?_ ?_
  · have ak:Bl w0 (w.drew.alloc (.cells #[] 39)):=ag.alloc ag.size _;have aq:Rq w0 (w.drew.alloc (.cells #[] 39)) ⟨some ⟨w.drew.heap.size,0,none⟩,0,0⟩ []:=Rq.new0 w0 w.drew ag;refine Pl.qj 0 54 (.slice (some ⟨w.drew.heap.size,0,none⟩) 0 0) (w.drew.alloc (.cells #[] 39)) (Pl.zero 0 49 _ _ (by kernel_rfl) (ZgR w.drew)) ak ?_;refine Pl.qs 4 9 ?_ ?_
    · obtain⟨s4,w4,ai,ao,al⟩:=aq.app ((hl.keep ak).part (k:=0) (m:=ay) (by omega) (a:=ZcE s.a s.cap 0) (c:=s.cap) rfl (fun e=>by have:=hl.nil e;have:=hl.le;omega)) (by rw [List.length_take,List.length_drop,hl.rz.len];omega) (fun y hy=>((hl.flt y (List.mem_of_mem_drop (List.mem_of_mem_take hy))).keep ak).colR w0) (fun y hy=>hl.rz.fits y (List.mem_of_mem_drop (List.mem_of_mem_take hy))) (by simp only [List.length_take,List.length_drop,List.length_nil,hl.rz.len];omega);have aj:Bl w0 w4:=ao.below;refine Pl.qj 4 58 (s4.val) w4 (Pl.qy 49 (.tmp 54) (.tmp 57) ai) aj ?_;have ah:Bl w0 (w4.alloc (.cells #[.float .f64 x.r.key,.bool x.r.dead,.slice x.a x.n x.c,.int .i64 x.r.wr,.int .i64 x.r.cell,.int .i64 x.r.no] 39)):=aj.alloc aj.size _;have ap:=Zai w4 x.r (.slice x.a x.n x.c);have av:=ao.keep (Zab w4 (.cells #[.float .f64 x.r.key,.bool x.r.dead,.slice x.a x.n x.c,.int .i64 x.r.wr,.int .i64 x.r.cell,.int .i64 x.r.no] 39));refine Pl.qf 9 63 (.slice (some ⟨w4.heap.size,0,none⟩) 1 1) (w4.alloc (.cells #[.float .f64 x.r.key,.bool x.r.dead,.slice x.a x.n x.c,.int .i64 x.r.wr,.int .i64 x.r.cell,.int .i64 x.r.no] 39)) (Pl.q1) (Pl.qu 49 (.tmp 62) (ZeD x w4)) ah ?_;obtain⟨s10,w10,ac,ae,am⟩:=av.app (ZiT ap) rfl (fun y hy=>by rw [List.mem_singleton.1 hy];exact (hx.keep ah).colR w0) (fun y hy=>by rw [List.mem_singleton.1 hy];exact aw) (by simp only [List.length_append,List.length_take,List.length_drop,List.length_cons,List.length_nil,hl.rz.len];omega);have aa:Bl w0 w10:=ae.below;refine Pl.qf 10 64 (s10.val) w10 (Pl.q1) (Pl.qy 49 (.tmp 58) (.tmp 63) ac) aa ?_;obtain⟨s14,w14,ad,af,an⟩:=ae.app ((hl.keep aa).part (k:=ay) (m:=(s.len-ay)) (by omega) (a:=ZcE s.a s.cap ay) (c:=(s.cap-ay)) rfl (fun e=>by have:=hl.nil e;have:=hl.le;omega)) (by rw [List.length_take,List.length_drop,hl.rz.len];omega) (fun y hy=>((hl.flt y (List.mem_of_mem_drop (List.mem_of_mem_take hy))).keep aa).colR w0) (fun y hy=>hl.rz.fits y (List.mem_of_mem_drop (List.mem_of_mem_take hy))) (by simp only [List.length_append,List.length_take,List.length_drop,List.length_cons,List.length_nil,hl.rz.len];omega);have ab:Bl w0 w14:=af.below;refine Pl.qf 14 68 (s14.val) w14 (Pl.q1) (Pl.qy 49 (.tmp 64) (.tmp 67) ad) ab ?_;refine Pl.q0 15 9 (s14.val) (Pl.q1) (Pl.qd (.tmp 68)) ab ?_;refine Pl.q8 (fun A' hA'=>?_);exact Pl.en hA' hA [55,56,57,59,60,61,62,65,66,67,54,58,63,64,68,9] (hend hA'.fn _ _ (Zpr hl hx af ar) ab)
    · have ah:Bl w0 ((w.drew.alloc (.cells #[] 39)).alloc (.cells #[.float .f64 x.r.key,.bool x.r.dead,.slice x.a x.n x.c,.int .i64 x.r.wr,.int .i64 x.r.cell,.int .i64 x.r.no] 39)):=ak.alloc ak.size _;have ap:=Zai ((w.drew.alloc (.cells #[] 39))) x.r (.slice x.a x.n x.c);have av:=aq.keep (Zab ((w.drew.alloc (.cells #[] 39))) (.cells #[.float .f64 x.r.key,.bool x.r.dead,.slice x.a x.n x.c,.int .i64 x.r.wr,.int .i64 x.r.cell,.int .i64 x.r.no] 39));refine Pl.qj 9 63 (.slice (some ⟨((w.drew.alloc (.cells #[] 39))).heap.size,0,none⟩) 1 1) ((w.drew.alloc (.cells #[] 39)).alloc (.cells #[.float .f64 x.r.key,.bool x.r.dead,.slice x.a x.n x.c,.int .i64 x.r.wr,.int .i64 x.r.cell,.int .i64 x.r.no] 39)) (Pl.qu 49 (.tmp 62) (ZeD x ((w.drew.alloc (.cells #[] 39))))) ah ?_;obtain⟨s4,w4,ai,ao,al⟩:=av.app ((hl.keep ah).part (k:=0) (m:=ay) (by omega) (a:=ZcE s.a s.cap 0) (c:=s.cap) rfl (fun e=>by have:=hl.nil e;have:=hl.le;omega)) (by rw [List.length_take,List.length_drop,hl.rz.len];omega) (fun y hy=>((hl.flt y (List.mem_of_mem_drop (List.mem_of_mem_take hy))).keep ah).colR w0) (fun y hy=>hl.rz.fits y (List.mem_of_mem_drop (List.mem_of_mem_take hy))) (by simp only [List.length_take,List.length_drop,List.length_nil,hl.rz.len];omega);have aj:Bl w0 w4:=ao.below;have au:RwBlk w4 ((w.drew.alloc (.cells #[] 39))).heap.size x.r (.slice x.a x.n x.c):=(al.block _ (Array.getElem?_eq_some_iff.1 ap).1 (fun e=>by simp only [Sl.blk,Option.map_some,Option.some.injEq,Zae] at e;omega)).trans ap;refine Pl.qf 4 58 (s4.val) w4 (Pl.q1) (Pl.qy 49 (.tmp 54) (.tmp 57) ai) aj ?_;rw [Pl.qg 63 58];obtain⟨s10,w10,ac,ae,am⟩:=ao.app (ZiT au) rfl (fun y hy=>by rw [List.mem_singleton.1 hy];exact (hx.keep aj).colR w0) (fun y hy=>by rw [List.mem_singleton.1 hy];exact aw) (by simp only [List.length_append,List.length_take,List.length_drop,List.length_cons,List.length_nil,hl.rz.len];omega);have aa:Bl w0 w10:=ae.below;refine Pl.qf 10 64 (s10.val) w10 (Pl.q1) (Pl.qy 49 (.tmp 58) (.tmp 63) ac) aa ?_;obtain⟨s14,w14,ad,af,an⟩:=ae.app ((hl.keep aa).part (k:=ay) (m:=(s.len-ay)) (by omega) (a:=ZcE s.a s.cap ay) (c:=(s.cap-ay)) rfl (fun e=>by have:=hl.nil e;have:=hl.le;omega)) (by rw [List.length_take,List.length_drop,hl.rz.len];omega) (fun y hy=>((hl.flt y (List.mem_of_mem_drop (List.mem_of_mem_take hy))).keep aa).colR w0) (fun y hy=>hl.rz.fits y (List.mem_of_mem_drop (List.mem_of_mem_take hy))) (by simp only [List.length_append,List.length_take,List.length_drop,List.length_cons,List.length_nil,hl.rz.len];omega);have ab:Bl w0 w14:=af.below;refine Pl.qf 14 68 (s14.val) w14 (Pl.q1) (Pl.qy 49 (.tmp 64) (.tmp 67) ad) ab ?_;refine Pl.q0 15 9 (s14.val) (Pl.q1) (Pl.qd (.tmp 68)) ab ?_;refine Pl.q8 (fun A' hA'=>?_);exact Pl.en hA' hA [55,56,57,59,60,61,62,65,66,67,54,58,63,64,68,9] (hend hA'.fn _ _ (Zpr hl hx af ar) ab)
  · have ah:Bl w0 (w.drew.alloc (.cells #[.float .f64 x.r.key,.bool x.r.dead,.slice x.a x.n x.c,.int .i64 x.r.wr,.int .i64 x.r.cell,.int .i64 x.r.no] 39)):=ag.alloc ag.size _;have ap:=Zai w.drew x.r (.slice x.a x.n x.c);refine Pl.qj 9 63 (.slice (some ⟨w.drew.heap.size,0,none⟩) 1 1) (w.drew.alloc (.cells #[.float .f64 x.r.key,.bool x.r.dead,.slice x.a x.n x.c,.int .i64 x.r.wr,.int .i64 x.r.cell,.int .i64 x.r.no] 39)) (Pl.qu 49 (.tmp 62) (ZeD x w.drew)) ah ?_;have ak:Bl w0 ((w.drew.alloc (.cells #[.float .f64 x.r.key,.bool x.r.dead,.slice x.a x.n x.c,.int .i64 x.r.wr,.int .i64 x.r.cell,.int .i64 x.r.no] 39)).alloc (.cells #[] 39)):=ah.alloc ah.size _;have aq:Rq w0 ((w.drew.alloc (.cells #[.float .f64 x.r.key,.bool x.r.dead,.slice x.a x.n x.c,.int .i64 x.r.wr,.int .i64 x.r.cell,.int .i64 x.r.no] 39)).alloc (.cells #[] 39)) ⟨some ⟨((w.drew.alloc (.cells #[.float .f64 x.r.key,.bool x.r.dead,.slice x.a x.n x.c,.int .i64 x.r.wr,.int .i64 x.r.cell,.int .i64 x.r.no] 39))).heap.size,0,none⟩,0,0⟩ []:=Rq.new0 w0 ((w.drew.alloc (.cells #[.float .f64 x.r.key,.bool x.r.dead,.slice x.a x.n x.c,.int .i64 x.r.wr,.int .i64 x.r.cell,.int .i64 x.r.no] 39))) ah;have ax:=ap.keep (Zab ((w.drew.alloc (.cells #[.float .f64 x.r.key,.bool x.r.dead,.slice x.a x.n x.c,.int .i64 x.r.wr,.int .i64 x.r.cell,.int .i64 x.r.no] 39))) (.cells #[] 39));refine Pl.qf 0 54 (.slice (some ⟨((w.drew.alloc (.cells #[.float .f64 x.r.key,.bool x.r.dead,.slice x.a x.n x.c,.int .i64 x.r.wr,.int .i64 x.r.cell,.int .i64 x.r.no] 39))).heap.size,0,none⟩) 0 0) ((w.drew.alloc (.cells #[.float .f64 x.r.key,.bool x.r.dead,.slice x.a x.n x.c,.int .i64 x.r.wr,.int .i64 x.r.cell,.int .i64 x.r.no] 39)).alloc (.cells #[] 39)) (Pl.q1) (Pl.zero 0 49 _ _ (by kernel_rfl) (ZgR ((w.drew.alloc (.cells #[.float .f64 x.r.key,.bool x.r.dead,.slice x.a x.n x.c,.int .i64 x.r.wr,.int .i64 x.r.cell,.int .i64 x.r.no] 39))))) ak ?_;rw [Pl.qg 63 54];obtain⟨s4,w4,ai,ao,al⟩:=aq.app ((hl.keep ak).part (k:=0) (m:=ay) (by omega) (a:=ZcE s.a s.cap 0) (c:=s.cap) rfl (fun e=>by have:=hl.nil e;have:=hl.le;omega)) (by rw [List.length_take,List.length_drop,hl.rz.len];omega) (fun y hy=>((hl.flt y (List.mem_of_mem_drop (List.mem_of_mem_take hy))).keep ak).colR w0) (fun y hy=>hl.rz.fits y (List.mem_of_mem_drop (List.mem_of_mem_take hy))) (by simp only [List.length_take,List.length_drop,List.length_nil,hl.rz.len];omega);have aj:Bl w0 w4:=ao.below;have au:RwBlk w4 w.drew.heap.size x.r (.slice x.a x.n x.c):=(al.block _ (Array.getElem?_eq_some_iff.1 ax).1 (fun e=>by simp only [Sl.blk,Option.map_some,Option.some.injEq,Zae] at e;omega)).trans ax;refine Pl.qf 4 58 (s4.val) w4 (Pl.q1) (Pl.qy 49 (.tmp 54) (.tmp 57) ai) aj ?_;rw [Pl.qg 63 58];obtain⟨s10,w10,ac,ae,am⟩:=ao.app (ZiT au) rfl (fun y hy=>by rw [List.mem_singleton.1 hy];exact (hx.keep aj).colR w0) (fun y hy=>by rw [List.mem_singleton.1 hy];exact aw) (by simp only [List.length_append,List.length_take,List.length_drop,List.length_cons,List.length_nil,hl.rz.len];omega);have aa:Bl w0 w10:=ae.below;refine Pl.qf 10 64 (s10.val) w10 (Pl.q1) (Pl.qy 49 (.tmp 58) (.tmp 63) ac) aa ?_;obtain⟨s14,w14,ad,af,an⟩:=ae.app ((hl.keep aa).part (k:=ay) (m:=(s.len-ay)) (by omega) (a:=ZcE s.a s.cap ay) (c:=(s.cap-ay)) rfl (fun e=>by have:=hl.nil e;have:=hl.le;omega)) (by rw [List.length_take,List.length_drop,hl.rz.len];omega) (fun y hy=>((hl.flt y (List.mem_of_mem_drop (List.mem_of_mem_take hy))).keep aa).colR w0) (fun y hy=>hl.rz.fits y (List.mem_of_mem_drop (List.mem_of_mem_take hy))) (by simp only [List.length_append,List.length_take,List.length_drop,List.length_cons,List.length_nil,hl.rz.len];omega);have ab:Bl w0 w14:=af.below;refine Pl.qf 14 68 (s14.val) w14 (Pl.q1) (Pl.qy 49 (.tmp 64) (.tmp 67) ad) ab ?_;refine Pl.q0 15 9 (s14.val) (Pl.q1) (Pl.qd (.tmp 68)) ab ?_;refine Pl.q8 (fun A' hA'=>?_);exact Pl.en hA' hA [55,56,57,59,60,61,62,65,66,67,54,58,63,64,68,9] (hend hA'.fn _ _ (Zpr hl hx af ar) ab)
def posK (k:Nat):List Rw→Nat
  | []=>0
  | x :: l=>if Fl.less x.key k=true then posK k l+1 else 0
theorem Zm6 (k:Nat):∀l:List Rw,posK k l≤l.length
 | []=>Nat.le_refl _
 | x :: l=>by
  have:=Zm6 k l
  unfold posK
  split
  · rw [List.length_cons];omega
  · exact Nat.zero_le _
theorem ZiE :∀{l:List Rw}{p:Nat},p≤l.length→(∀j,(hj:j<p)→(hl:j<l.length)→Fl.less l[j].key k=true)→((hp:p<l.length)→Fl.less l[p].key k=false)→posK k l=p
 | [],p,h,_,_=>by simp at h;rw [h];rfl
 | x :: l,0,_,_,h2=>by
  have:=h2 (by simp)
  unfold posK
  rw [if_neg (by simpa using this)]
 | x :: l,p+1,h,h1,h2=>by
  have h0:=h1 0 (Nat.zero_lt_succ _) (by simp)
  unfold posK
  rw [if_pos (by simpa using h0)]
  rw [ZiE (l:=l) (p:=p) (by simpa using h) (fun j hj hl=>by have:=h1 (j+1) (by omega) (by simpa using hl);simpa using this) (fun hp=>by have:=h2 (by simpa using hp);simpa using this)]
def insK (l:List Rw) (r:Rw):List Rw:=l.take (posK r.key l) ++ [r] ++ l.drop (posK r.key l)
def Zeo (lo hi:Nat) (o:List Rw) (h:Hr):List Rw:=if (Fl.less h.r.key lo || !(Fl.less h.r.key hi))=true then o else insK o h.r
def Zax (lo hi:Nat) (l:List Hr):List Rw:=l.foldl (Zeo lo hi) []
theorem Zfa {l:List Hr}{i:Nat}(h:i<l.length):Zax lo hi (l.take (i+1))=Zeo lo hi (Zax lo hi (l.take i)) l[i]:=by
 unfold Zax;rw [List.take_succ_eq_append_getElem h,List.foldl_append];rfl
theorem ZnX (l:List Rw)(r:Rw):(insK l r).length=l.length+1:=by
 have:=Zm6 r.key l;unfold insK;simp only [List.length_append,List.length_take,List.length_drop,List.length_cons,List.length_nil];omega
theorem ZeZ (lo hi:Nat)(l:List Hr):∀i,i≤l.length→(Zax lo hi (l.take i)).length≤i
 | 0,_=>by simp [Zax]
 | i+1,h=>by
  have ih:=ZeZ lo hi l i (by omega)
  rw [Zfa (by omega)]
  unfold Zeo
  split
  · omega
  · rw [ZnX];omega
def Zep (w:World) (rs:List Rw) (e:Ending) (w':World):Prop:=Bl w w'∧∃(s:Sl) (l:List Rx),e=.returned (.slice s.a s.len s.cap)∧Za9 w' s l∧rws l=rs
theorem Za9.new (w:World):Za9 (w.alloc (.cells #[] 39)) ⟨some ⟨w.heap.size,0,none⟩,0,0⟩ []:=
 ⟨⟨rfl,(fun j hj=>absurd hj (Nat.not_lt_zero _)),(fun x hx=>by cases hx),fun x hx=>by cases hx⟩,Nat.le_refl _,(fun e=>by cases e),fun x hx=>by cases hx⟩
theorem Zle {D:Nat→Prop}(w:World)(s:Sl)(L:List Lb)(h:Gl D w s L)(lo hi:Nat)(ab:lo<18446744073709551616)(bs:hi<18446744073709551616) :
    Calls prog 19 #[s.val,.float .f64 lo,.float .f64 hi] w (Zep w (Zax lo hi (allH (lfs L)))):=by
  obtain⟨A,hA⟩:∃A,A=allH (lfs L):=⟨_,rfl⟩;have ae:=Zh (ZgG w s L h);rw [← hA] at ae ⊢;have ci:A.length≤900000:=by
   rw [hA];have hs:∀f∈lfs L,f.slots.length≤1000:=by
    intro f hf;obtain⟨x,hx,rfl⟩:=List.mem_map.1 hf;have:=(h.it x hx).2;show (bss x.l).length≤1000;rw [Zaj,this.len];exact this.big
   have h1:=Ze2 (lfs L) 0 hs;have h2:=h.big;have h3:=h.len;rw [Zbh] at h1;have h4:L.length*1000≤900*1000:=Nat.mul_le_mul_right _ (by omega);unfold allH;omega
  obtain⟨a,len,cap⟩:=s;clear h hA;unfold Sl.val at *;simp only at *;have ca:=Zh ab;have bx:=Zh bs;clear ab bs;go_enter func19,ntmps19;go_wp2_with fail;refine ae.o.mono ?_;rintro e w1 ⟨⟨ra,rn,rc⟩,⟨ba,bn,bc⟩,R,rfl,hT⟩;(have cf:rn=A.length:=by rw [← Ze3 hT.r];exact hT.i.rows.len.symm);have bm:Hi (Za9 w1 ⟨ra,rn,rc⟩ R):=hT.i.rows.rows hT.i.flt;have cd:=Zh hT.r;have bv:=Zh hT.i.below;have be:=Zab w1 (.cells #[] 39);have cb:=Zh (Za9.new w1);have bw:=Zh (Zac bv.o be);have az:=Zh (bm.o.keep be);have ck:(w1.alloc (.cells #[] 39)).heap.size=w1.heap.size+1:=Zae _ _;clear hT ae be bm;subst cf;go_wp2_with fail;generalize w1.alloc (.cells #[] 39)=W2 at *;go_loopw [9,10] (fun ov iv wr=>∃(i:Nat) (so:Sl) (lo':List Rx),i≤A.length∧iv=.int .i64 (i:Nat)∧ov=.slice so.a so.len so.cap∧Hi (Za9 wr so lo')∧Hi (rws lo'=Zax lo hi (A.take i))∧Hi (Bl W2 wr)) (fun _ iv _=>A.length-(intOf iv).toNat)
  case atStart=>exact ⟨0,_,[],Nat.zero_le _,rfl,rfl,cb,rfl,Below.refl _ _⟩
  case round =>
   obtain⟨i,so,l,hi',rfl,rfl,aa,ab,hW⟩:=hrel;have ce:l.length≤i:=by
    have h1:=ZeZ lo hi A i hi';rw [← ab.o,ZaR] at h1;exact h1
   have aw:Hi (l.length=so.len):=aa.o.rz.len;(have cl:so.len≤900000:=by rw [← aw.o];omega);clear ce;rcases Nat.lt_or_ge i A.length with ad | cj
   · (have j1:(i:Int)<(A.length:Int):=by omega);have ai:=Zh (az.o.keep hW.o);obtain⟨b,off,bh,an⟩:=ai.o.rz.at' i ad;replace bh:ra=some ⟨b,off,none⟩:=bh;subst bh;have ao:=ai.o.rz.fits _ (ai.o.rz.mem ad);have bk:=ai.o.flt _ (ai.o.rz.mem ad);have bi:=ZfX cd.o ad;obtain⟨x,hx⟩:∃x,x=R.getD i Rx.zero:=⟨_,rfl⟩;rw [← hx] at an ao bk bi;(have bt:Zax lo hi (A.take (i+1))=if (Fl.less x.r.key lo || !(Fl.less x.r.key hi))=true then Zax lo hi (A.take i) else insK (Zax lo hi (A.take i)) x.r:=by rw [Zfa ad];unfold Zeo;rw [bi]);have af:=Zh bt;have bo:=Zh an;have bq:=Zh ao;have bp:=Zh bk;have ac:x.r.key<18446744073709551616:=ao.key;have ar:=Zh ac;have au:=Zh (ZcG x.r.key lo ac ca.o wr);have am:=Zh (ZcG x.r.key hi ac bx.o wr);have x0:=an.c0;have ch:=Zh (ZaX b off A.length rc i ad);clear bt an ao bk bi hx ac;go_wp2_with fail;refine au.o.mono ?_;rintro e w3 ⟨rfl,bj⟩;obtain rfl:=bj.symm;cases hq1:Fl.less x.r.key lo with
     | true =>
      (have bb:Hi (rws l=Zax lo hi (A.take (i+1))):=by show _=_;rw [af.o,hq1,Bool.true_or,if_pos rfl];exact ab.o);clear hq1 au am ab;go_wp2;go_roundw;exact ⟨i+1,so,l,by omega,by go_num,rfl,aa,bb,hW⟩;simp only [intOf];omega
     | false =>
      rw [hq1] at af;rw [Bool.false_or] at af;clear hq1 au;go_wp2_with fail;refine am.o.mono ?_;rintro e w3 ⟨rfl,bj⟩;obtain rfl:=bj.symm;cases hq2:Fl.less x.r.key hi with
      | false =>
       (have bb:Hi (rws l=Zax lo hi (A.take (i+1))):=by show _=_;rw [af.o,hq2,if_pos (by decide:(!false)=true)];exact ab.o);clear hq2 am ab;go_wp2;go_roundw;exact ⟨i+1,so,l,by omega,by go_num,rfl,aa,bb,hW⟩;simp only [intOf];omega
      | true =>
       rw [hq2,if_neg (by decide)] at af;clear hq2 am;go_wp2_with fail;obtain⟨oa,on,oc⟩:=so;simp only at *;go_loopw [12] (fun pv wq=>∃p:Nat,p≤on∧pv=.int .i64 (p:Nat)∧wq=wr∧Hi (∀j,j<p→Fl.less (l.getD j Rx.zero).r.key x.r.key=true)) (fun pv _=>on-(intOf pv).toNat)
       case atStart=>exact ⟨0,Nat.zero_le _,rfl,rfl,fun j hj=>absurd hj (Nat.not_lt_zero _)⟩
       case round =>
        obtain⟨p,hp,rfl,rfl,ah⟩:=hrel;rcases Nat.lt_or_ge p on with ag | bf
        · (have j2:(p:Int)<(on:Int):=by omega);obtain⟨b2,o2,bg,bu⟩:=aa.o.rz.at' p ag;replace bg:oa=some ⟨b2,o2,none⟩:=bg;subst bg;have bl:=(aa.o.rz.fits _ (aa.o.rz.mem ag)).key;have y0:=bu.c0;obtain⟨y,hy⟩:∃y,y=l.getD p Rx.zero:=⟨_,rfl⟩;rw [← hy] at y0 bl;have br:=Zh hy;have av:=Zh (ZcG y.r.key x.r.key bl ar.o wr);have bz:=Zh (ZaX b2 o2 on oc p ag);clear bu bl hy;go_wp2_with fail;refine av.o.mono ?_;rintro e w4 ⟨rfl,cg⟩;obtain rfl:=cg.symm;cases hq3:Fl.less y.r.key x.r.key with
          | true =>
           have cc:Hi (∀j,j<p+1→Fl.less (l.getD j Rx.zero).r.key x.r.key=true):=by
            intro j hj;rcases Nat.lt_or_ge j p with h1 | h1
            · exact ah.o j h1
            · rw [show j=p by omega,← br.o];exact hq3
           clear hq3 av ah;go_wp2;go_roundw;exact ⟨p+1,by omega,by go_num,trivial,cc⟩;simp only [intOf];omega
          | false =>
           have ak:posK x.r.key (rws l)=p:=by
            refine ZiE (by rw [ZaR,aa.o.rz.len];exact hp) (fun j hj hl=>?_) (fun hl=>?_)
            · have:=ah.o j hj;rw [← ZcL] at this;simpa [List.getD,hl] using this
            · have:=hq3;rw [br.o,← ZcL] at this;simpa [List.getD,hl] using this
           have ax:=Zh ak;clear hq3 av ah ak y0;go_wp2_with fail;refine Pl.q9 (ops:=Pl.fd 11 f19) ?_;refine ZlX wr wr ⟨some ⟨b2,o2,none⟩,on,oc⟩ l aa.o (by show on+1≤_;omega) p hp b off A.length rc i ad x bo.o bp.o bq.o (Below.refl _ _) (by rfl) (by rfl) (by rfl) (by rfl) (by rfl) (by rfl) ?_;intro u s14 w9 al aj;simp only [Pl.pu,List.foldl,Act.put,List.setIfInBounds_toArray,List.set];have ay:=Zh al;have bd:=Zh (Zac hW.o aj);have ap:Hi (rws (l.take p ++ [x] ++ l.drop p)=Zax lo hi (A.take (i+1))):=by
            show _=_;rw [af.o,← ab.o];unfold insK;rw [ax.o];simp [rws,List.map_take,List.map_drop]
           clear al aj ab aa;unfold Sl.val;go_wp2;go_roundw;exact ⟨i+1,s14,_,by omega,by go_num,rfl,ay,ap,bd⟩;simp only [intOf];omega
        · (have j2:¬(p:Int)<(on:Int):=by omega);have ak:posK x.r.key (rws l)=p:=by
           refine ZiE (by rw [ZaR,aa.o.rz.len];exact hp) (fun j hj hl=>?_) (fun hl=>?_)
           · have:=ah.o j hj;rw [← ZcL] at this;simpa [List.getD,hl] using this
           · rw [ZaR,aa.o.rz.len] at hl;exact absurd hl (Nat.not_lt.2 bf)
          have ax:=Zh ak;clear ah ak;go_wp2_with fail;refine Pl.q9 (ops:=Pl.fd 11 f19) ?_;refine ZlX wr wr ⟨oa,on,oc⟩ l aa.o (by show on+1≤_;omega) p hp b off A.length rc i ad x bo.o bp.o bq.o (Below.refl _ _) (by rfl) (by rfl) (by rfl) (by rfl) (by rfl) (by rfl) ?_;intro u s14 w9 al aj;simp only [Pl.pu,List.foldl,Act.put,List.setIfInBounds_toArray,List.set];have ay:=Zh al;have bd:=Zh (Zac hW.o aj);have ap:Hi (rws (l.take p ++ [x] ++ l.drop p)=Zax lo hi (A.take (i+1))):=by
           show _=_;rw [af.o,← ab.o];unfold insK;rw [ax.o];simp [rws,List.map_take,List.map_drop]
          clear al aj ab aa;unfold Sl.val;go_wp2;go_roundw;exact ⟨i+1,s14,_,by omega,by go_num,rfl,ay,ap,bd⟩;simp only [intOf];omega
   · (have j1:¬(i:Int)<(A.length:Int):=by omega);(have e0:i=A.length:=by omega);have aq:Hi (Zep w (Zax lo hi A) (.returned (.slice so.a so.len so.cap)) wr):=by
      refine⟨Zac bw.o hW.o,so,l,rfl,aa.o,?_⟩;have:=ab.o;rw [e0,List.take_length] at this;exact this
     clear aa ab e0;go_wp2;go_ret;exact aq.o
theorem Zmq (n:Nat):madeCells (Value.int .i64 0).cells (n*1)=(Zan (List.replicate n 0)).toArray:=by
 apply Array.ext
 · simp [size_madeCells,Zan]
 · intro i h1 h2;simp [madeCells,Zan,Value.cells,Nat.mod_one]
theorem Zms (n:Nat)(hn:n≤1000000)(w:World):(Instr.makeSlice 29 (.int .i64 (n:Nat)) (.int .i64 (n:Nat))).run prog w=.ok (.slice (some ⟨w.heap.size,0,none⟩) n n) (w.alloc (.cells (Zan (List.replicate n 0)).toArray 3)):=by
 obtain⟨i0,hi,ab,aa,ac⟩:=info_parts ZeO;have h:=run_makeSlice (P:=prog) w 29 3 i0 (.int .i64 0) underlying29 hi ab .i64 .i64 (n:Nat) (n:Nat) (by omega) (by omega) (by rw [aa];simp;omega) (by rw [ac];simp;omega) (by omega);rw [aa,show (n:Int).toNat=n by omega,Zmq] at h;exact h
section
variable {ops : Array Oper} {rest : List Oper} {o : Oper} {a : Act} {Q : Exit → Act → World → Prop}
theorem Zjd (w:World)(ab:o.guard=none)(t:TypeId)(x y:Operand)(ho:o.op=.makeSlice t x y)(u u' v:Value)(hu:a.eval x=u)(hu':a.eval y=u')(w':World)(aa:(Instr.makeSlice t u u').run prog w=.ok v w')(hK:wpList prog ops Q rest (a.put o.dst v) w'):wpList prog ops Q (o :: rest) a w:=by
 refine Zc5 w ab v w' ?_ hK;have e:execOp a.eval o=(do pure (.value (← Instr.makeSlice t (a.eval x) (a.eval y)))):=by
  unfold execOp;rw [ho]
 rw [e,hu,hu'];simp [aa]
end
open Go.ChangeShapes Go.WideShapes Go.ChangeAt Go.RowKit
structure InI (w:World) (s:Sl) (t:List Int):Prop where
  len:t.length=s.len
  nil:s.a=none→s.cap=0
  le:s.len≤s.cap
  big:s.len≤9223372036854775807
  cell:∀i,i<s.len→∃b off,s.a=some ⟨b,off,none⟩∧w.cell? ⟨b,off+i,none⟩=some (.int .i64 (t.getD i 0))
theorem InI.gi {t:List Int}(h:InI w s t)(hl:s.len≤1000000):Gi (fun _=>True) w s t:=⟨h.len,h.nil,h.le,hl,fun _ _ _=>trivial,h.cell⟩
structure InS (w:World) (s:Sl) (l:List Sb):Prop where
  len:l.length=s.len
  nil:s.a=none→s.cap=0
  le:s.len≤s.cap
  big:s.len≤9223372036854775807
  cell:∀i,i<s.len→∃b off,s.a=some ⟨b,off,none⟩∧w.cell? ⟨b,off+i,none⟩=some (l.getD i Sb.zero).s.val
  bs:∀x∈l,Came w x.s.a x.s.len x.s.cap x.bs
theorem InS.gb {l:List Sb}(h:InS w s l)(hl:s.len≤1000)(hb:∀x∈l,x.s.len≤1000):Gb (fun _=>True) w s l:=
 ⟨h.len,h.nil,h.le,hl,fun _ _ _=>trivial,h.cell,fun x hx=>⟨⟨h.bs x hx,fun _ _ _=>trivial⟩,by have:=(h.bs x hx).bs.1;have:=hb x hx;omega⟩⟩
section
variable {H : Type} {enc : TypeId × Value → H} {w : World} {base : Nat} {spare : Nat → Bool} {held : Bool}
theorem ZkM {len:Nat}{y:DataW H × List MemPlace}(h:DataW.trod enc prog w base spare held n 29 [.slice a len cap]=some y):∃t,InI w ⟨a,len,cap⟩ t:=by
 (have hC:prog.cellsOf 3=1:=by kernel_rfl);rcases Go.Deep.open_slice1 underlying29 hC h with ⟨aa,_⟩ | ⟨x,l,c,m,k,V,D,Pl,aa,hb,hl,hm,ac,_,hx⟩
 · simp only [List.cons.injEq,Value.slice.injEq,and_true] at aa;obtain⟨rfl,rfl,rfl⟩:=aa;exact⟨[],⟨rfl,fun _=>rfl,Nat.le_refl _,Nat.zero_le _,fun j hj=>absurd hj (Nat.not_lt_zero _)⟩⟩
 · simp only [List.cons.injEq,Value.slice.injEq,and_true] at aa;obtain⟨rfl,rfl,rfl⟩:=aa;(have ae:len≤m:=by rw [ac];split <;> omega);have ad:0<len→x.spot=none:=by
    intro h0;have:=World.cell?_spot (hx 0 (by omega)).1;simpa [Addr.add] using this
   have each:∀i,i<len→∃b:Int,V i=.int .i64 b:=by
    intro i hi;obtain⟨k3,e3,_,w3⟩:=DataW.trod_int underlying3 (hx i (by omega)).2;exact⟨k3,by simpa using e3⟩
   obtain⟨f,hf⟩:=@Go.Deep.choose_lt Int ⟨0⟩ len _ each;refine⟨(List.range len).map f,⟨by simp,(fun e=>by cases e),hl,by show len≤_;unfold maxLen at hm;omega,?_⟩⟩;intro j hj;replace hj:j<len:=hj;have hc:=(hx j (by omega)).1;obtain⟨b,off,spot⟩:=x;have ab:spot=none:=ad (by omega);subst ab;refine⟨b,off,rfl,?_⟩;rw [Addr.add_lit] at hc;rw [hc,hf j hj];simp [List.getD,hj]
theorem Zok {len:Nat}{y:DataW H × List MemPlace}(h:DataW.trod enc prog w base spare held n 107 [.slice a len cap]=some y) :
    ∃xs,Came w a len cap xs:=by
  (have hC:prog.cellsOf 5=1:=by kernel_rfl);rcases Go.Deep.open_slice1 underlying107 hC h with ⟨aa,_⟩ | ⟨x,l,c,m,k,V,D,Pl,aa,hb,hl,hm,ac,_,hx⟩
  · simp only [List.cons.injEq,Value.slice.injEq,and_true] at aa;obtain⟨rfl,rfl,rfl⟩:=aa;exact⟨[],⟨⟨rfl,(fun u hu=>by cases hu),fun j hj=>by omega⟩,fun _=>rfl,Nat.le_refl _,by omega⟩⟩
  · simp only [List.cons.injEq,Value.slice.injEq,and_true] at aa;obtain⟨rfl,rfl,rfl⟩:=aa;(have ae:len≤m:=by rw [ac];split <;> omega);have ad:0<len→x.spot=none:=by
     intro h0;have:=World.cell?_spot (hx 0 (by omega)).1;simpa [Addr.add] using this
    have each:∀i,i<len→∃b:Nat,V i=.int .u8 (b:Int)∧b<256:=by
     intro i hi;obtain⟨k3,e3,_,w3⟩:=DataW.trod_int underlying5 (hx i (by omega)).2;have hb:=bounds_u8 w3;refine⟨k3.toNat,?_,by omega⟩;rw [Int.toNat_of_nonneg hb.1];simpa using e3
    obtain⟨f,hf⟩:=@Go.Deep.choose_lt Nat ⟨0⟩ len _ each;refine⟨(List.range len).map f,⟨⟨by simp,?_,?_⟩,(fun e=>by cases e),hl,by unfold maxLen at hm;omega⟩⟩
    · intro z hz;obtain⟨j,hj,rfl⟩:=List.mem_map.1 hz;exact(hf j (by simpa using hj)).2
    · intro j hj;have hc:=(hx j (by omega)).1;obtain⟨b,off,spot⟩:=x;have ab:spot=none:=ad (by omega);subst ab;refine⟨b,off,rfl,?_⟩;rw [Addr.add_lit] at hc;rw [hc,(hf j hj).1];simp [List.getD,hj]
theorem ZkO {len:Nat}{y:DataW H × List MemPlace}(h:DataW.trod enc prog w base spare held n 99 [.slice a len cap]=some y):∃l,InS w ⟨a,len,cap⟩ l:=by
 (have hC:prog.cellsOf 107=1:=by kernel_rfl);rcases Go.Deep.open_slice1 underlying99 hC h with ⟨aa,_⟩ | ⟨x,l,c,m,k,V,D,Pl,aa,hb,hl,hm,ad,_,hx⟩
 · simp only [List.cons.injEq,Value.slice.injEq,and_true] at aa;obtain⟨rfl,rfl,rfl⟩:=aa;exact⟨[],⟨rfl,fun _=>rfl,Nat.le_refl _,Nat.zero_le _,fun j hj=>absurd hj (Nat.not_lt_zero _),fun x hx=>(by cases hx)⟩⟩
 · simp only [List.cons.injEq,Value.slice.injEq,and_true] at aa;obtain⟨rfl,rfl,rfl⟩:=aa;(have af:len≤m:=by rw [ad];split <;> omega);have ae:0<len→x.spot=none:=by
    intro h0;have:=World.cell?_spot (hx 0 (by omega)).1;simpa [Addr.add] using this
   have each:∀i,i<len→∃t:Sb,V i=t.s.val∧Came w t.s.a t.s.len t.s.cap t.bs:=by
    intro i hi;have t2:=(hx i (by omega)).2;obtain⟨a',len',cap',e4⟩:=Go.Joins.slice_form underlying107 t2;simp only [List.cons.injEq,and_true] at e4;rw [e4] at t2;obtain⟨bs,ac⟩:=Zok t2;exact⟨⟨⟨a',len',cap'⟩,bs⟩,e4,ac⟩
   obtain⟨f,hf⟩:=@Go.Deep.choose_lt Sb ⟨Sb.zero⟩ len _ each;refine⟨(List.range len).map f,⟨by simp,(fun e=>by cases e),hl,by show len≤_;unfold maxLen at hm;omega,?_,?_⟩⟩
   · intro j hj;replace hj:j<len:=hj;have hc:=(hx j (by omega)).1;obtain⟨b,off,spot⟩:=x;have ab:spot=none:=ae (by omega);subst ab;refine⟨b,off,rfl,?_⟩;rw [Addr.add_lit] at hc;rw [hc,(hf j hj).1];simp [List.getD,hj]
   · intro t ht;obtain⟨j,hj,rfl⟩:=List.mem_map.1 ht;exact(hf j (by simpa using hj)).2
end
def ZdU (u v:Sl) (l:List Sb):Prop:=v.len≤80∧u.len≤20∧∀x∈l,x.s.len≤600
def Zlu (u v:Sl) (l:List Sb) (e:Ending):Prop:=e=.returned (.bool false)∨(ZdU u v l∧e=.returned (.bool true))
theorem Zmn (w:World)(u v:Sl)(l:List Sb)(hg:InS w v l)(hu:u.len≤9223372036854775807) :
    Calls prog 57 #[lfV u v] w fun e w'=>Zlu u v l e∧Bl w w':=by
  obtain⟨a,len,cap⟩:=v;obtain⟨ua,ul,uc⟩:=u;have hl:l.length=len:=hg.len;have ag:len≤9223372036854775807:=hg.big;have hA:=Zab w (.cells #[.slice ua ul uc,.slice a len cap] 101);have HG:Hi (∀i,i<len→∃b off,a=some ⟨b,off,none⟩∧(w.alloc (.cells #[.slice ua ul uc,.slice a len cap] 101)).cell? ⟨b,off+i,none⟩=some (l.getD i Sb.zero).s.val):=by
   intro i hi;obtain⟨b,off,ha,hc⟩:=hg.cell i hi;exact⟨b,off,ha,Zaf hc hA⟩
  have HM:Hi (∀i,i<len→(l.getD i Sb.zero).s.len≤9223372036854775807):=fun i hi=>(hg.bs _ (Zhl (by omega))).big;have HA:=Zh hA;have HL:=Zh hl;clear hg hl hA;unfold lfV Sl.val;simp only at *;go_enter func57,ntmps57;go_wp2_with fail;go_loopw [3] (fun iv wr=>wr=w.alloc (.cells #[.slice ua ul uc,.slice a len cap] 101)∧∃i:Nat,i≤len∧i≤80∧iv=.int .i64 (i:Nat)∧Hi (∀j,j<i→(l.getD j Sb.zero).s.len≤600)) (fun iv _=>80-(intOf iv).toNat)
  case atStart=>exact ⟨rfl,0,Nat.zero_le _,Nat.zero_le _,rfl,fun _ h=>absurd h (Nat.not_lt_zero _)⟩
  case round =>
   obtain⟨rfl,i,hi,ai,rfl,ab⟩:=hrel;have aa:Hi (len≤80→i=len→ul≤20→ZdU ⟨ua,ul,uc⟩ ⟨a,len,cap⟩ l):=by
    intro h1 h2 h3;refine⟨h1,h3,fun x hx=>?_⟩;obtain⟨j,hj,rfl⟩:=ZpI hx;exact ab.o j (by rw [HL.o] at hj;omega)
   rcases Nat.lt_or_ge i len with ae | ah
   · (have i1:(i:Int)<(len:Int):=by omega);rcases Nat.lt_or_ge i 80 with h8 | h8
     · (have i8:(i:Int)<80:=by omega);obtain⟨bb,oo,ha,c0⟩:=HG.o i ae;subst ha;have af:=HM.o i ae;obtain⟨⟨sa,sn,sc⟩,ad⟩:∃s,s=(l.getD i Sb.zero).s:=⟨_,rfl⟩;rw [← ad] at c0 af;(have ac:Hi ((l.getD i Sb.zero).s.len=sn):=by show _=_;rw [← ad]);unfold Sl.val at c0;simp only at c0 af;clear ad;by_cases h6:600<sn
       · (have i6:(600:Int)<(sn:Int):=by omega);clear ab aa ac;go_wp2;go_ret;exact⟨.inl rfl,HA.o⟩
       · (have i6:¬(600:Int)<(sn:Int):=by omega);have HS:Hi (∀j,j<i+1→(l.getD j Sb.zero).s.len≤600):=by
          intro j hj;by_cases e:j=i
          · rw [e,ac.o];omega
          · exact ab.o j (by omega)
         clear ab aa ac;go_wp2;go_roundw;exact ⟨trivial,i+1,by omega,by omega,by go_num,HS⟩;simp only [intOf];omega
     · (have i8:¬(i:Int)<80:=by omega);(have i9:¬(len:Int)≤80:=by omega);clear ab aa;go_wp2;go_ret;exact⟨.inl rfl,HA.o⟩
   · (have i1:¬(i:Int)<(len:Int):=by omega);(have i9:(len:Int)≤80:=by omega);by_cases h2:ul≤20
     · (have i2:(ul:Int)≤20:=by omega);have HP:=Zh (aa.o (by omega) (by omega) h2);clear ab aa;go_wp2;go_ret;exact⟨.inr ⟨HP.o,rfl⟩,HA.o⟩
     · (have i2:¬(ul:Int)≤20:=by omega);clear ab aa;go_wp2;go_ret;exact⟨.inl rfl,HA.o⟩
open Go.ChangeShapes Go.WideShapes Go.ChangeAt Go.RowKit
structure InL (w:World) (s:Sl) (L:List Lb):Prop where
  len:L.length=s.len
  nil:s.a=none→s.cap=0
  le:s.len≤s.cap
  big:s.len≤9223372036854775807
  cell:∀i,i<s.len→∃b off,s.a=some ⟨b,off,none⟩∧w.cell? ⟨b,off+i*2,none⟩=some (L.getD i Lb.zero).u.val∧w.cell? ⟨b,off+i*2+1,none⟩=some (L.getD i Lb.zero).v.val
  it:∀x∈L,InI w x.u x.t∧InS w x.v x.l
theorem InL.gl (h:InL w s L)(hl:s.len≤8)(hp:∀x∈L,ZdU x.u x.v x.l):Gl (fun _=>True) w s L:=
 ⟨h.len,h.nil,h.le,by omega,fun _ _ _=>trivial,h.cell,fun x hx=>⟨(h.it x hx).1.gi (by have:=(hp x hx).2.1;omega),(h.it x hx).2.gb (by have:=(hp x hx).1;omega) (fun y hy=>by have:=(hp x hx).2.2 y hy;omega)⟩⟩
section
variable {H : Type} {enc : TypeId × Value → H} {w : World} {base : Nat} {spare : Nat → Bool} {held : Bool}
theorem Zk7 {c0 c1:Value}{y:DataW H × List MemPlace}(hf:DataW.trod enc prog w base spare held k 101 [c0,c1]=some y) :
    ∃x:Lb,[c0,c1]=[x.u.val,x.v.val]∧InI w x.u x.t∧InS w x.v x.l:=by
  (have h1:prog.cellsOf 29=1:=by kernel_rfl);(have h2:prog.cellsOf 99=1:=by kernel_rfl);obtain⟨xs,n,_,_,_,aa,ab⟩:=DataW.trod_struct underlying101 hf
  match xs,aa with
  | [y0,y1],_ =>
   (have t0:DataW.trod enc prog w base spare held n 29 [c0]=some y0:=by simpa [Value.cells,h1] using ab 0 _ rfl);(have t1:DataW.trod enc prog w base spare held n 99 [c1]=some y1:=by simpa [Value.cells,h2] using ab 1 _ rfl);obtain⟨a,len,cap,e0⟩:=Go.Joins.slice_form underlying29 t0;obtain⟨a',len',cap',e1⟩:=Go.Joins.slice_form underlying99 t1;simp only [List.cons.injEq,and_true] at e0 e1;subst e0 e1;obtain⟨t,ht⟩:=ZkM t0;obtain⟨l,hl⟩:=ZkO t1;exact⟨⟨⟨a,len,cap⟩,⟨a',len',cap'⟩,t,l⟩,rfl,ht,hl⟩
theorem Zi9 {len:Nat}{y:DataW H × List MemPlace}(h:DataW.trod enc prog w base spare held n 26 [.slice a len cap]=some y) :
    ∃L,InL w ⟨a,len,cap⟩ L:=by
  (have hC:prog.cellsOf 101=2:=by kernel_rfl);rcases Go.Deep.open_slice underlying26 h with ⟨ac,_⟩ | ⟨x,l,c,m,k,D,Pl,ac,hb,hl,hm,ag,_,hx⟩
  · simp only [List.cons.injEq,Value.slice.injEq,and_true] at ac;obtain⟨rfl,rfl,rfl⟩:=ac;exact⟨[],⟨rfl,fun _=>rfl,Nat.le_refl _,Nat.zero_le _,(fun j hj=>absurd hj (Nat.not_lt_zero _)),fun x hx=>by cases hx⟩⟩
  · simp only [List.cons.injEq,Value.slice.injEq,and_true] at ac;obtain⟨rfl,rfl,rfl⟩:=ac;(have ai:len≤m:=by rw [ag];split <;> omega);have ah:0<len→x.spot=none:=by
     intro h0;obtain⟨cs,h1,_⟩:=hx 0 (by omega);rw [hC] at h1;obtain⟨_,ab,hc⟩:=World.cells?_some h1
     match cs,ab with
     | [c0,c1],_ =>
      have e0:=hc 0 (by omega);have:=World.cell?_spot (by simpa using e0);simpa [Addr.add] using this
    have each:∀i,i<len→∃t:Lb,∃b off,x=⟨b,off,none⟩∧w.cell? ⟨b,off+i*2,none⟩=some t.u.val∧w.cell? ⟨b,off+i*2+1,none⟩=some t.v.val∧InI w t.u t.t∧InS w t.v t.l:=by
     intro i hi;obtain⟨cs,g1,g2⟩:=hx i (by omega);rw [hC] at g1;obtain⟨_,ab,hc⟩:=World.cells?_some g1
     match cs,ab with
     | [c0,c1],_ =>
      obtain⟨t,ht,ae,af⟩:=Zk7 g2;have aa:x.spot=none:=ah (by omega);obtain⟨b,off,spot⟩:=x;simp only at aa;subst aa;simp only [List.cons.injEq,and_true] at ht;have e0:=hc 0 (by omega);have e1:=hc 1 (by omega);simp only [Addr.add_lit] at e0 e1;refine⟨t,b,off,rfl,?_,?_,ae,af⟩
      · rw [← ht.1];simpa using e0
      · rw [← ht.2];simpa using e1
    obtain⟨f,hf⟩:=@Go.Deep.choose_lt Lb ⟨Lb.zero⟩ len _ each;(have ad:∀j,j<len→((List.range len).map f).getD j Lb.zero=f j:=fun j hj=>by simp [List.getD,hj]);refine⟨(List.range len).map f,⟨by simp,(fun e=>by cases e),hl,by show len≤_;unfold maxLen at hm;omega,fun j hj=>?_,fun t ht=>?_⟩⟩
    · replace hj:j<len:=hj;obtain⟨b,off,rfl,e0,e1,_⟩:=hf j hj;refine⟨b,off,rfl,?_,?_⟩
      · rw [ad j hj];exact e0
      · rw [ad j hj];exact e1
    · obtain⟨j,hj,rfl⟩:=List.mem_map.1 ht;obtain⟨_,_,_,_,_,h1,h2⟩:=hf j (by simpa using hj);exact⟨h1,h2⟩
end
def ZjT (s:Sl) (L:List Lb) (e:Ending):Prop:=e=.returned (.bool false)∨(s.len≤8∧(∀x∈L,ZdU x.u x.v x.l)∧e=.returned (.bool true))
theorem ZkB (w:World)(s:Sl)(L:List Lb)(h:InL w s L) :
    Calls prog 26 #[s.val] w fun e w'=>ZjT s L e∧Bl w w':=by
  obtain⟨a,len,cap⟩:=s;have HL:Hi (L.length=len):=h.len;have ai:len≤9223372036854775807:=h.big;have H:=Zh h;have ag:=Zh (fun (w':World) (hb:Bl w w') (x:Lb) (hx:x∈L)=>Zmn w' x.u x.v x.l ⟨(h.it x hx).2.len,(h.it x hx).2.nil,(h.it x hx).2.le,(h.it x hx).2.big,fun i hi=>by obtain ⟨b,off,ha,hc⟩:=(h.it x hx).2.cell i hi;exact ⟨b,off,ha,Zaf hc hb⟩,fun y hy=>((h.it x hx).2.bs y hy).keep hb (Nat.le_refl _)⟩ (h.it x hx).1.big);clear h;unfold Sl.val;simp only;go_enter func26,ntmps26;go_wp2_with fail;go_loopw [3] (fun iv wr=>∃i:Nat,i≤len∧i≤8∧iv=.int .i64 (i:Nat)∧Hi (∀j,j<i→ZdU (L.getD j Lb.zero).u (L.getD j Lb.zero).v (L.getD j Lb.zero).l)∧Hi (Bl w wr)) (fun iv _=>8-(intOf iv).toNat)
  case atStart=>exact ⟨0,Nat.zero_le _,Nat.zero_le _,rfl,(fun _ h=>absurd h (Nat.not_lt_zero _)),Below.refl _ _⟩
  case round =>
   obtain⟨i,hi,am,rfl,aa,hW⟩:=hrel;rcases Nat.lt_or_ge i len with af | al
   · (have i1:(i:Int)<(len:Int):=by omega);rcases Nat.lt_or_ge i 8 with h8 | h8
     · (have i8:(i:Int)<8:=by omega);obtain⟨b,off,ha,c0,c1⟩:=H.o.cell i af;replace ha:a=some ⟨b,off,none⟩:=ha;subst ha;have ab:L.getD i Lb.zero∈L:=Zhm (by rw [HL.o];exact af);have ae:=ag.o wr hW.o _ ab;obtain⟨x,hx⟩:∃x,x=L.getD i Lb.zero:=⟨_,rfl⟩;rw [← hx] at c0 c1 ae;have ah:=Zh hx;obtain⟨⟨ua,un,uc⟩,⟨va,vn,vc⟩,xt,xl⟩:=x;have d0:=Zaf c0 hW.o;have d1:=Zaf c1 hW.o;have ad:=Zh ae;have ak:=Zh (Zde b off len cap i af);unfold Sl.val at d0 d1;unfold lfV Sl.val at ad;simp only at d0 d1 ad;clear c0 c1 ae hx ab;go_wp2_with fail;refine ad.o.mono ?_;rintro e w1 ⟨hl | ⟨hp,hl⟩,ac⟩
       · subst hl;have HB:=Zh (Zac hW.o ac);clear ac aa;go_wp2;go_ret;exact⟨.inl rfl,HB.o⟩
       · subst hl;have HB:=Zh (Zac hW.o ac);have HS:Hi (∀j,j<i+1→ZdU (L.getD j Lb.zero).u (L.getD j Lb.zero).v (L.getD j Lb.zero).l):=by
          intro j hj;rcases Nat.lt_or_ge j i with h1 | h1
          · exact aa.o j h1
          · (obtain rfl:j=i:=by omega);rw [← ah.o];exact hp
         clear ac aa hp;go_wp2;go_roundw;exact ⟨i+1,by omega,by omega,by go_num,HS,HB⟩;simp only [intOf];omega
     · (have i8:¬(i:Int)<8:=by omega);(have i9:¬(len:Int)≤8:=by omega);clear aa;go_wp2;go_ret;exact⟨.inl rfl,hW.o⟩
   · (have i1:¬(i:Int)<(len:Int):=by omega);(have i9:(len:Int)≤8:=by omega);have HA:Hi (∀x∈L,ZdU x.u x.v x.l):=by
      intro x hx;obtain⟨j,hj,rfl⟩:=List.getElem_of_mem hx;have:=aa.o j (by rw [HL.o] at hj;omega);simpa [List.getD,hj] using this
     (have aj:len≤8:=by omega);clear aa;go_wp2;go_ret;exact⟨.inr ⟨aj,HA.o,rfl⟩,hW.o⟩
def Zpi (l:List Lf) (e:Ending):Prop:=(MayH l∧e=.returned (.int .i64 0))∨(¬MayH l∧e=.returned (.int .i64 1))
def ZaH (n:Nat):List Lf:=List.replicate n ⟨[0,0,0,0],[]⟩
theorem Zj6 (n a:Nat):(lf (ZaH n) a).slots=[]:=by
 unfold lf ZaH;rcases Nat.lt_or_ge a n with h | h
 · simp [List.getD,h]
 · simp [List.getD,h,Lf.zero]
theorem Zd5 (n a b:Nat):cellH (ZaH n) a b=[]:=by
 unfold cellH;rw [Zj6];rfl
theorem ZkE:MayL ⟨[0,0,0,0],[]⟩:=by
 refine⟨⟨rfl,?_,?_⟩,⟨by simp,(fun i hi=>absurd hi (Nat.not_lt_zero _)),fun h=>absurd rfl h⟩,by decide⟩
 · intro i hi;(have:i=0∨i=1∨i=2∨i=3:=by omega);rcases this with rfl | rfl | rfl | rfl <;> decide
 · intro i hi k hk h;(have:k=0∨k=1∨k=2∨k=3:=by omega);rcases this with rfl | rfl | rfl | rfl <;> exact absurd rfl h
theorem Zc1 (h1:1≤n)(h2:n≤62):MayH (ZaH n):=by
 refine Zdm.2 ⟨fun f hf=>?_,fun a b h=>absurd (Zd5 n a b) h,fun a b a' b' r r' h=>?_,?_,?_⟩
 · rw [(List.mem_replicate.1 hf).2];exact ZkE
 · rw [Zd5,ZcX] at h;cases h
 · unfold ZaH;rw [List.length_replicate];exact h1
 · unfold ZaH;rw [List.length_replicate];exact h2
structure EmI (w0 w:World) (s:Sl) (L:List Lb):Prop where
  own:OwnL w s L
  new:∀k,s.blk=some k→w0.heap.size≤k
  below:Bl w0 w
  it:∀x∈L,x.v=Sl.nil∧x.l=[]∧x.t=[0,0,0,0]∧∃g,x.u=⟨some ⟨g,0,none⟩,4,4⟩∧w.heap[g]? = some (Obj.cells (Zan [0,0,0,0]).toArray 3 (0,0))
theorem EmI.lfs (h:EmI w0 w s L):lfs L=ZaH L.length:=by
 unfold Go.Proofs.YtiecfcjlhldhdaaGreat.lfs ZaH;rw [List.eq_replicate_iff];refine⟨by simp,fun f hf=>?_⟩;obtain⟨x,hx,rfl⟩:=List.mem_map.1 hf;obtain⟨_,h2,h3,_⟩:=h.it x hx;unfold Lb.lf;rw [h2,h3];rfl
theorem EmI.gl (h:EmI w0 w s L)(hm:s.len≤900):Gl (fun _=>True) w s L:=by
 refine h.own.gl hm (fun _ _=>trivial) (fun x hx=>?_);obtain⟨h1,h2,h3,g,h4,h5⟩:=h.it x hx;rw [h1,h2,h3,h4];refine⟨⟨rfl,(fun e=>by cases e),Nat.le_refl _,by show 4≤1000000;decide,fun _ _ _=>trivial,fun i hi=>⟨g,0,rfl,?_⟩⟩,Gb.none w⟩;(have aa:i=0∨i=1∨i=2∨i=3:=by have:i<4:=hi;omega);rcases aa with rfl | rfl | rfl | rfl <;> (rw [cell_of_row _ _ _ _ _ _ h5];rfl)
theorem EmI.start (w:World):EmI w (w.alloc (.cells #[] 101)) ⟨some ⟨w.heap.size,0,none⟩,0,0⟩ []:=by
 refine⟨OwnL.new0 w,fun k hk=>?_,Zab w _,fun x hx=>by cases hx⟩;have e:some w.heap.size=some k:=hk;cases e;exact Nat.le_refl _
theorem EmI.one (h:EmI w0 w s L)(hl:L.length+1≤900) :
    ∃s' W,(∀ty,(Builtin.append_ #[26,26] ty #[s.val,.slice (some ⟨w.heap.size+1,0,none⟩) 1 1]).run prog ((w.alloc (.cells (Zan [0,0,0,0]).toArray 3)).alloc (.cells #[.slice (some ⟨w.heap.size,0,none⟩) 4 4,.slice none 0 0] 101))=.ok s'.val W)∧EmI w0 W s' (L ++ [⟨⟨some ⟨w.heap.size,0,none⟩,4,4⟩,Sl.nil,[0,0,0,0],[]⟩]):=by
  have hA:=Zab w (.cells (Zan [0,0,0,0]).toArray 3);have hB:=Zab (w.alloc (.cells (Zan [0,0,0,0]).toArray 3)) (.cells #[.slice (some ⟨w.heap.size,0,none⟩) 4 4,.slice none 0 0] 101);have ac:=Zac hA hB;have hk:OwnL ((w.alloc (.cells (Zan [0,0,0,0]).toArray 3)).alloc (.cells #[.slice (some ⟨w.heap.size,0,none⟩) 4 4,.slice none 0 0] 101)) s L:=Own.frame h.own (fun k hk=>ac.block k (Own.lt h.own hk));have hn:=heap_alloc_new w (.cells (Zan [0,0,0,0]).toArray 3);have ak:((w.alloc (.cells (Zan [0,0,0,0]).toArray 3)).alloc (.cells #[.slice (some ⟨w.heap.size,0,none⟩) 4 4,.slice none 0 0] 101)).heap[w.heap.size]? = some (Obj.cells (Zan [0,0,0,0]).toArray 3 (0,0)):=(hB.block _ (by rw [Zae];omega)).trans hn;have ah:=heap_alloc_new (w.alloc (.cells (Zan [0,0,0,0]).toArray 3)) (.cells #[.slice (some ⟨w.heap.size,0,none⟩) 4 4,.slice none 0 0] 101);rw [Zae] at ah;have ae:Src prog 2 26 (.slice (some ⟨w.heap.size+1,0,none⟩) 1 1) 1 (Za3 [⟨⟨some ⟨w.heap.size,0,none⟩,4,4⟩,Sl.nil,[0,0,0,0],[]⟩]) ((w.alloc (.cells (Zan [0,0,0,0]).toArray 3)).alloc (.cells #[.slice (some ⟨w.heap.size,0,none⟩) 4 4,.slice none 0 0] 101)):=by
   refine Src.ofSlice _ underlying26 ⟨w.heap.size+1,0,none⟩ 1 1 _ rfl (fun j u hj=>?_) (Zd7 _);rw [Addr.add_lit,cell_of_row _ _ _ _ _ _ ah];simpa [Za3,Sl.val,Sl.nil] using hj
  obtain⟨s',W,ad,ho,aj,ag,ai⟩:=Zaz underlying26 ZoV rfl (by decide) _ s (Za3 L) hk (Zd7 L) _ 1 _ ae (by rw [← OwnL.len h.own];omega) 0;have aa:∀g:Nat,((w.alloc (.cells (Zan [0,0,0,0]).toArray 3)).alloc (.cells #[.slice (some ⟨w.heap.size,0,none⟩) 4 4,.slice none 0 0] 101)).heap[g]? = some (Obj.cells (Zan [0,0,0,0]).toArray 3 (0,0))→W.heap[g]? = some (Obj.cells (Zan [0,0,0,0]).toArray 3 (0,0)):=by
   intro g hg;refine(ag.block g (Array.getElem?_eq_some_iff.1 hg).1 (fun e=>?_)).trans hg;obtain⟨cur,ab⟩:=Own.kind hk e;rw [hg] at ab;simp only [Option.some.injEq,Obj.cells.injEq] at ab;exact absurd ab.2.1 (by decide)
  refine⟨s',W,fun ty=>ad,⟨by unfold OwnL;rw [Zgm];exact ho,fun k e=>?_,?_,fun x hx=>?_⟩⟩
  · rcases ai with e' | ⟨e',_⟩
    · exact h.new k (by rw [← e'];exact e)
    · rw [e'] at e;cases e;have:=h.below.size;rw [Zae,Zae];omega
  · have af:Bl w0 ((w.alloc (.cells (Zan [0,0,0,0]).toArray 3)).alloc (.cells #[.slice (some ⟨w.heap.size,0,none⟩) 4 4,.slice none 0 0] 101)):=Zac h.below ac;exact af.trans (ag.below af.size (fun k e=>h.new k e))
  · rcases List.mem_append.1 hx with hx | hx
    · obtain⟨h1,h2,h3,g,h4,h5⟩:=h.it x hx;exact⟨h1,h2,h3,g,h4,aa g ((ac.block g (Array.getElem?_eq_some_iff.1 h5).1).trans h5)⟩
    · rw [List.mem_singleton.1 hx];exact⟨rfl,rfl,rfl,w.heap.size,rfl,aa _ ak⟩
def ZoH (w:World) (n:Nat) (e:Ending) (w':World):Prop:=∃(s:Sl) (L:List Lb),e=.returned (.slice s.a s.len s.cap)∧EmI w w' s L∧L.length=n
theorem ZdB (w:World)(n:Nat)(hn:n≤800) :
    Calls prog 59 #[.int .i64 (n:Int)] w (ZoH w n):=by
  have HS:=Zh (EmI.start w);go_enter func59,ntmps59;go_wp2_with fail;generalize w.alloc (.cells #[] 101)=W0 at *;go_loopw [3,4] (fun v iv wr=>∃(i:Nat) (s:Sl) (L:List Lb),i≤n∧iv=.int .i64 (i:Nat)∧v=.slice s.a s.len s.cap∧Hi (EmI w wr s L)∧Hi (L.length=i)) (fun _ iv _=>n-(intOf iv).toNat)
  case atStart=>exact ⟨0,_,[],Nat.zero_le _,rfl,rfl,HS,rfl⟩
  case round =>
   obtain⟨i,s,L,hi,rfl,rfl,hE,hL⟩:=hrel;rcases Nat.lt_or_ge i n with ai | ah
   · (have j1:(i:Int)<(n:Int):=by omega);obtain⟨s',W,aa,ac⟩:=hE.o.one (by rw [hL.o];omega);have HR:=Zh aa;have ae:=Zh ac;(have af:Hi ((L ++ [(⟨⟨some ⟨wr.heap.size,0,none⟩,4,4⟩,Sl.nil,[0,0,0,0],[]⟩:Lb)]).length=i+1):=by show _=_;rw [List.length_append,hL.o];rfl);have ad:=Zms 4 (by decide) wr;have ag:=Zh ad;unfold Sl.val at HR;clear aa ac hE ad;go_wp2_with (first | refine Zjd _ rfl 29 (.const (.int .i64 4)) (.const (.int .i64 4)) rfl (.int .i64 4) (.int .i64 4) (.slice (some ⟨wr.heap.size,0,none⟩) 4 4) rfl rfl _ ag.o ?_ | (at_builtin;refine Zaq _ rfl 26 (.tmp 11) (.tmp 14) rfl (.slice s.a s.len s.cap) (.slice (some ⟨wr.heap.size+1,0,none⟩) 1 1) (.slice s'.a s'.len s'.cap) rfl rfl W HR.o ?_));go_roundw;exact ⟨i+1,s',_,by omega,by go_num,rfl,ae,af⟩;simp only [intOf];omega
   · (have j1:¬(i:Int)<(n:Int):=by omega);(have e0:i=n:=by omega);have ab:Hi (ZoH w n (.returned (.slice s.a s.len s.cap)) wr):=⟨s,L,rfl,hE.o,by rw [hL.o,e0]⟩;clear hE hL e0;go_wp2;go_ret;exact ab.o
theorem Zk0 (hm:r.may=true):insA [] (hpB r)=⟨[hpB r],0,0⟩:=by
 have h:=ZeN hm;unfold insA;rw [if_neg (by omega)];have e:insS [] (hpB r)=[hpB r]:=rfl;rw [e,if_neg (by simp [need,needS,h])];rfl
theorem Zm9 (h1:1≤n)(h2:n≤62)(hm:r.may=true)(hw:r.wr≠0):ZgM (ZaH n) r [] 0:=by
 have hn:findH (ZaH n) r.key=none:=ZdC.2 (fun a b q hq=>by rw [Zd5,ZcX] at hq;cases hq);(have h0:(insA (lf (ZaH n) 0).slots (hpB r)).e=0:=by rw [Zj6,Zk0 hm]);rcases ZpW (Zc1 h1 h2) hm hw hn with ⟨hr,_⟩ | ⟨i,p⟩
 · exact absurd h0 (Zc2.1 hr 0 (by unfold ZaH;rw [List.length_replicate];exact h1))
 · obtain⟨_,_,_,h4⟩:=ZbH p.room;cases i with
   | zero=>exact p
   | succ i=>exact absurd h0 (h4 0 (by omega))
theorem Zj0 (w:World)(x:Rx)(b:Bt) :
    ∃Wa W,(Instr.storeAt 39 (.pointer (some ⟨w.heap.size,0,none⟩)) (.agg #[.float .f64 x.r.key,.bool x.r.dead,.slice x.a x.n x.c,.int .i64 x.r.wr,.int .i64 x.r.cell,.int .i64 x.r.no])).run prog ((w.alloc (.cells #[.float .f64 0,.bool false,.slice none 0 0,.int .i64 0,.int .i64 0,.int .i64 0] 39)).alloc (.cells #[.int .i64 0,.int .i64 0] 67))=.ok () Wa ∧
     (Instr.storeAt 67 (.pointer (some ⟨w.heap.size+1,0,none⟩)) (.agg #[.int .i64 b.1,.int .i64 b.2])).run prog Wa=.ok () W∧RwBlk W w.heap.size x.r (.slice x.a x.n x.c)∧BtBlk W (w.heap.size+1) b∧Bl w W∧(Fs w x.a x.n x.c x.r.xs→Fs W x.a x.n x.c x.r.xs):=by
 have al:=Zab w (.cells #[.float .f64 0,.bool false,.slice none 0 0,.int .i64 0,.int .i64 0,.int .i64 0] 39);have ai:=Zab (w.alloc (.cells #[.float .f64 0,.bool false,.slice none 0 0,.int .i64 0,.int .i64 0,.int .i64 0] 39)) (.cells #[.int .i64 0,.int .i64 0] 67);have ak:RwBlk ((w.alloc (.cells #[.float .f64 0,.bool false,.slice none 0 0,.int .i64 0,.int .i64 0,.int .i64 0] 39)).alloc (.cells #[.int .i64 0,.int .i64 0] 67)) w.heap.size zeroR (.slice none 0 0):=(Zai w zeroR (.slice none 0 0)).keep ai;have aj:BtBlk ((w.alloc (.cells #[.float .f64 0,.bool false,.slice none 0 0,.int .i64 0,.int .i64 0,.int .i64 0] 39)).alloc (.cells #[.int .i64 0,.int .i64 0] 67)) (w.heap.size+1) (0,0):=by
  have:=Zbv (w.alloc (.cells #[.float .f64 0,.bool false,.slice none 0 0,.int .i64 0,.int .i64 0,.int .i64 0] 39)) (0,0);rwa [Zae] at this
 (have am:((w.alloc (.cells #[.float .f64 0,.bool false,.slice none 0 0,.int .i64 0,.int .i64 0,.int .i64 0] 39)).alloc (.cells #[.int .i64 0,.int .i64 0] 67)).heap.size=w.heap.size+2:=by rw [Zae,Zae]);have ad:=Zen _ w.heap.size _ _ ak x.r x.a x.n x.c;have aa:=ZaE ((w.alloc (.cells #[.float .f64 0,.bool false,.slice none 0 0,.int .i64 0,.int .i64 0,.int .i64 0] 39)).alloc (.cells #[.int .i64 0,.int .i64 0] 67)) w.heap.size x.r (.slice x.a x.n x.c);have ah:=Za5 ak x.r (.slice x.a x.n x.c);have ac:BtBlk (setRw ((w.alloc (.cells #[.float .f64 0,.bool false,.slice none 0 0,.int .i64 0,.int .i64 0,.int .i64 0] 39)).alloc (.cells #[.int .i64 0,.int .i64 0] 67)) w.heap.size x.r (.slice x.a x.n x.c)) (w.heap.size+1) (0,0):=(aa.block _ aj.lt (by omega)).trans aj;have af:Bl w (setRw ((w.alloc (.cells #[.float .f64 0,.bool false,.slice none 0 0,.int .i64 0,.int .i64 0,.int .i64 0] 39)).alloc (.cells #[.int .i64 0,.int .i64 0] 67)) w.heap.size x.r (.slice x.a x.n x.c)):=(Zac al ai).trans (aa.below (by omega) (fun k hk=>by rw [hk];exact Nat.le_refl _));have ae:=Zfm _ (w.heap.size+1) _ ac b;have ab:=ZaD (setRw ((w.alloc (.cells #[.float .f64 0,.bool false,.slice none 0 0,.int .i64 0,.int .i64 0,.int .i64 0] 39)).alloc (.cells #[.int .i64 0,.int .i64 0] 67)) w.heap.size x.r (.slice x.a x.n x.c)) (w.heap.size+1) b;have ag:=af.trans (ab.below af.size (fun k hk=>by rw [hk];omega));refine⟨_,_,ad,ae,(ab.block _ (Array.getElem?_eq_some_iff.1 ah).1 (by omega)).trans ah,ZaW ac b,ag,fun h=>h.keep ag (Nat.le_refl _)⟩
theorem ZlQ (w:World)(x:Rx) :
    ∃W,(Instr.storeAt 39 (.pointer (some ⟨w.heap.size,0,none⟩)) (.agg #[.float .f64 x.r.key,.bool x.r.dead,.slice x.a x.n x.c,.int .i64 x.r.wr,.int .i64 x.r.cell,.int .i64 x.r.no])).run prog (w.alloc (.cells #[.float .f64 0,.bool false,.slice none 0 0,.int .i64 0,.int .i64 0,.int .i64 0] 39))=.ok () W∧RwBlk W w.heap.size x.r (.slice x.a x.n x.c)∧Bl w W:=
  ⟨_,Zcq x.r.key x.r.dead x.a x.n x.c x.r.wr x.r.cell x.r.no w,Zai w x.r (.slice x.a x.n x.c),Zab w _⟩
theorem Zli {y:Rx}(h:x.r=y.r)(w:World)(hx:Fs w x.a x.n x.c x.r.xs)(hy:Fs w y.a y.n y.c y.r.xs):Calls prog 13 #[x.val,y.val] w fun e w'=>e=.returned (.bool true)∧Bl w w':=by
 obtain⟨r,a,n,c⟩:=x;obtain⟨q,a2,n2,c2⟩:=y;simp only at h hx hy;subst h;exact ZiG r a n c a2 n2 c2 w hx hy
theorem rws6 (w0 w:World)(b off len c b2 off2 c2 i:Nat)(hi:i<len)(x y:Rx)(hx:RwAt w0 b (off+i*6) x)(hy:RwAt w0 b2 (off2+i*6) y)(ah:x.r=y.r)(ae:Fs w0 x.a x.n x.c x.r.xs)(af:Fs w0 y.a y.n y.c y.r.xs)(hW:Bl w0 w)
    {Q:Exit→Act→World→Prop}(ag:A.tmps.size=27)(ad:A.defers=[])(s0:A.tmps.getD 0 undef=.slice (some ⟨b,off,none⟩) len c)(s1:A.tmps.getD 1 undef=.slice (some ⟨b2,off2,none⟩) len c2)(s5:A.tmps.getD 5 undef=.int .i64 (i:Int))
    (hend:∀(u:Nat→Value) w',Bl w0 w'→Q .normal ((Pl.pu A u [17,18,19,20,21,22,23,24,25]).put (some 26) (.bool false)) w') :
    Pl.rg prog 6 f18 Q A w:=by
  have aa:Bl w0 w.drew:=hW.drew;have hA:=Pl.At.same (v:=.int .i64 (i:Int)) (d:=5) (Pl.At.same (v:=.slice (some ⟨b2,off2,none⟩) len c2) (d:=1) (Pl.At.same (v:=.slice (some ⟨b,off,none⟩) len c) (d:=0) (Pl.At.here ag ad) s0) s1) s5;refine Pl.qb (S:=fun w'=>Bl w0 w') hA aa ?_;rw [show (Pl.fd 6 f18).size=10 by kernel_rfl];refine Pl.q0 0 17 (.slice (some ⟨b,off,none⟩) len c) (Pl.q1) (Pl.q2 (.tmp 0)) aa ?_;refine Pl.q0 1 18 (.int .i64 (i:Int)) (Pl.q1) (Pl.q2 (.tmp 5)) aa ?_;refine Pl.q0 2 19 (.pointer (some ⟨b,off+i*6,none⟩)) (Pl.q1) (Pl.qa 49 (.tmp 17) (.tmp 18) (ZaX b off len c i hi)) aa ?_;refine Pl.q0 3 20 (x.val) (Pl.q1) (Pl.q4 39 (.tmp 19) (fun w' hS=>Zbl b (off+i*6) x w' (hx.keep hS (Nat.le_refl _)))) aa ?_;refine Pl.q0 4 21 (.slice (some ⟨b2,off2,none⟩) len c2) (Pl.q1) (Pl.q2 (.tmp 1)) aa ?_;refine Pl.q0 5 22 (.int .i64 (i:Int)) (Pl.q1) (Pl.q2 (.tmp 5)) aa ?_;refine Pl.q0 6 23 (.pointer (some ⟨b2,off2+i*6,none⟩)) (Pl.q1) (Pl.qa 49 (.tmp 21) (.tmp 22) (ZaX b2 off2 len c2 i hi)) aa ?_;refine Pl.q0 7 24 (y.val) (Pl.q1) (Pl.q4 39 (.tmp 23) (fun w' hS=>Zbl b2 (off2+i*6) y w' (hy.keep hS (Nat.le_refl _)))) aa ?_;refine Pl.qe 8 25 13 [(.tmp 20),(.tmp 24)] #[39,39] (Pl.q1) ZnG (Calls.mono (Zli ah w.drew (ae.keep aa (Nat.le_refl _)) (af.keep aa (Nat.le_refl _))) ?_);rintro e w1 ⟨rfl,ac⟩;have ab:Bl w0 w1:=Zac aa ac;refine⟨.bool true,rfl,ab,?_⟩;refine Pl.q0 9 26 (.bool false) (Pl.q1) (Pl.qv 4 (.tmp 25) true) ab ?_;refine Pl.q8 (fun A' hA'=>?_);exact Pl.en hA' hA [17,18,19,20,21,22,23,24,25,26] (hend hA'.fn _ ab)
theorem ZdK (lo hi:Nat)(l:List Hr):(Zax lo hi l).length≤l.length:=by
 have:=ZeZ lo hi l l.length (Nat.le_refl _);rwa [List.take_length] at this
def Zem (w:World) (p:Nat) (k0 k1:Nat):Prop:=w.heap[p]? = some (Obj.cells #[.float .f64 k0,.float .f64 k1] 48 (0,0))
theorem Zem.keep (h:Zem w p k0 k1)(hb:Bl w w'):Zem w' p k0 k1:=(hb.block p (Array.getElem?_eq_some_iff.1 h).1).trans h
theorem Zem.c0 (h:Zem w p k0 k1):w.cell? ⟨p,0,none⟩=some (.float .f64 k0):=by unfold Zem at h;rw [cell_of_row _ _ _ _ _ _ h];rfl
theorem Zem.c1 (h:Zem w p k0 k1):w.cell? ⟨p,1,none⟩=some (.float .f64 k1):=by unfold Zem at h;rw [cell_of_row _ _ _ _ _ _ h];rfl
theorem Zlz (w:World)(k0 k1:Nat):Zem (w.alloc (.cells #[.float .f64 k0,.float .f64 k1] 48)) w.heap.size k0 k1:=heap_alloc_new w _
def upK (a b:Rw):Prop:=Fl.rk a.key<Fl.rk b.key
theorem Zg3 {a:Nat}(ha:a<18446744073709551616)(hb:b<18446744073709551616):Fl.less a b=true↔Fl.rk a<Fl.rk b:=by
 rw [← Fl.rk_less a b ha hb];simp
theorem Zoe {a:Nat}(ha:a<18446744073709551616)(hb:b<18446744073709551616):Fl.less a b=false↔Fl.rk b≤Fl.rk a:=by
 rw [← Fl.rk_less a b ha hb];simp
theorem Zpb {a:Nat}(ha:a<18446744073709551616)(hb:b<18446744073709551616)(ka:Fl.key a=a)(kb:Fl.key b=b)(h:Fl.rk a=Fl.rk b):a=b:=by
 rw [← ka,← kb,← Fl.of_rk a ha,← Fl.of_rk b hb,h]
structure Zfu (r:Rw):Prop where
  fit:r.key<18446744073709551616
  key:Fl.key r.key=r.key
theorem Zj2 (r:Rw):insK [] r=[r]:=rfl
theorem Zhp (x:Rw)(l:List Rw)(r:Rw):insK (x :: l) r=if Fl.less x.key r.key=true then x :: insK l r else r :: x :: l:=by
 unfold insK;by_cases h:Fl.less x.key r.key=true
 · rw [if_pos h,show posK r.key (x :: l)=posK r.key l+1 by rw [posK,if_pos h]];simp
 · rw [if_neg h,show posK r.key (x :: l)=0 by rw [posK,if_neg h]];simp
theorem Zdf {z:Rw}:∀{l:List Rw},z∈insK l r↔z=r∨z∈l
 | []=>by simp [Zj2]
 | x :: l=>by
  rw [Zhp]
  split
  · rw [List.mem_cons,Zdf (l:=l),List.mem_cons]
    constructor
    · rintro (h | h | h)
      · exact .inr (.inl h)
      · exact .inl h
      · exact .inr (.inr h)
    · rintro (h | h | h)
      · exact .inr (.inl h)
      · exact .inl h
      · exact .inr (.inr h)
  · rw [List.mem_cons]
theorem Zme (hr:Zfu r):∀{l:List Rw},(∀x∈l,Zfu x∧x.key≠r.key)→l.Pairwise upK→(insK l r).Pairwise upK
 | [],_,_=>by rw [Zj2];exact List.pairwise_singleton _ _
 | x :: l,hg,hp=>by
  obtain⟨hx,hl⟩:=List.pairwise_cons.1 hp
  have aa:=hg x List.mem_cons_self
  rw [Zhp]
  split
  · rename_i h
    refine List.pairwise_cons.2 ⟨fun z hz=>?_,Zme hr (fun y hy=>hg y (List.mem_cons_of_mem _ hy)) hl⟩
    rcases Zdf.1 hz with rfl | hz
    · exact(Zg3 aa.1.fit hr.fit).1 h
    · exact hx z hz
  · rename_i h
    have h1:Fl.rk r.key≤Fl.rk x.key:=(Zoe aa.1.fit hr.fit).1 (by simpa using h)
    have h2:Fl.rk r.key≠Fl.rk x.key:=fun e=>aa.2 (Zpb hr.fit aa.1.fit hr.key aa.1.key e).symm
    have h3:upK r x:=Nat.lt_of_le_of_ne h1 h2
    refine List.pairwise_cons.2 ⟨fun z hz=>?_,hp⟩
    rcases List.mem_cons.1 hz with rfl | hz
    · exact h3
    · exact Nat.lt_trans h3 (hx z hz)
theorem Znl:∀{l m:List Rw},l.Pairwise upK→m.Pairwise upK→(∀z,z∈l↔z∈m)→l=m
 | [],[],_,_,_=>rfl
 | [],y :: m,_,_,h=>by have:=(h y).2 List.mem_cons_self;cases this
 | x :: l,[],_,_,h=>by have:=(h x).1 List.mem_cons_self;cases this
 | x :: l,y :: m,h1,h2,h=>by
  obtain⟨hx,hl⟩:=List.pairwise_cons.1 h1
  obtain⟨hy,hm⟩:=List.pairwise_cons.1 h2
  have irr:∀z:Rw,¬upK z z:=fun z=>Nat.lt_irrefl _
  have e:x=y:=by
   rcases List.mem_cons.1 ((h x).1 List.mem_cons_self) with e | hx'
   · exact e
   · rcases List.mem_cons.1 ((h y).2 List.mem_cons_self) with e | hy'
     · exact e.symm
     · exact absurd (Nat.lt_trans (hx y hy') (hy x hx')) (irr x)
  subst e;rw [Znl hl hm (fun z=>⟨fun hz=>?_,fun hz=>?_⟩)]
  · rcases List.mem_cons.1 ((h z).1 (List.mem_cons_of_mem _ hz)) with e | h'
    · subst e;exact absurd (hx z hz) (irr z)
    · exact h'
  · rcases List.mem_cons.1 ((h z).2 (List.mem_cons_of_mem _ hz)) with e | h'
    · subst e;exact absurd (hy z hz) (irr z)
    · exact h'
def inK (lo hi:Nat) (r:Rw):Prop:=Fl.less r.key lo=false∧Fl.less r.key hi=true
theorem Zpy :∀(l:List Hr)(o:List Rw),(∀h∈l,Zfu h.r)→ZbG l→(∀x∈o,Zfu x)→o.Pairwise upK→(∀x∈o,∀h∈l,x.key≠h.r.key) →
    (l.foldl (Zeo lo hi) o).Pairwise upK∧(∀x∈l.foldl (Zeo lo hi) o,Zfu x)∧∀z,z∈l.foldl (Zeo lo hi) o↔z∈o∨∃h∈l,h.r=z∧inK lo hi z
  | [],o,_,_,hg,hp,_=>⟨hp,hg,fun z=>by simp⟩
  | h :: l,o,hl,h1,hg,hp,hd=>by
   obtain⟨hh,h1'⟩:=List.pairwise_cons.1 h1
   have aa:=hl h List.mem_cons_self
   rw [List.foldl_cons]
   by_cases hc:(Fl.less h.r.key lo || !(Fl.less h.r.key hi))=true
   · rw [show Zeo lo hi o h=o by rw [Zeo,if_pos hc]]
     obtain⟨a,b,c⟩:=Zpy l o (fun x hx=>hl x (List.mem_cons_of_mem _ hx)) h1' hg hp (fun x hx g hg'=>hd x hx g (List.mem_cons_of_mem _ hg'))
     refine⟨a,b,fun z=>?_⟩
     rw [c z]
     constructor
     · rintro (hz | ⟨g,hg',rfl,hi'⟩)
       · exact .inl hz
       · exact .inr ⟨g,List.mem_cons_of_mem _ hg',rfl,hi'⟩
     · rintro (hz | ⟨g,hg',rfl,hi'⟩)
       · exact .inl hz
       · rcases List.mem_cons.1 hg' with rfl | hg'
         · rw [hi'.1,hi'.2] at hc;cases hc
         · exact .inr ⟨g,hg',rfl,hi'⟩
   · rw [show Zeo lo hi o h=insK o h.r by rw [Zeo,if_neg hc]]
     have ab:inK lo hi h.r:=by
      cases q1:Fl.less h.r.key lo <;> cases q2:Fl.less h.r.key hi <;> rw [q1,q2] at hc <;> first | exact ⟨q1,q2⟩ | exact absurd rfl hc
     obtain⟨a,b,c⟩:=Zpy l (insK o h.r) (fun x hx=>hl x (List.mem_cons_of_mem _ hx)) h1' (fun x hx=>by rcases Zdf.1 hx with rfl | hx;exact aa;exact hg x hx) (Zme aa (fun x hx=>⟨hg x hx,hd x hx h List.mem_cons_self⟩) hp) (fun x hx g hg'=>by
      rcases Zdf.1 hx with rfl | hx
      · exact hh g hg'
      · exact hd x hx g (List.mem_cons_of_mem _ hg'))
     refine⟨a,b,fun z=>?_⟩;rw [c z,Zdf];constructor
     · rintro ((rfl | hz) | ⟨g,hg',rfl,hi'⟩)
       · exact .inr ⟨h,List.mem_cons_self,rfl,ab⟩
       · exact .inl hz
       · exact .inr ⟨g,List.mem_cons_of_mem _ hg',rfl,hi'⟩
     · rintro (hz | ⟨g,hg',rfl,hi'⟩)
       · exact .inl (.inr hz)
       · rcases List.mem_cons.1 hg' with rfl | hg'
         · exact .inl (.inl rfl)
         · exact .inr ⟨g,hg',rfl,hi'⟩
theorem ZmB {l:List Hr}(hl:∀h∈l,Zfu h.r)(h1:ZbG l):(Zax lo hi l).Pairwise upK∧(∀x∈Zax lo hi l,Zfu x)∧∀z,z∈Zax lo hi l↔∃h∈l,h.r=z∧inK lo hi z:=by
 obtain⟨a,b,c⟩:=Zpy (lo:=lo) (hi:=hi) l [] hl h1 (fun x hx=>by cases hx) List.Pairwise.nil (fun x hx=>by cases hx);exact⟨a,b,fun z=>by rw [show Zax lo hi l=l.foldl (Zeo lo hi) [] from rfl,c z];simp⟩
theorem ZaP:zeroR.fits:=⟨by decide,by decide,by decide,by decide,by decide⟩
section
variable {ops : Array Oper} {rest : List Oper} {o : Oper} {a : Act} {Q : Exit → Act → World → Prop}
end
structure Un where
  tx:Int
  no:Int
  prev:Int
  kind:Int
  page:Int
  slot:Int
  row:Rw
def Un.val (u:Un) (c:Value):Value:=.agg #[.int .i64 u.tx,.int .i64 u.no,.int .i64 u.prev,.int .i64 u.kind,.int .i64 u.page,.int .i64 u.slot,.float .f64 u.row.key,.bool u.row.dead,c,.int .i64 u.row.wr,.int .i64 u.row.cell,.int .i64 u.row.no]
structure Un.fits (u:Un):Prop where
  tx:(Lit.int .i64 u.tx).wf=true
  no:(Lit.int .i64 u.no).wf=true
  prev:(Lit.int .i64 u.prev).wf=true
  kind:(Lit.int .i64 u.kind).wf=true
  page:(Lit.int .i64 u.page).wf=true
  slot:(Lit.int .i64 u.slot).wf=true
  row:u.row.fits
def witB (n lo hi:Int):Bool:=decide (lo≤n) && decide (n≤hi)
def undoB (k:Int) (r:Rw):Bool:=if k=1 then r.same zeroR else if k=2 then r.may else false
def Un.may (u:Un):Bool:=witB u.tx 1 2147483647 && witB u.no 1 2147483647 && witB u.prev 0 65535 && witB u.page 0 255 && witB u.slot 0 255 && undoB u.kind u.row
def Un.same (a b:Un):Bool:=a.tx == b.tx && a.no == b.no && a.prev == b.prev && a.kind == b.kind && a.page == b.page && a.slot == b.slot && a.row.same b.row
theorem Un.same_self (a:Un):a.same a=true:=by simp [Un.same,Rw.same_self]
theorem Rw.same_eq {s:Rw}(h:r.same s=true):r=s:=by
 obtain⟨k,d,xs,t,c,n⟩:=r;obtain⟨k',d',xs',t',c',n'⟩:=s;simp only [Rw.same,Bool.and_eq_true,beq_iff_eq] at h;obtain⟨⟨⟨⟨⟨rfl,rfl⟩,rfl⟩,rfl⟩,rfl⟩,rfl⟩:=h;rfl
theorem Un.same_eq {a b:Un}(h:a.same b=true):a=b:=by
 obtain⟨t,n,p,k,g,s,r⟩:=a;obtain⟨t',n',p',k',g',s',r'⟩:=b;simp only [Un.same,Bool.and_eq_true,beq_iff_eq] at h;obtain⟨⟨⟨⟨⟨⟨rfl,rfl⟩,rfl⟩,rfl⟩,rfl⟩,rfl⟩,hr⟩:=h;rw [Rw.same_eq hr]
theorem Un.same_iff (a b:Un):a.same b=true↔a=b:=⟨Un.same_eq,fun h=>by rw [h];exact Un.same_self b⟩
structure Un.Parts (u:Un):Prop where
  tx:1≤u.tx∧u.tx≤2147483647
  no:1≤u.no∧u.no≤2147483647
  prev:0≤u.prev∧u.prev≤65535
  page:0≤u.page∧u.page≤255
  slot:0≤u.slot∧u.slot≤255
  kind:(u.kind=1∧u.row=zeroR)∨(u.kind=2∧u.row.may=true)
theorem Un.parts {u:Un}(h:u.may=true):u.Parts:=by
 simp only [Un.may,witB,Bool.and_eq_true,decide_eq_true_eq] at h;obtain⟨⟨⟨⟨⟨h1,h2⟩,h3⟩,h4⟩,h5⟩,h6⟩:=h;refine⟨h1,h2,h3,h4,h5,?_⟩;unfold undoB at h6;by_cases k1:u.kind=1
 · rw [if_pos k1] at h6;exact .inl ⟨k1,Rw.same_eq h6⟩
 · rw [if_neg k1] at h6;by_cases k2:u.kind=2
   · rw [if_pos k2] at h6;exact .inr ⟨k2,h6⟩
   · rw [if_neg k2] at h6;cases h6
def UnBlk (w:World) (p:Nat) (u:Un) (c:Value):Prop:=w.heap[p]? = some (Obj.cells #[.int .i64 u.tx,.int .i64 u.no,.int .i64 u.prev,.int .i64 u.kind,.int .i64 u.page,.int .i64 u.slot,.float .f64 u.row.key,.bool u.row.dead,c,.int .i64 u.row.wr,.int .i64 u.row.cell,.int .i64 u.row.no] 65 (0,0))
theorem Zbn (w:World)(u:Un)(c:Value):UnBlk (w.alloc (.cells #[.int .i64 u.tx,.int .i64 u.no,.int .i64 u.prev,.int .i64 u.kind,.int .i64 u.page,.int .i64 u.slot,.float .f64 u.row.key,.bool u.row.dead,c,.int .i64 u.row.wr,.int .i64 u.row.cell,.int .i64 u.row.no] 65)) w.heap.size u c:=heap_alloc_new w _
theorem UnBlk.keep {u:Un}(h:UnBlk w p u c)(hb:Bl w w'):UnBlk w' p u c:=(hb.block p (Array.getElem?_eq_some_iff.1 h).1).trans h
theorem UnBlk.lt {u:Un}(h:UnBlk w p u c):p<w.heap.size:=(Array.getElem?_eq_some_iff.1 h).1
theorem UnBlk.c0 {u:Un}(h:UnBlk w p u c):w.cell? ⟨p,0,none⟩=some (.int .i64 u.tx):=by unfold UnBlk at h;simp [World.cell?,h]
theorem UnBlk.c1 {u:Un}(h:UnBlk w p u c):w.cell? ⟨p,1,none⟩=some (.int .i64 u.no):=by unfold UnBlk at h;simp [World.cell?,h]
theorem UnBlk.c2 {u:Un}(h:UnBlk w p u c):w.cell? ⟨p,2,none⟩=some (.int .i64 u.prev):=by unfold UnBlk at h;simp [World.cell?,h]
theorem UnBlk.c3 {u:Un}(h:UnBlk w p u c):w.cell? ⟨p,3,none⟩=some (.int .i64 u.kind):=by unfold UnBlk at h;simp [World.cell?,h]
theorem UnBlk.c4 {u:Un}(h:UnBlk w p u c):w.cell? ⟨p,4,none⟩=some (.int .i64 u.page):=by unfold UnBlk at h;simp [World.cell?,h]
theorem UnBlk.c5 {u:Un}(h:UnBlk w p u c):w.cell? ⟨p,5,none⟩=some (.int .i64 u.slot):=by unfold UnBlk at h;simp [World.cell?,h]
theorem UnBlk.c6 {u:Un}(h:UnBlk w p u c):w.cell? ⟨p,6,none⟩=some (.float .f64 u.row.key):=by unfold UnBlk at h;simp [World.cell?,h]
theorem UnBlk.c7 {u:Un}(h:UnBlk w p u c):w.cell? ⟨p,7,none⟩=some (.bool u.row.dead):=by unfold UnBlk at h;simp [World.cell?,h]
theorem UnBlk.c8 {u:Un}(h:UnBlk w p u c):w.cell? ⟨p,8,none⟩=some (c):=by unfold UnBlk at h;simp [World.cell?,h]
theorem UnBlk.c9 {u:Un}(h:UnBlk w p u c):w.cell? ⟨p,9,none⟩=some (.int .i64 u.row.wr):=by unfold UnBlk at h;simp [World.cell?,h]
theorem UnBlk.c10 {u:Un}(h:UnBlk w p u c):w.cell? ⟨p,10,none⟩=some (.int .i64 u.row.cell):=by unfold UnBlk at h;simp [World.cell?,h]
theorem UnBlk.c11 {u:Un}(h:UnBlk w p u c):w.cell? ⟨p,11,none⟩=some (.int .i64 u.row.no):=by unfold UnBlk at h;simp [World.cell?,h]
theorem UnBlk.fz {u:Un}(h:UnBlk w p u c)(o:Nat):w.frozen? ⟨p,o,none⟩=false:=frozen_of_row w p _ _ 65 h
def setUn (w:World) (g:Nat) (u:Un) (c:Value):World:=(((((((((((w.setCell ⟨g,0,none⟩ (.int .i64 u.tx)).setCell ⟨g,1,none⟩ (.int .i64 u.no)).setCell ⟨g,2,none⟩ (.int .i64 u.prev)).setCell ⟨g,3,none⟩ (.int .i64 u.kind)).setCell ⟨g,4,none⟩ (.int .i64 u.page)).setCell ⟨g,5,none⟩ (.int .i64 u.slot)).setCell ⟨g,6,none⟩ (.float .f64 u.row.key)).setCell ⟨g,7,none⟩ (.bool u.row.dead)).setCell ⟨g,8,none⟩ (c)).setCell ⟨g,9,none⟩ (.int .i64 u.row.wr)).setCell ⟨g,10,none⟩ (.int .i64 u.row.cell)).setCell ⟨g,11,none⟩ (.int .i64 u.row.no)
theorem Zfh {u0:Un}{c0:Value}(h:UnBlk w g u0 c0)(u:Un)(c:Value):UnBlk (setUn w g u c) g u c:=by
 have h1:=heap_setCell_same w g 0 _ 65 (.int .i64 u.tx) h;have h2:=heap_setCell_same _ g 1 _ 65 (.int .i64 u.no) h1;have h3:=heap_setCell_same _ g 2 _ 65 (.int .i64 u.prev) h2;have h4:=heap_setCell_same _ g 3 _ 65 (.int .i64 u.kind) h3;have h5:=heap_setCell_same _ g 4 _ 65 (.int .i64 u.page) h4;have h6:=heap_setCell_same _ g 5 _ 65 (.int .i64 u.slot) h5;have h7:=heap_setCell_same _ g 6 _ 65 (.float .f64 u.row.key) h6;have h8:=heap_setCell_same _ g 7 _ 65 (.bool u.row.dead) h7;have h9:=heap_setCell_same _ g 8 _ 65 (c) h8;have aa:=heap_setCell_same _ g 9 _ 65 (.int .i64 u.row.wr) h9;have ab:=heap_setCell_same _ g 10 _ 65 (.int .i64 u.row.cell) aa;have ac:=heap_setCell_same _ g 11 _ 65 (.int .i64 u.row.no) ab;unfold UnBlk setUn;rw [ac];simp
theorem Zas (hb:Below B w0 w)(hg:B≤g)(u:Un)(c:Value):Below B w0 (setUn w g u c):=
 (((((((((((hb.setCell (p:=⟨g,0,none⟩) hg _).setCell (p:=⟨g,1,none⟩) hg _).setCell (p:=⟨g,2,none⟩) hg _).setCell (p:=⟨g,3,none⟩) hg _).setCell (p:=⟨g,4,none⟩) hg _).setCell (p:=⟨g,5,none⟩) hg _).setCell (p:=⟨g,6,none⟩) hg _).setCell (p:=⟨g,7,none⟩) hg _).setCell (p:=⟨g,8,none⟩) hg _).setCell (p:=⟨g,9,none⟩) hg _).setCell (p:=⟨g,10,none⟩) hg _).setCell (p:=⟨g,11,none⟩) hg _
theorem Zfj (w:World)(g:Nat)(u:Un)(c:Value)(k:Nat)(hk:k≠g):(setUn w g u c).heap[k]? = w.heap[k]?:=by
 unfold setUn;rw [Below.heap_setCell _ ⟨g,11,none⟩ _ k hk,Below.heap_setCell _ ⟨g,10,none⟩ _ k hk,Below.heap_setCell _ ⟨g,9,none⟩ _ k hk,Below.heap_setCell _ ⟨g,8,none⟩ _ k hk,Below.heap_setCell _ ⟨g,7,none⟩ _ k hk,Below.heap_setCell _ ⟨g,6,none⟩ _ k hk,Below.heap_setCell _ ⟨g,5,none⟩ _ k hk,Below.heap_setCell _ ⟨g,4,none⟩ _ k hk,Below.heap_setCell _ ⟨g,3,none⟩ _ k hk,Below.heap_setCell _ ⟨g,2,none⟩ _ k hk,Below.heap_setCell _ ⟨g,1,none⟩ _ k hk,Below.heap_setCell _ ⟨g,0,none⟩ _ k hk]
theorem Zjc {fn:Func}{x y:Nat}(hr:fn.results=#[.cell x 65,.tmp y]){u:Un}(h:UnBlk W g u c)(tmps:Array Value)(v:Value)(ht:tmps.getD x undef=.pointer (some ⟨g,0,none⟩))(hx:tmps.getD y undef=v)(hc:∃a len cap,c=.slice a len cap):(results fn tmps).run prog W=.ok (.tuple #[u.val c,v]) W:=by
 have c0:=h.c0;have c1:=h.c1;have c2:=h.c2;have c3:=h.c3;have c4:=h.c4;have c5:=h.c5;have c6:=h.c6;have c7:=h.c7;have c8:=h.c8;have c9:=h.c9;have c10:=h.c10;have c11:=h.c11;obtain⟨a,len,cap,rfl⟩:=hc;(have aa:tmps[x]?.getD undef=.pointer (some ⟨g,0,none⟩):=by simpa using ht);(have ab:tmps[y]?.getD undef=v:=by simpa using hx);simp [results,hr,aa,ab,go_sem,c0,c1,c2,c3,c4,c5,c6,c7,c8,c9,c10,c11,Un.val]
theorem ZcQ {fn:Func}{x y:Nat}(aa:fn.results=#[.cell x 65,.tmp y]){u0:Un}{c0:Value}(h:UnBlk W g u0 c0)(u:Un)(c v:Value)(hc:∃a len cap,c=.slice a len cap){R:Ending→World→Prop}(t2:A.tmps.getD x undef=.pointer (some ⟨g,0,none⟩))(t3:A.tmps.getD y undef=v)(hd:A.defers=[])
    (hR:R (.returned (.tuple #[u.val c,v])) (setUn W g u c)):bodyPost prog fn R Exit.ret A (setUn W g u c):=by
  have hr:=Zfh h u c;generalize setUn W g u c=W' at *;exact bodyPost_ret (Zjc aa hr _ _ t2 t3 hc) hd hR
theorem ZbV (b:Nat)(u:Un)(c:Value)(hc:∃a len cap,c=.slice a len cap)(w:World)(h:UnBlk w b u c):(Instr.loadAt 65 (.pointer (some ⟨b,0,none⟩))).run prog w=.ok (u.val c) w:=by
 have c0:=h.c0;have c1:=h.c1;have c2:=h.c2;have c3:=h.c3;have c4:=h.c4;have c5:=h.c5;have c6:=h.c6;have c7:=h.c7;have c8:=h.c8;have c9:=h.c9;have c10:=h.c10;have c11:=h.c11;obtain⟨a,len,cap,rfl⟩:=hc;simp [go_sem,c0,c1,c2,c3,c4,c5,c6,c7,c8,c9,c10,c11,Un.val]
def zeroU:Un:=⟨0,0,0,0,0,0,zeroR⟩
theorem Zc6:zeroU.fits:=⟨by decide,by decide,by decide,by decide,by decide,by decide,ZaP⟩
theorem ZbK (n lo hi:Int)(w:World):Calls prog 116 #[.int .i64 n,.int .i64 lo,.int .i64 hi] w fun e w'=>e=.returned (.bool (witB n lo hi))∧w'=w:=by
 unfold witB;go_enter func116,ntmps116;go_wp2_with fail;all_goals (go_ret;exact ⟨by simp [*] <;> (intros;omega),rfl⟩)
theorem Zi5 (k:Int)(r:Rw)(a:Option Addr)(len cap:Nat)(w:World)(h:Fs w a len cap r.xs)(hf:r.fits) :
    Calls prog 117 #[.int .i64 k,r.val (.slice a len cap)] w fun e w'=>e=.returned (.bool (undoB k r))∧Bl w w':=by
  have HW:=Zh (Zab w (.cells #[.float .f64 r.key,.bool r.dead,.slice a len cap,.int .i64 r.wr,.int .i64 r.cell,.int .i64 r.no] 39));have HS:Hi (∀w',Bl w w'→Calls prog 145 #[r.val (.slice a len cap),zeroR.val (.slice none 0 0)] w' fun e w''=>e=.returned (.bool (r.same zeroR))∧Bl w' w''):=fun w' hb=>Zfd r zeroR a len cap none 0 0 w' (h.keep hb (Nat.le_refl _)) (Zc9 w');have HC:Hi (∀w',Bl w w'→Calls prog 146 #[r.val (.slice a len cap)] w' fun e w''=>e=.returned (.int .i64 (chk r.may))∧Bl w' w''):=fun w' hb=>ZdW r a len cap w' (h.keep hb (Nat.le_refl _)) hf;clear h hf;unfold undoB;by_cases k1:k=1
  · subst k1;rw [if_pos rfl];generalize r.same zeroR=m at *;unfold Rw.val zeroR at HS;unfold Rw.val;simp only at HS ⊢;go_enter func117,ntmps117;go_wp2_with fail;refine(HS.o _ HW.o).mono ?_;rintro e w1 ⟨rfl,aa⟩;have ab:=Zh (Zac HW.o aa);clear aa;go_wp2;go_ret;exact⟨rfl,ab.o⟩
  · rw [if_neg k1];have e1:(k == 1)=false:=beq_eq_false_iff_ne.2 k1;clear k1;by_cases k2:k=2
    · subst k2;rw [if_pos rfl];generalize r.may=m at *;unfold Rw.val at HC ⊢;clear e1;cases m;all_goals
       unfold chk at HC;go_enter func117,ntmps117;go_wp2_with fail;refine(HC.o _ HW.o).mono ?_;rintro e w1 ⟨rfl,aa⟩;have ab:=Zh (Zac HW.o aa);clear aa;go_wp2;go_ret;exact⟨by simp,ab.o⟩
    · rw [if_neg k2];have e2:(k == 2)=false:=beq_eq_false_iff_ne.2 k2;clear k2;unfold Rw.val;go_enter func117,ntmps117;go_wp2;go_ret;exact⟨by simp,HW.o⟩
theorem Zkc (u:Un)(a:Option Addr)(len cap:Nat)(w:World)(h:Fs w a len cap u.row.xs)(hf:u.row.fits) :
    Calls prog 77 #[u.val (.slice a len cap)] w fun e w'=>e=.returned (.int .i64 (chk u.may))∧Bl w w':=by
  obtain⟨tx,no,prev,kind,page,slot,r⟩:=u;simp only at h hf;have HW:=Zh (Zab w (.cells #[.int .i64 tx,.int .i64 no,.int .i64 prev,.int .i64 kind,.int .i64 page,.int .i64 slot,.float .f64 r.key,.bool r.dead,(.slice a len cap),.int .i64 r.wr,.int .i64 r.cell,.int .i64 r.no] 65));have H1:=Zh (ZbK tx 1 2147483647);have H2:=Zh (ZbK no 1 2147483647);have H3:=Zh (ZbK prev 0 65535);have H4:=Zh (ZbK page 0 255);have H5:=Zh (ZbK slot 0 255);have H6:Hi (∀w',Bl w w'→Calls prog 117 #[.int .i64 kind,r.val (.slice a len cap)] w' fun e w''=>e=.returned (.bool (undoB kind r))∧Bl w' w''):=fun w' hb=>Zi5 kind r a len cap w' (h.keep hb (Nat.le_refl _)) hf;clear h hf;unfold Un.val Un.may;unfold Rw.val at H6;simp only;generalize witB tx 1 2147483647=b1 at *;generalize witB no 1 2147483647=b2 at *;generalize witB prev 0 65535=b3 at *;generalize witB page 0 255=b4 at *;generalize witB slot 0 255=b5 at *;generalize undoB kind r=b6 at *;cases b1
  · go_enter func77,ntmps77;go_wp2_with fail;refine(H1.o _).mono ?_;rintro e w' ⟨rfl,hw⟩;obtain rfl:=hw.symm;go_wp2;go_ret;exact⟨rfl,HW.o⟩
  cases b2
  · go_enter func77,ntmps77;go_wp2_with fail;refine(H1.o _).mono ?_;rintro e w' ⟨rfl,hw⟩;obtain rfl:=hw.symm;go_wp2_with fail;refine(H2.o _).mono ?_;rintro e w' ⟨rfl,hw⟩;obtain rfl:=hw.symm;go_wp2;go_ret;exact⟨rfl,HW.o⟩
  cases b3
  · go_enter func77,ntmps77;go_wp2_with fail;refine(H1.o _).mono ?_;rintro e w' ⟨rfl,hw⟩;obtain rfl:=hw.symm;go_wp2_with fail;refine(H2.o _).mono ?_;rintro e w' ⟨rfl,hw⟩;obtain rfl:=hw.symm;go_wp2_with fail;refine(H3.o _).mono ?_;rintro e w' ⟨rfl,hw⟩;obtain rfl:=hw.symm;go_wp2;go_ret;exact⟨rfl,HW.o⟩
  cases b4
  · go_enter func77,ntmps77;go_wp2_with fail;refine(H1.o _).mono ?_;rintro e w' ⟨rfl,hw⟩;obtain rfl:=hw.symm;go_wp2_with fail;refine(H2.o _).mono ?_;rintro e w' ⟨rfl,hw⟩;obtain rfl:=hw.symm;go_wp2_with fail;refine(H3.o _).mono ?_;rintro e w' ⟨rfl,hw⟩;obtain rfl:=hw.symm;go_wp2_with fail;refine(H4.o _).mono ?_;rintro e w' ⟨rfl,hw⟩;obtain rfl:=hw.symm;go_wp2;go_ret;exact⟨rfl,HW.o⟩
  cases b5
  · go_enter func77,ntmps77;go_wp2_with fail;refine(H1.o _).mono ?_;rintro e w' ⟨rfl,hw⟩;obtain rfl:=hw.symm;go_wp2_with fail;refine(H2.o _).mono ?_;rintro e w' ⟨rfl,hw⟩;obtain rfl:=hw.symm;go_wp2_with fail;refine(H3.o _).mono ?_;rintro e w' ⟨rfl,hw⟩;obtain rfl:=hw.symm;go_wp2_with fail;refine(H4.o _).mono ?_;rintro e w' ⟨rfl,hw⟩;obtain rfl:=hw.symm;go_wp2_with fail;refine(H5.o _).mono ?_;rintro e w' ⟨rfl,hw⟩;obtain rfl:=hw.symm;go_wp2;go_ret;exact⟨rfl,HW.o⟩
  cases b6;all_goals
   go_enter func77,ntmps77;go_wp2_with fail;refine(H1.o _).mono ?_;rintro e w' ⟨rfl,hw⟩;obtain rfl:=hw.symm;go_wp2_with fail;refine(H2.o _).mono ?_;rintro e w' ⟨rfl,hw⟩;obtain rfl:=hw.symm;go_wp2_with fail;refine(H3.o _).mono ?_;rintro e w' ⟨rfl,hw⟩;obtain rfl:=hw.symm;go_wp2_with fail;refine(H4.o _).mono ?_;rintro e w' ⟨rfl,hw⟩;obtain rfl:=hw.symm;go_wp2_with fail;refine(H5.o _).mono ?_;rintro e w' ⟨rfl,hw⟩;obtain rfl:=hw.symm;go_wp2_with fail;refine(H6.o _ HW.o).mono ?_;rintro e w1 ⟨rfl,aa⟩;have ab:=Zh (Zac HW.o aa);clear aa;go_wp2;go_ret;exact⟨rfl,ab.o⟩
theorem Zlq (A B:Un)(a:Option Addr)(len cap:Nat)(b:Option Addr)(len' cap':Nat)(w:World)(h:Fs w a len cap A.row.xs)(h':Fs w b len' cap' B.row.xs) :
    Calls prog 115 #[A.val (.slice a len cap),B.val (.slice b len' cap')] w fun e w'=>e=.returned (.bool (A.same B))∧Bl w w':=by
  obtain⟨t,n,p,k,g,s,r⟩:=A;obtain⟨t',n',p',k',g',s',r'⟩:=B;simp only at h h';have HW:=Zh (ZaA w (.cells #[.int .i64 t,.int .i64 n,.int .i64 p,.int .i64 k,.int .i64 g,.int .i64 s,.float .f64 r.key,.bool r.dead,.slice a len cap,.int .i64 r.wr,.int .i64 r.cell,.int .i64 r.no] 65) (.cells #[.int .i64 t',.int .i64 n',.int .i64 p',.int .i64 k',.int .i64 g',.int .i64 s',.float .f64 r'.key,.bool r'.dead,.slice b len' cap',.int .i64 r'.wr,.int .i64 r'.cell,.int .i64 r'.no] 65));have HR:Hi (∀w',Bl w w'→Calls prog 145 #[r.val (.slice a len cap),r'.val (.slice b len' cap')] w' fun e w''=>e=.returned (.bool (r.same r'))∧Bl w' w''):=fun w' hb=>Zfd r r' a len cap b len' cap' w' (h.keep hb (Nat.le_refl _)) (h'.keep hb (Nat.le_refl _));clear h h';unfold Un.val Un.same;unfold Rw.val at HR;simp only;generalize r.same r'=m at *;by_cases et:t=t';rotate_left
  · have qt:(t == t')=false:=beq_eq_false_iff_ne.2 et;clear et;go_enter func115,ntmps115;go_wp2;go_ret;exact⟨by simp [qt],HW.o⟩
  subst et;by_cases en:n=n';rotate_left
  · have qn:(n == n')=false:=beq_eq_false_iff_ne.2 en;clear en;go_enter func115,ntmps115;go_wp2;go_ret;exact⟨by simp [qn],HW.o⟩
  subst en;by_cases ep:p=p';rotate_left
  · have qp:(p == p')=false:=beq_eq_false_iff_ne.2 ep;clear ep;go_enter func115,ntmps115;go_wp2;go_ret;exact⟨by simp [qp],HW.o⟩
  subst ep;by_cases ek:k=k';rotate_left
  · have qk:(k == k')=false:=beq_eq_false_iff_ne.2 ek;clear ek;go_enter func115,ntmps115;go_wp2;go_ret;exact⟨by simp [qk],HW.o⟩
  subst ek;by_cases eg:g=g';rotate_left
  · have qg:(g == g')=false:=beq_eq_false_iff_ne.2 eg;clear eg;go_enter func115,ntmps115;go_wp2;go_ret;exact⟨by simp [qg],HW.o⟩
  subst eg;by_cases es:s=s';rotate_left
  · have qs:(s == s')=false:=beq_eq_false_iff_ne.2 es;clear es;go_enter func115,ntmps115;go_wp2;go_ret;exact⟨by simp [qs],HW.o⟩
  subst es;go_enter func115,ntmps115;go_wp2_with fail;refine(HR.o _ HW.o).mono ?_;rintro e w1 ⟨rfl,aa⟩;have ab:=Zh (Zac HW.o aa);clear aa;go_wp2;go_ret;exact⟨by simp,ab.o⟩
theorem ZgI (A B:Un)(a:Option Addr)(len cap:Nat)(b:Option Addr)(len' cap':Nat)(w:World)(h:Fs w a len cap A.row.xs)(h':Fs w b len' cap' B.row.xs) :
    Calls prog 98 #[A.val (.slice a len cap),B.val (.slice b len' cap')] w fun e w'=>e=.returned (.bool (A.same B))∧Bl w w':=by
  obtain⟨t,n,p,k,g,s,r⟩:=A;obtain⟨t',n',p',k',g',s',r'⟩:=B;simp only at h h';have HW:=Zh (ZaA w (.cells #[.int .i64 t,.int .i64 n,.int .i64 p,.int .i64 k,.int .i64 g,.int .i64 s,.float .f64 r.key,.bool r.dead,.slice a len cap,.int .i64 r.wr,.int .i64 r.cell,.int .i64 r.no] 65) (.cells #[.int .i64 t',.int .i64 n',.int .i64 p',.int .i64 k',.int .i64 g',.int .i64 s',.float .f64 r'.key,.bool r'.dead,.slice b len' cap',.int .i64 r'.wr,.int .i64 r'.cell,.int .i64 r'.no] 65));have HR:Hi (∀w',Bl w w'→Calls prog 13 #[r.val (.slice a len cap),r'.val (.slice b len' cap')] w' fun e w''=>e=.returned (.bool (r.same r'))∧Bl w' w''):=fun w' hb=>Zb8 r r' a len cap b len' cap' w' (h.keep hb (Nat.le_refl _)) (h'.keep hb (Nat.le_refl _));clear h h';unfold Un.val Un.same;unfold Rw.val at HR;simp only;generalize r.same r'=m at *;by_cases et:t=t';rotate_left
  · have qt:(t == t')=false:=beq_eq_false_iff_ne.2 et;clear et;go_enter func98,ntmps98;go_wp2;go_ret;exact⟨by simp [qt],HW.o⟩
  subst et;by_cases en:n=n';rotate_left
  · have qn:(n == n')=false:=beq_eq_false_iff_ne.2 en;clear en;go_enter func98,ntmps98;go_wp2;go_ret;exact⟨by simp [qn],HW.o⟩
  subst en;by_cases ep:p=p';rotate_left
  · have qp:(p == p')=false:=beq_eq_false_iff_ne.2 ep;clear ep;go_enter func98,ntmps98;go_wp2;go_ret;exact⟨by simp [qp],HW.o⟩
  subst ep;by_cases ek:k=k';rotate_left
  · have qk:(k == k')=false:=beq_eq_false_iff_ne.2 ek;clear ek;go_enter func98,ntmps98;go_wp2;go_ret;exact⟨by simp [qk],HW.o⟩
  subst ek;by_cases eg:g=g';rotate_left
  · have qg:(g == g')=false:=beq_eq_false_iff_ne.2 eg;clear eg;go_enter func98,ntmps98;go_wp2;go_ret;exact⟨by simp [qg],HW.o⟩
  subst eg;by_cases es:s=s';rotate_left
  · have qs:(s == s')=false:=beq_eq_false_iff_ne.2 es;clear es;go_enter func98,ntmps98;go_wp2;go_ret;exact⟨by simp [qs],HW.o⟩
  subst es;go_enter func98,ntmps98;go_wp2_with fail;refine(HR.o _ HW.o).mono ?_;rintro e w1 ⟨rfl,aa⟩;have ab:=Zh (Zac HW.o aa);clear aa;go_wp2;go_ret;exact⟨by simp,ab.o⟩
theorem ZpH {u:Un}(h:u.tx<1∨2147483647<u.tx∨u.no<1∨2147483647<u.no∨u.prev<0∨65535<u.prev∨u.page<0∨255<u.page∨u.slot<0∨255<u.slot):u.may=false:=by
 cases hm:u.may
 · rfl
 · have p:=Un.parts hm;have p1:=p.tx;have p2:=p.no;have p3:=p.prev;have p4:=p.page;have p5:=p.slot;omega
theorem Zoi {u:Un}(h:¬(u.tx<1∨2147483647<u.tx∨u.no<1∨2147483647<u.no∨u.prev<0∨65535<u.prev∨u.page<0∨255<u.page∨u.slot<0∨255<u.slot)):u.may=undoB u.kind u.row:=by
 unfold Un.may witB;simp only [show (1≤u.tx)=True by simp;omega,show (u.tx≤2147483647)=True by simp;omega,show (1≤u.no)=True by simp;omega,show (u.no≤2147483647)=True by simp;omega,show (0≤u.prev)=True by simp;omega,show (u.prev≤65535)=True by simp;omega,show (0≤u.page)=True by simp;omega,show (u.page≤255)=True by simp;omega,show (0≤u.slot)=True by simp;omega,show (u.slot≤255)=True by simp;omega,decide_true,Bool.and_self,Bool.true_and]
theorem ZiF (u:Un)(a:Option Addr)(len cap:Nat)(w:World)(h:Fs w a len cap u.row.xs)(hf:u.row.fits) :
    Calls prog 82 #[u.val (.slice a len cap)] w fun e w'=>e=.returned (.bool u.may)∧Bl w w':=by
  have ae:∀(tx no prev kind page slot:Int) (r:Rw),_→Un.may ⟨tx,no,prev,kind,page,slot,r⟩=false:=fun tx no prev kind page slot r h=>ZpH (u:=⟨tx,no,prev,kind,page,slot,r⟩) h;have aa:=Zh ae;have ab:=Zh (@Zoi u);obtain⟨tx,no,prev,kind,page,slot,r⟩:=u;simp only at h hf ab;have HW:=Zh (Zab w (.cells #[.int .i64 tx,.int .i64 no,.int .i64 prev,.int .i64 kind,.int .i64 page,.int .i64 slot,.float .f64 r.key,.bool r.dead,(.slice a len cap),.int .i64 r.wr,.int .i64 r.cell,.int .i64 r.no] 65));have HS:Hi (∀w',Bl w w'→Calls prog 13 #[r.val (.slice a len cap),zeroR.val (.slice none 0 0)] w' fun e w''=>e=.returned (.bool (r.same zeroR))∧Bl w' w''):=fun w' hb=>Zb8 r zeroR a len cap none 0 0 w' (h.keep hb (Nat.le_refl _)) (Zc9 w');have HM:Hi (∀w',Bl w w'→Calls prog 60 #[r.val (.slice a len cap)] w' fun e w''=>e=.returned (.bool r.may)∧Bl w' w''):=fun w' hb=>Zds r a len cap w' (h.keep hb (Nat.le_refl _)) hf;clear h hf ae;unfold Un.val;simp only;by_cases x1:tx<1
  · have HR:=Zh (aa.o tx no prev kind page slot r (by simp only;omega));go_enter func82,ntmps82;go_wp2;go_ret;exact⟨by rw [HR.o];rfl,HW.o⟩
  by_cases x2:2147483647<tx
  · have HR:=Zh (aa.o tx no prev kind page slot r (by simp only;omega));go_enter func82,ntmps82;go_wp2;go_ret;exact⟨by rw [HR.o];rfl,HW.o⟩
  by_cases x3:no<1
  · have HR:=Zh (aa.o tx no prev kind page slot r (by simp only;omega));go_enter func82,ntmps82;go_wp2;go_ret;exact⟨by rw [HR.o];rfl,HW.o⟩
  by_cases x4:2147483647<no
  · have HR:=Zh (aa.o tx no prev kind page slot r (by simp only;omega));go_enter func82,ntmps82;go_wp2;go_ret;exact⟨by rw [HR.o];rfl,HW.o⟩
  by_cases x5:prev<0
  · have HR:=Zh (aa.o tx no prev kind page slot r (by simp only;omega));go_enter func82,ntmps82;go_wp2;go_ret;exact⟨by rw [HR.o];rfl,HW.o⟩
  by_cases x6:65535<prev
  · have HR:=Zh (aa.o tx no prev kind page slot r (by simp only;omega));go_enter func82,ntmps82;go_wp2;go_ret;exact⟨by rw [HR.o];rfl,HW.o⟩
  by_cases x7:page<0
  · have HR:=Zh (aa.o tx no prev kind page slot r (by simp only;omega));go_enter func82,ntmps82;go_wp2;go_ret;exact⟨by rw [HR.o];rfl,HW.o⟩
  by_cases x8:255<page
  · have HR:=Zh (aa.o tx no prev kind page slot r (by simp only;omega));go_enter func82,ntmps82;go_wp2;go_ret;exact⟨by rw [HR.o];rfl,HW.o⟩
  by_cases x9:slot<0
  · have HR:=Zh (aa.o tx no prev kind page slot r (by simp only;omega));go_enter func82,ntmps82;go_wp2;go_ret;exact⟨by rw [HR.o];rfl,HW.o⟩
  by_cases x10:255<slot
  · have HR:=Zh (aa.o tx no prev kind page slot r (by simp only;omega));go_enter func82,ntmps82;go_wp2;go_ret;exact⟨by rw [HR.o];rfl,HW.o⟩
  have HR:=Zh (ab.o (by omega));clear aa ab;by_cases k1:kind=1
  · subst k1;have HR':Hi (Un.may ⟨tx,no,prev,1,page,slot,r⟩=r.same zeroR):=HR.o.trans (if_pos rfl);generalize r.same zeroR=m at *;unfold Rw.val zeroR at HS;simp only at HS;clear HR;go_enter func82,ntmps82;go_wp2_with fail;refine(HS.o _ HW.o).mono ?_;rintro e w1 ⟨rfl,ac⟩;have ad:=Zh (Zac HW.o ac);clear ac;go_wp2;go_ret;exact⟨by rw [HR'.o];rfl,ad.o⟩
  · have e1:(kind == 1)=false:=beq_eq_false_iff_ne.2 k1;by_cases k2:kind=2
    · subst k2;have HR':Hi (Un.may ⟨tx,no,prev,2,page,slot,r⟩=r.may):=HR.o.trans rfl;generalize r.may=m at *;unfold Rw.val at HM;clear HR e1 k1;go_enter func82,ntmps82;go_wp2_with fail;refine(HM.o _ HW.o).mono ?_;rintro e w1 ⟨rfl,ac⟩;have ad:=Zh (Zac HW.o ac);clear ac;go_wp2;go_ret;exact⟨by rw [HR'.o];rfl,ad.o⟩
    · have e2:(kind == 2)=false:=beq_eq_false_iff_ne.2 k2;have HR':Hi (Un.may ⟨tx,no,prev,kind,page,slot,r⟩=false):=HR.o.trans (by unfold undoB;rw [if_neg k1,if_neg k2]);clear HR k1 k2;go_enter func82,ntmps82;go_wp2;go_ret;exact⟨by rw [HR'.o];rfl,HW.o⟩
structure Ux where
  u:Un
  a:Option Addr
  n:Nat
  c:Nat
def Ux.val (x:Ux):Value:=x.u.val (.slice x.a x.n x.c)
def Ux.zero:Ux:=⟨zeroU,none,0,0⟩
def Ux.cells (x:Ux):List Value:=[.int .i64 x.u.tx,.int .i64 x.u.no,.int .i64 x.u.prev,.int .i64 x.u.kind,.int .i64 x.u.page,.int .i64 x.u.slot,.float .f64 x.u.row.key,.bool x.u.row.dead,.slice x.a x.n x.c,.int .i64 x.u.row.wr,.int .i64 x.u.row.cell,.int .i64 x.u.row.no]
structure UnAt (w:World) (b o:Nat) (x:Ux):Prop where
  c0:w.cell? ⟨b,o,none⟩=some (.int .i64 x.u.tx)
  c1:w.cell? ⟨b,o+1,none⟩=some (.int .i64 x.u.no)
  c2:w.cell? ⟨b,o+2,none⟩=some (.int .i64 x.u.prev)
  c3:w.cell? ⟨b,o+3,none⟩=some (.int .i64 x.u.kind)
  c4:w.cell? ⟨b,o+4,none⟩=some (.int .i64 x.u.page)
  c5:w.cell? ⟨b,o+5,none⟩=some (.int .i64 x.u.slot)
  c6:w.cell? ⟨b,o+6,none⟩=some (.float .f64 x.u.row.key)
  c7:w.cell? ⟨b,o+7,none⟩=some (.bool x.u.row.dead)
  c8:w.cell? ⟨b,o+8,none⟩=some (.slice x.a x.n x.c)
  c9:w.cell? ⟨b,o+9,none⟩=some (.int .i64 x.u.row.wr)
  c10:w.cell? ⟨b,o+10,none⟩=some (.int .i64 x.u.row.cell)
  c11:w.cell? ⟨b,o+11,none⟩=some (.int .i64 x.u.row.no)
theorem UnAt.keep {o:Nat}{x:Ux}(h:UnAt w b o x)(hb:Below B w w')(hB:w.heap.size≤B):UnAt w' b o x:=by
 have k:∀{p:Addr} {v:Value},w.cell? p=some v→w'.cell? p=some v:=fun {p v} hc=>(hb.cell (Nat.lt_of_lt_of_le (World.block_lt_of_cell? w _ hc) hB)).trans hc;exact⟨k h.c0,k h.c1,k h.c2,k h.c3,k h.c4,k h.c5,k h.c6,k h.c7,k h.c8,k h.c9,k h.c10,k h.c11⟩
theorem UnAt.of {o:Nat}{x:Ux}(h:∀t,t<12→w.cell? ⟨b,o+t,none⟩=x.cells[t]?):UnAt w b o x:=
 ⟨h 0 (by decide),h 1 (by decide),h 2 (by decide),h 3 (by decide),h 4 (by decide),h 5 (by decide),h 6 (by decide),h 7 (by decide),h 8 (by decide),h 9 (by decide),h 10 (by decide),h 11 (by decide)⟩
theorem Zbm (b o:Nat)(x:Ux)(w:World)(h:UnAt w b o x):(Instr.loadAt 65 (.pointer (some ⟨b,o,none⟩))).run prog w=.ok x.val w:=by
 have c0:=h.c0;have c1:=h.c1;have c2:=h.c2;have c3:=h.c3;have c4:=h.c4;have c5:=h.c5;have c6:=h.c6;have c7:=h.c7;have c8:=h.c8;have c9:=h.c9;have c10:=h.c10;have c11:=h.c11;simp [go_sem,c0,c1,c2,c3,c4,c5,c6,c7,c8,c9,c10,c11,Un.val,Ux.val]
theorem Zcz (b o len cap k:Nat)(hk:k<len)(w:World):(Instr.indexAt 25 (.slice (some ⟨b,o,none⟩) len cap) (.int .i64 (k:Nat))).run prog w=.ok (.pointer (some ⟨b,o+k*12,none⟩)) w:=by
 (have aa:prog.underlying 25=some (.slice (prog.elem 25)):=by kernel_rfl);(have h1:(0:Int)≤(k:Int):=by omega);simp [go_sem,Instr.indexAt,run_underlying aa,h1,Addr.add_lit];omega
structure Us (w:World) (a:Option Addr) (m:Nat) (l:List Ux):Prop where
  len:l.length=m
  at':∀j,j<m→∃b off,a=some ⟨b,off,none⟩∧UnAt w b (off+j*12) (l.getD j Ux.zero)
  cols:∀x∈l,Fs w x.a x.n x.c x.u.row.xs
  fits:∀x∈l,x.u.fits
theorem Us.keep {len:Nat}{l:List Ux}(h:Us w a len l)(hb:Below B w w')(hB:w.heap.size≤B):Us w' a len l:=by
 refine⟨h.len,fun j hj=>?_,fun x hx=>(h.cols x hx).keep hb hB,h.fits⟩;obtain⟨b,off,ha,hu⟩:=h.at' j hj;exact⟨b,off,ha,hu.keep hb hB⟩
theorem Us.mem {len:Nat}{l:List Ux}(h:Us w a len l){j:Nat}(hj:j<len):l.getD j Ux.zero∈l:=by
 (have:j<l.length:=by rw [h.len];exact hj);simp [List.getD,this]
def uns (l:List Ux):List Un:=l.map Ux.u
theorem Zcd (l:List Ux):(uns l).length=l.length:=by simp [uns]
theorem Zbz (l:List Ux)(j:Nat):(uns l).getD j zeroU=(l.getD j Ux.zero).u:=by
 unfold uns;by_cases h:j<l.length
 · simp [List.getD,h]
 · have h':l.length≤j:=Nat.le_of_not_lt h;simp [List.getD,h',Ux.zero]
theorem ZhF (u:Un)(a:Option Addr)(len cap:Nat)(w:World)(h:Fs w a len cap u.row.xs) :
    Calls prog 81 #[u.val (.slice a len cap)] w fun e w'=>e=.returned (.bool (u.same zeroU))∧Bl w w':=by
  have HS:Hi (∀w',Bl w w'→Calls prog 98 #[u.val (.slice a len cap),.agg #[.int .i64 0,.int .i64 0,.int .i64 0,.int .i64 0,.int .i64 0,.int .i64 0,.float .f64 0,.bool false,.slice none 0 0,.int .i64 0,.int .i64 0,.int .i64 0]] w' fun e w''=>e=.returned (.bool (u.same zeroU))∧Bl w' w''):=fun w' hb=>ZgI u zeroU a len cap none 0 0 w' (h.keep hb (Nat.le_refl _)) (Zc9 w');have HX:=Zh (Zbn w u (.slice a len cap));have HW:Hi (∀o,Bl w (w.alloc o)):=Zab w;clear h;generalize u.same zeroU=m at *;unfold Un.val at HS ⊢;go_enter func81,ntmps81;go_wp2_with fail;refine(HS.o _ (HW.o _)).mono ?_;rintro e w1 ⟨rfl,aa⟩;have ab:=Zh (Zac (HW.o _) aa);clear aa;go_wp2;go_ret;exact⟨rfl,ab.o⟩
def Zat (l:List Ux):List Value:=l.flatMap Ux.cells
theorem ZfA:∀l:List Ux,(Zat l).length=l.length*12
 | []=>rfl
 | x :: l=>by
  have e:Zat (x :: l)=x.cells ++ Zat l:=rfl
  rw [e,List.length_append,ZfA l,List.length_cons]
  have:x.cells.length=12:=rfl
  omega
theorem Zf9:∀(l:List Ux)(j t:Nat),j<l.length→t<12→(Zat l)[j*12+t]? = (l.getD j Ux.zero).cells[t]?
 | [],j,t,hj,_=>by simp at hj
 | x :: l,0,t,_,ht=>by
  have e:Zat (x :: l)=x.cells ++ Zat l:=rfl
  have hl:x.cells.length=12:=rfl
  rw [e,Nat.zero_mul,Nat.zero_add,List.getElem?_append_left (by omega)]
  rfl
 | x :: l,j+1,t,hj,ht=>by
  have e:Zat (x :: l)=x.cells ++ Zat l:=rfl
  have hl:x.cells.length=12:=rfl
  rw [e,List.getElem?_append_right (by omega),hl,show (j+1)*12+t-12=j*12+t by omega]
  exact Zf9 l j t (by simpa using hj) ht
theorem ZqQ:(prog.info? 65).map (fun i=>(i.zero,i.size,i.bytes))=some (some (.agg #[.int .i64 0,.int .i64 0,.int .i64 0,.int .i64 0,.int .i64 0,.int .i64 0,.float .f64 0,.bool false,.slice none 0 0,.int .i64 0,.int .i64 0,.int .i64 0]),12,112):=by kernel_rfl
structure Col (w0 w:World) (x:Ux):Prop where
  fs:Fs w x.a x.n x.c x.u.row.xs
  home:∀b off,x.a=some ⟨b,off,none⟩→0<x.n→b<w0.heap.size∨∃C fr,w.heap[b]? = some (Obj.cells C 32 fr)
theorem Col.keep {x:Ux}(h:Col w0 w x)(hb:Bl w w'):Col w0 w' x:=by
 refine⟨h.fs.keep hb (Nat.le_refl _),fun b off ha hn=>?_⟩;rcases h.home b off ha hn with k | ⟨C,fr,k⟩
 · exact .inl k
 · exact .inr ⟨C,fr,(hb.block b (Array.getElem?_eq_some_iff.1 k).1).trans k⟩
theorem Col.owns {base:Nat}{u:Un}{c:Nat}(h:OwnsV 32 w base (.slice a n c) (fVals u.row.xs))(hf:Fs w a n c u.row.xs):Col w0 w ⟨u,a,n,c⟩:=by
 refine⟨hf,fun b off ha hn=>.inr ?_⟩;rcases h.2 with ⟨hv,h0⟩ | ⟨g,cp,cur,hv,_,hg,_⟩
 · simp only [Value.slice.injEq] at hv;simp only at ha;rw [hv.1] at ha;cases ha
 · simp only [Value.slice.injEq] at hv;simp only at ha;rw [hv.1] at ha;cases ha;exact⟨_,_,hg⟩
theorem Col.zero (w0 w:World):Col w0 w Ux.zero:=⟨Zc9 w,fun _ _ _ hn=>absurd hn (Nat.lt_irrefl 0)⟩
theorem Fs.sameU {c:Nat}{xs:List Nat}(h:Fs w a n c xs)(hs:∀b off,a=some ⟨b,off,none⟩→0<n→W.heap[b]? = w.heap[b]?):Fs W a n c xs:=by
 refine⟨⟨h.vs.1,h.vs.2.1,fun j hj=>?_⟩,h.fit,h.nil,h.le,h.big⟩;obtain⟨b,off,ha,hc⟩:=h.vs.2.2 j hj;refine⟨b,off,ha,?_⟩;rw [← hc];simp only [World.cell?,hs b off ha (by omega)]
structure Ud (w0 w:World) (s:Sl) (l:List Ux):Prop where
  own:Own 65 12 w s (Zat l)
  new:∀k,s.blk=some k→w0.heap.size≤k
  below:Bl w0 w
  cols:∀x∈l,Col w0 w x
  fits:∀x∈l,x.u.fits
theorem Ud.len {l:List Ux}(h:Ud w0 w s l):l.length=s.len:=by
 have:=h.own.1;rw [ZfA] at this;omega
theorem Ud.keep {l:List Ux}(h:Ud w0 w s l)(hb:Bl w w'):Ud w0 w' s l:=
 ⟨h.own.frame (fun k hk=>hb.block k (h.own.lt hk)),h.new,Zac h.below hb,fun x hx=>(h.cols x hx).keep hb,h.fits⟩
theorem Own.unAt {l:List Ux}(h:Own 65 12 w s (Zat l)){off:Nat}(ha:s.a=some ⟨b,off,none⟩)(j:Nat)(hj:j<l.length):UnAt w b (off+j*12) (l.getD j Ux.zero):=by
 refine UnAt.of fun t ht=>?_;have hg:=Zf9 l j t hj ht;have aa:t<(l.getD j Ux.zero).cells.length:=ht;rw [List.getElem?_eq_getElem aa] at hg ⊢;have:=h.cell ha (j*12+t) _ hg;rwa [Addr.add_lit,← Nat.add_assoc] at this
theorem Ud.us {l:List Ux}(h:Ud w0 w s l):Us w s.a s.len l:=by
 refine⟨h.len,fun j hj=>?_,fun x hx=>(h.cols x hx).fs,h.fits⟩;rcases h.own.2 with ⟨h0,_⟩ | ⟨g,off,cur,ha,_⟩
 · rw [h0] at hj;exact absurd hj (Nat.not_lt_zero _)
 · exact⟨g,off,ha,h.own.unAt ha j (by rw [h.len];exact hj)⟩
theorem Zog:madeCells (Value.agg #[.int .i64 0,.int .i64 0,.int .i64 0,.int .i64 0,.int .i64 0,.int .i64 0,.float .f64 0,.bool false,.slice none 0 0,.int .i64 0,.int .i64 0,.int .i64 0]).cells (6*12)=(Zat (List.replicate 6 Ux.zero)).toArray:=by kernel_rfl
theorem Zg5 (w:World):(Instr.makeSlice 25 (.int .i64 6) (.int .i64 6)).run prog w=.ok (.slice (some ⟨w.heap.size,0,none⟩) 6 6) (w.alloc (.cells (Zat (List.replicate 6 Ux.zero)).toArray 65)):=by
 obtain⟨i0,hi,ab,aa,ac⟩:=info_parts ZqQ;have h:=run_makeSlice (P:=prog) w 25 65 i0 (.agg #[.int .i64 0,.int .i64 0,.int .i64 0,.int .i64 0,.int .i64 0,.int .i64 0,.float .f64 0,.bool false,.slice none 0 0,.int .i64 0,.int .i64 0,.int .i64 0]) underlying25 hi ab .i64 .i64 6 6 (by omega) (by omega) (by rw [aa];decide) (by rw [ac];decide) (by omega);rw [aa,show (6:Int).toNat=6 from rfl,Zog] at h;exact h
theorem Ud.six (w0 w:World)(hb:Bl w0 w):Ud w0 (w.alloc (.cells (Zat (List.replicate 6 Ux.zero)).toArray 65)) ⟨some ⟨w.heap.size,0,none⟩,6,6⟩ (List.replicate 6 Ux.zero):=by
 refine⟨⟨rfl,.inr ⟨w.heap.size,0,_,rfl,heap_alloc_new w _,(by show 0+6*12≤(Zat (List.replicate 6 Ux.zero)).toArray.size;decide),Nat.le_refl _,(by show (6:Nat)≤maxLen;unfold maxLen;decide),rfl⟩⟩,fun k hk=>?_,Zac hb (Zab w _),(fun x hx=>?_),fun x hx=>?_⟩
 · have e:some w.heap.size=some k:=hk;cases e;exact hb.size
 · rw [(List.mem_replicate.1 hx).2];exact Col.zero _ _
 · rw [(List.mem_replicate.1 hx).2];exact Zc6
open Go.ChangeShapes Go.WideShapes Go.ChangeAt Go.RowKit
section
variable {H : Type} {enc : TypeId × Value → H} {w : World} {base : Nat} {spare : Nat → Bool} {held : Bool}
theorem ZmO {c0 c1 c2 c3 c4 c5:Value}{y:DataW H × List MemPlace}(hf:DataW.trod enc prog w base spare held k 39 [c0,c1,c2,c3,c4,c5]=some y) :
    ∃(R:Rw) (a:Option Addr) (len cap:Nat),[c0,c1,c2,c3,c4,c5]=[.float .f64 R.key,.bool R.dead,.slice a len cap,.int .i64 R.wr,.int .i64 R.cell,.int .i64 R.no]∧Fs w a len cap R.xs∧R.fits:=by
  (have hR:prog.cellsOf 37=2:=by kernel_rfl);(have h1:prog.cellsOf 32=1:=by kernel_rfl);(have h2:prog.cellsOf 4=1:=by kernel_rfl);(have h3:prog.cellsOf 35=1:=by kernel_rfl);(have h4:prog.cellsOf 3=1:=by kernel_rfl);obtain⟨xs,n,_,_,_,ab,aa⟩:=DataW.trod_struct underlying39 hf
  match xs,ab with
  | [y0,y1,y2,y3,y4],_ =>
   (have t0:DataW.trod enc prog w base spare held n 32 [c0]=some y0:=by simpa [Value.cells,h1] using aa 0 _ rfl);(have t1:DataW.trod enc prog w base spare held n 4 [c1]=some y1:=by simpa [Value.cells,h2] using aa 1 _ rfl);(have t2:DataW.trod enc prog w base spare held n 35 [c2]=some y2:=by simpa [Value.cells,h3] using aa 2 _ rfl);(have t3:DataW.trod enc prog w base spare held n 3 [c3]=some y3:=by simpa [Value.cells,h4] using aa 3 _ rfl);(have t4:DataW.trod enc prog w base spare held n 37 [c4,c5]=some y4:=by simpa [Value.cells,hR] using aa 4 _ rfl);obtain⟨b,e0,l0⟩:=Zcu t0;obtain⟨bb,e1,_⟩:=DataW.trod_bool (by kernel_rfl:prog.underlying 4=some .bool) t1;obtain⟨k3,e3,_,w3⟩:=DataW.trod_int underlying3 t3;obtain⟨z0,z1,n',_,_,u0,u1⟩:=trod_struct2 underlying37 t4;(replace u0:DataW.trod enc prog w base spare held n' 3 [c4]=some z0:=by simpa [h4] using u0);(replace u1:DataW.trod enc prog w base spare held n' 3 [c5]=some z1:=by simpa [h4] using u1);obtain⟨k4,e4,_,w4⟩:=DataW.trod_int underlying3 u0;obtain⟨k5,e5,_,w5⟩:=DataW.trod_int underlying3 u1;obtain⟨a,len,cap,e2⟩:=Go.Joins.slice_form underlying35 t2;simp only [List.cons.injEq,and_true] at e1 e2 e3 e4 e5;subst e0 e1 e2 e3 e4 e5;obtain⟨fl,ac⟩:=Zom t2;exact⟨⟨b,bb,fl,k3,k4,k5⟩,a,len,cap,rfl,ac,⟨l0,ac.fit,w3,w4,w5⟩⟩
end
end Go.Proofs.YtiecfcjlhldhdaaGreat
