/-
  Lemmas.
-/
import Derived.Test.YtpnlebpnhmibfaaGreatMb
import Derived.Test.YtpnlebpnhmibfaaGreatRd
import Derived.Lib.SmallJoins
import Derived.Laws.Cover2
import Derived.Deep.Slices
import Derived.Test.YtpnlebpnhmibfaaGreatRe
namespace Go.Proofs.YtpnlebpnhmibfaaGreat
open Go.RowKit
set_option linter.unusedVariables false
set_option maxRecDepth 100000
set_option maxHeartbeats 4000000
variable {n:Nat}{w w':World}
open Go.ChangeShapes Go.WideShapes Go.ChangeAt Go.RowKit
structure Ag where
  do_:Int
  p:Sl
  b:Sl
  n:Int
  q:Sl
  ps:List Int
  bb:List Bt
  pat:List Bool
def agD:Ag:=⟨0,Sl.nil,Sl.nil,0,Sl.nil,[],[],[]⟩
def Ag.cells (x:Ag):Array Value:=#[.int .i64 x.do_,x.p.val,x.b.val,.int .i64 x.n,x.q.val]
structure AgIn (w:World) (x:Ag):Prop where
  p:InsI w x.p.a x.p.len x.p.cap x.ps
  b:InsB w x.b.a x.b.len x.b.cap x.bb
  q:Pat w x.q.a x.q.len x.pat
  ql:x.q.len≤9223372036854775807
  wd:(Lit.int .i64 x.do_).wf=true
  wn:(Lit.int .i64 x.n).wf=true
theorem AgIn.keep {x:Ag}(h:AgIn w x)(hb:Below w.heap.size w w'):AgIn w' x:=⟨h.p.below hb (Nat.le_refl _),h.b.below hb (Nat.le_refl _),h.q.keep hb,h.ql,h.wd,h.wn⟩
section
variable {H : Type} {enc : TypeId × Value → H} {w : World} {base : Nat} {spare : Nat → Bool} {held : Bool}
theorem ZkM {cs:List Value}{y:DataW H × List MemPlace}(hf:DataW.trod enc Tryz.prog w base spare held n 50 cs=some y) :
    ∃x:Ag,cs=x.cells.toList∧AgIn w x:=by
  (have hC:Tryz.prog.cellsOf 50=5:=by kernel_rfl);(have h1:Tryz.prog.cellsOf 3=1:=by kernel_rfl);(have h2:Tryz.prog.cellsOf 46=1:=by kernel_rfl);(have h3:Tryz.prog.cellsOf 47=1:=by kernel_rfl);(have h4:Tryz.prog.cellsOf 48=1:=by kernel_rfl);obtain⟨xs,m,_,_,ac,ab,aa⟩:=DataW.trod_struct Tryz.underlying50 hf;rw [hC] at ac
  match cs,ac with
  | [c0,c1,c2,c3,c4],_ =>
   match xs,ab with
   | [y0,y1,y2,y3,y4],_ =>
    (have t0:DataW.trod enc Tryz.prog w base spare held m 3 [c0]=some y0:=by simpa [h1] using aa 0 _ rfl);(have t1:DataW.trod enc Tryz.prog w base spare held m 46 [c1]=some y1:=by simpa [h1,h2] using aa 1 _ rfl);(have t2:DataW.trod enc Tryz.prog w base spare held m 47 [c2]=some y2:=by simpa [h1,h2,h3] using aa 2 _ rfl);(have t3:DataW.trod enc Tryz.prog w base spare held m 3 [c3]=some y3:=by simpa [h1,h2,h3] using aa 3 _ rfl);(have t4:DataW.trod enc Tryz.prog w base spare held m 48 [c4]=some y4:=by simpa [h1,h2,h3,h4] using aa 4 _ rfl);obtain⟨k0,e0,_,w0⟩:=DataW.trod_int Tryz.underlying3 t0;obtain⟨k3,e3,_,w3⟩:=DataW.trod_int Tryz.underlying3 t3;obtain⟨a1,len1,cap1,e1⟩:=Go.Joins.slice_form Tryz.underlying46 t1;obtain⟨a2,len2,cap2,e2⟩:=Go.Joins.slice_form Tryz.underlying47 t2;obtain⟨a4,len4,cap4,e4⟩:=Go.Joins.slice_form Tryz.underlying48 t4;simp only [List.cons.injEq,and_true] at e0 e1 e2 e3 e4;subst e0 e1 e2 e3 e4;obtain⟨ps,hp⟩:=Zki t1;obtain⟨bb,hb⟩:=ZlM t2;obtain⟨pat,hq,ad⟩:=ZlN t4;exact⟨⟨k0,⟨a1,len1,cap1⟩,⟨a2,len2,cap2⟩,k3,⟨a4,len4,cap4⟩,ps,bb,pat⟩,rfl,⟨hp,hb,hq,ad,w0,w3⟩⟩
end
structure AgAt (w:World) (b off:Nat) (t:Ag):Prop where
  c0:w.cell? ⟨b,off,none⟩=some (.int .i64 t.do_)
  c1:w.cell? ⟨b,off+1,none⟩=some (.slice t.p.a t.p.len t.p.cap)
  c2:w.cell? ⟨b,off+2,none⟩=some (.slice t.b.a t.b.len t.b.cap)
  c3:w.cell? ⟨b,off+3,none⟩=some (.int .i64 t.n)
  c4:w.cell? ⟨b,off+4,none⟩=some (.slice t.q.a t.q.len t.q.cap)
  inn:AgIn w t
structure Ags (w:World) (a:Option Addr) (len:Nat) (l:List Ag):Prop where
  len_:l.length=len
  big:len≤9223372036854775807
  at_:∀j,j<len→∃b off,a=some ⟨b,off,none⟩∧AgAt w b (off+j*5) (l.getD j agD)
theorem AgAt.keep {b off:Nat}{t:Ag}(aa:AgAt w b off t)(hb:Below w.heap.size w w'):AgAt w' b off t:=by
 have k:=fun (i:Nat) (v:Value) (hc:w.cell? ⟨b,i,none⟩=some v)=>(hb.cell (World.block_lt_of_cell? w _ hc)).trans hc;exact⟨k _ _ aa.c0,k _ _ aa.c1,k _ _ aa.c2,k _ _ aa.c3,k _ _ aa.c4,aa.inn.keep hb⟩
theorem Ags.keep {a:Option Addr}{len:Nat}{l:List Ag}(h:Ags w a len l)(hb:Below w.heap.size w w'):Ags w' a len l:=by
 refine⟨h.len_,h.big,fun j hj=>?_⟩;obtain⟨b,off,ha,aa⟩:=h.at_ j hj;exact⟨b,off,ha,aa.keep hb⟩
section
variable {H : Type} {enc : TypeId × Value → H} {w : World} {base : Nat} {spare : Nat → Bool} {held : Bool}
theorem ZoM {a:Option Addr}{len cap:Nat}{y:DataW H × List MemPlace}(h:DataW.trod enc Tryz.prog w base spare held n 22 [.slice a len cap]=some y) :
    ∃l,Ags w a len l:=by
  (have hC:Tryz.prog.cellsOf 50=5:=by kernel_rfl);rcases Go.Deep.open_slice Tryz.underlying22 h with ⟨aa,_⟩ | ⟨x,l,c,m,k,D,Pl,aa,hb,hl,hm,ae,_,hx⟩
  · simp only [List.cons.injEq,Value.slice.injEq,and_true] at aa;obtain⟨rfl,rfl,rfl⟩:=aa;exact⟨[],⟨rfl,by omega,fun j hj=>by omega⟩⟩
  · simp only [List.cons.injEq,Value.slice.injEq,and_true] at aa;obtain⟨rfl,rfl,rfl⟩:=aa;(have ag:len≤m:=by rw [ae];split <;> omega);have af:0<len→x.spot=none:=by
     intro h0;obtain⟨cs,h1,_⟩:=hx 0 (by omega);rw [hC] at h1;obtain⟨_,ab,hc⟩:=World.cells?_some h1
     match cs,ab with
     | [c0,c1,c2,c3,c4],_ =>
      have e0:=hc 0 (by omega);have:=World.cell?_spot (by simpa using e0);simpa [Addr.add] using this
    have each:∀i,i<len→∃t:Ag,(∃b off,x=⟨b,off,none⟩∧AgAt w b (off+i*5) t):=by
     intro i hi;obtain⟨cs,h1,h2⟩:=hx i (by omega);rw [hC] at h1;obtain⟨_,ab,hc⟩:=World.cells?_some h1;obtain⟨t,rfl,ad⟩:=ZkM h2;have e0:=hc 0 (by omega);have e1:=hc 1 (by omega);have e2:=hc 2 (by omega);have e3:=hc 3 (by omega);have e4:=hc 4 (by omega);obtain⟨b,off,spot⟩:=x;have ac:spot=none:=af (by omega);subst ac;refine⟨t,b,off,rfl,?_⟩;simp only [Addr.add_lit] at e0 e1 e2 e3 e4;exact⟨by simpa [Ag.cells,Sl.val] using e0,by simpa [Ag.cells,Sl.val] using e1,by simpa [Ag.cells,Sl.val] using e2,by simpa [Ag.cells,Sl.val] using e3,by simpa [Ag.cells,Sl.val] using e4,ad⟩
    obtain⟨f,hf⟩:=@Go.Deep.choose_lt Ag ⟨agD⟩ len _ each;refine⟨(List.range len).map f,⟨by simp,by unfold maxLen at hm;omega,?_⟩⟩;intro j hj;obtain⟨b,off,rfl,hit⟩:=hf j hj;refine⟨b,off,rfl,?_⟩;(have:((List.range len).map f).getD j agD=f j:=by simp [List.getD,hj]);rw [this];exact hit
end
def Ag.grp (x:Ag):List Im:=Zc3 x.ps (bts x.bb) (cnt x.p.len x.b.len)
theorem ZjE (w:World)(x:Ag)(h:AgIn w x):Calls Tryz.prog 14 #[.agg x.cells] w fun e w'=>ZiV w x.grp e w':=by
 have hA:=Zaa w (.cells x.cells 50);have HI:=hide (Zi2 _ _ _ _ _ (h.keep hA).p _ _ _ _ (h.keep hA).b);have HA:=hide hA;obtain⟨dd,⟨pa,pl,pc⟩,⟨ba,bl,bc⟩,nn,⟨qa,ql,qc⟩,ps,bb,pat⟩:=x;unfold Ag.cells at *;unfold Ag.grp;unfold Sl.val at *;simp only at *;clear h hA;go_enter Tryz.func14,Tryz.ntmps14;go_wp2_with fail;refine HI.out.mono ?_;rintro e w1 ⟨v,l,rfl,hg,hi,hb⟩;have HE:Hid (GI (fun k=>w.heap.size≤k) w.heap.size w1 v l∧ims l=Zc3 ps (bts bb) (cnt pl bl)∧Below w.heap.size w w1):=by
  refine⟨⟨hg.own,fun k hk=>Nat.le_trans HA.out.size (hg.blk k hk),fun y hy=>(hg.bs y hy).mono (fun k hk _=>⟨Nat.le_trans HA.out.size hk.1,hk.2⟩)⟩,hi,ZbY HA.out hb⟩
 clear hg hi hb HI;obtain⟨va,vl,vc⟩:=v;unfold Sl.val;go_wp2_with fail;go_ret;exact⟨⟨va,vl,vc⟩,l,rfl,HE.out⟩
theorem Zka {g:List Im}(h:May g)(hl:(g.getD (g.length-1) Im.zero).page<(n:Int)):∀x∈g,0≤x.page∧x.page<(n:Int):=by
 have key:∀d i,i+d+1=g.length→(g.getD i Im.zero).page≤(g.getD (g.length-1) Im.zero).page:=by
  intro d
  induction d with
  | zero=>intro i hi;rw [show g.length-1=i by omega];exact Int.le_refl _
  | succ d ih =>
   intro i hi;have h1:=ih (i+1) (by omega);have h2:=(h.2.2 (i+1) (by omega)).2.1;unfold prevP at h2;rw [if_neg (by omega),Nat.add_sub_cancel] at h2;omega
 intro x hx;obtain⟨i,hi,rfl⟩:=List.mem_iff_getElem.1 hx;(have e:g.getD i Im.zero=g[i]:=by simp [List.getD,hi]);have h1:=key (g.length-1-i) i (by omega);have h2:=(h.2.2 i hi).1;rw [e] at h1 h2;exact⟨h2,by omega⟩
theorem ZgG {P:Po}{g:List Im}(h:P.applyE n g=0):May g∧(∀x∈g,0≤x.page∧x.page<(n:Int))∧P.D.ss.length+(recd g).length≤65536:=by
 unfold Po.applyE at h;by_cases hm:May g
 · rw [if_neg (not_not_intro hm)] at h;by_cases h2:(n:Int)≤(g.getD (g.length-1) Im.zero).page
   · rw [if_pos h2] at h;cases h
   · rw [if_neg h2] at h;by_cases h3:65536<P.D.ss.length+(recd g).length
     · rw [if_pos h3] at h;cases h
     · exact⟨hm,Zka hm (by omega),by omega⟩
 · rw [if_pos hm] at h;cases h
section
variable {M : PoM} {w wr : World} {m p d c s : Nat} {v : Sl}
end
theorem ZnO (b o:Nat)(w:World):(Instr.fieldAt 76 (.pointer (some ⟨b,o,none⟩)) 1).run Tryz.prog w=.ok (.pointer (some ⟨b,o+1,none⟩)) w:=by simp [go_sem,Instr.fieldAt]
end Go.Proofs.YtpnlebpnhmibfaaGreat
