/-
  Lemmas.
-/
import Derived.Test.YtpnlebpnhmibfaaGreatDb
import Derived.Test.YtpnlebpnhmibfaaGreatBd
namespace Go.Proofs.YtpnlebpnhmibfaaGreat
open Go.RowKit
set_option linter.unusedVariables false
set_option maxRecDepth 100000
set_option maxHeartbeats 4000000
variable {w wr:World}{d:Dv}{L:DvL}{s:Sl}
variable {K : Home}
theorem Zbk (d:Dv)(L:DvL)(w:World):Calls Tryz.prog 28 #[d.val L] w fun e w'=>Below w.heap.size w w'∧e=.returned (d.now.val L.np L.ns):=by
 obtain⟨kept,now,done,gone,armed⟩:=d;obtain⟨kp,ks,np,ns,ds⟩:=L;have HB:Hid (DkBlk ((w.alloc (.cells #[kp.val,.int .i64 kept.base,ks.val,np.val,.int .i64 now.base,ns.val,ds.val,.bool gone,.int .i64 armed] 37)).alloc (.cells #[np.val,.int .i64 now.base,ns.val] 34)) (w.heap.size+1) np.val now.base ns.val):=by
  have:=Zbu (w.alloc (.cells #[kp.val,.int .i64 kept.base,ks.val,np.val,.int .i64 now.base,ns.val,ds.val,.bool gone,.int .i64 armed] 37)) np.val now.base ns.val;exact hide (by simpa using this)
 have HW:=hide (Za6 w (.cells #[kp.val,.int .i64 kept.base,ks.val,np.val,.int .i64 now.base,ns.val,ds.val,.bool gone,.int .i64 armed] 37) (.cells #[np.val,.int .i64 now.base,ns.val] 34));obtain⟨na,nl,nc⟩:=np;obtain⟨sa,sl,sc⟩:=ns;obtain⟨ka,kl,kc⟩:=kp;obtain⟨ta,tl,tc⟩:=ks;obtain⟨da,dl,dc⟩:=ds;unfold Dv.val;unfold Sl.val at *;simp only at HB HW ⊢;go_enter Tryz.func28,Tryz.ntmps28;go_wp2_with fail;refine bodyPost_ret (Zd0 (d:=now) (p:=⟨na,nl,nc⟩) (s:=⟨sa,sl,sc⟩) rfl HB.out _ rfl) rfl ?_;exact⟨HW.out,rfl⟩
def pendA:List Pt→Nat
  | []=>0
  | u :: r=>(if 0≤u.at_ then 1 else 0)+pendA r
def pendB:List Pt→Nat
  | []=>0
  | u :: r=>(if 0≤u.at_ then 0 else u.size)+pendB r
theorem Zko (l:List Pt)(u:Pt):pendA (l ++ [u])=pendA l+(if 0≤u.at_ then 1 else 0)∧pendB (l ++ [u])=pendB l+(if 0≤u.at_ then 0 else u.size):=by
 induction l with
 | nil=>simp [pendA,pendB]
 | cons x r ih =>
  simp only [List.cons_append,pendA,pendB];rw [ih.1,ih.2];omega
theorem ZhL (l:List Pt):pendA l≤l.length:=by
 induction l with
 | nil=>simp [pendA]
 | cons x r ih=>simp only [pendA,List.length_cons];split <;> omega
theorem Zgt (l m:List Pt):pendB (l ++ m)=pendB l+pendB m:=by
 induction l with
 | nil=>simp [pendB]
 | cons x r ih=>simp only [List.cons_append,pendB];rw [ih];omega
theorem ZiC (l:List PtS)(j:Nat):pendB ((l.take j).map (·.u))≤pendB (l.map (·.u)):=by
 (have:l.map (·.u)=(l.take j).map (·.u) ++ (l.drop j).map (·.u):=by rw [← List.map_append,List.take_append_drop]);rw [this,Zgt];omega
theorem ZeL (d:Dv)(L:DvL)(w:World)(h:DvIn K w d L)(ay:d.done.length≤1000)(ap:pendB (d.done.map (·.u))≤1000000):Calls Tryz.prog 31 #[d.val L] w fun e w'=>Below w.heap.size w w'∧e=.returned (.tuple #[.int .i64 ((pendA (d.done.map (·.u)):Nat):Int),.int .i64 ((pendB (d.done.map (·.u)):Nat):Int)]):=by
 obtain⟨kept,now,done,gone,armed⟩:=d;obtain⟨kp,ks,np,ns,ds⟩:=L;have HD:=hide h.done;have an:done.length=ds.len:=h.done.1;simp only at ay ap;have au:=hide (Zaa w (.cells #[kp.val,.int .i64 kept.base,ks.val,np.val,.int .i64 now.base,ns.val,ds.val,.bool gone,.int .i64 armed] 37));have aw:Hid (DvBlk (w.alloc (.cells #[kp.val,.int .i64 kept.base,ks.val,np.val,.int .i64 now.base,ns.val,ds.val,.bool gone,.int .i64 armed] 37)) w.heap.size kp.val kept.base ks.val np.val now.base ns.val ds.val gone armed):=ZaM w _ _ _ _ _ _ _ _ _;clear h;have ax:=hide ap;clear ap;unfold Dv.val;simp only at HD ⊢;go_enter Tryz.func31,Tryz.ntmps31;go_wp2_with fail;go_loopw [4,5,6] (fun ua ub i wr=>∃j:Nat,j≤done.length∧i=.int .i64 j∧ua=.int .i64 ((pendA ((done.take j).map (·.u)):Nat):Int)∧ub=.int .i64 ((pendB ((done.take j).map (·.u)):Nat):Int)∧Hid (Below w.heap.size w wr)∧Hid (DvBlk wr w.heap.size kp.val kept.base ks.val np.val now.base ns.val ds.val gone armed)) (fun _ _ i _=>done.length-(intOf i).toNat)
 case atStart=>exact ⟨0,by omega,rfl,rfl,rfl,au,aw⟩
 case round =>
  obtain⟨j,hj,rfl,rfl,rfl,hB,ak⟩:=hrel;have c6:=ak.out.c6;obtain⟨da,dl,dc⟩:=ds;simp only at an;unfold Sl.val at c6;simp only at c6;rcases Nat.lt_or_ge j done.length with ar | bd
  · obtain⟨b,off,ha,c0,c1,c2,c3,_⟩:=(HD.out.keep hB.out (Nat.le_refl _)).2.2 j (by show j<dl;omega);have ag:=(HD.out.keep hB.out (Nat.le_refl _)).okAt j (by show j<dl;omega);obtain⟨x,hx⟩:∃x,x=done.getD j ptD:=⟨_,rfl⟩;rw [← hx] at c0 c1 c2 c3 ag;have ao:(done.take (j+1)).map (·.u)=(done.take j).map (·.u) ++ [x.u]:=by
     (have e:done[j]=x:=by rw [hx];simp [List.getD,ar]);rw [List.take_succ_eq_append_getElem ar,e,List.map_append];rfl
    obtain⟨p1,p2⟩:=Zko ((done.take j).map (·.u)) x.u;rw [← ao] at p1 p2;have ab:=hide p1;have aa:=hide p2;have hA:=ZhL ((done.take j).map (·.u));(have bc:((done.take j).map (·.u)).length≤1000:=by simp;omega);have ac:=hide (Zbb x.u x.q wr ag.1);simp only at ha;subst ha;(have i1:(j:Int)<(dl:Int):=by omega);have ad:=ZiC done (j+1);have aq:=ax.out;obtain⟨pa,ae⟩:∃pa,pa=pendA ((done.take j).map (·.u)):=⟨_,rfl⟩;obtain⟨pb,af⟩:∃pb,pb=pendB ((done.take j).map (·.u)):=⟨_,rfl⟩;rw [← ae] at hA ab;rw [← af] at aa;rw [← ae,← af];have ba:=hide ae;have bb:=hide af;by_cases h0:0≤x.u.at_
    · (have w1:IntKind.i64.wrap ((pa:Int)+1)=(pa:Int)+1:=by rw [IntKind.wrap_i64];omega);(have ai:Hid (pendA ((done.take (j+1)).map (·.u))=pa+1):=by have:=ab.out;rw [if_pos h0] at this;exact this);(have aj:Hid (pendB ((done.take (j+1)).map (·.u))=pb):=by have:=aa.out;rw [if_pos h0,Nat.add_zero] at this;exact this);clear p1 p2 hx ao ae af ac ad aq ag ab aa c1 c2 c3;go_wp2_with fail;go_roundw
      case rel=>exact ⟨j+1,by omega,by go_num,by rw [ai.out];go_num,by rw [aj.out],hB,ak⟩
      case measure=>simp only [intOf];omega
    · (have az:pb+x.u.size≤1000000:=by have:=aa.out;rw [if_neg h0] at this;omega);obtain⟨z,hz⟩:∃z,z=x.u.size:=⟨_,rfl⟩;rw [← hz] at az ac;(have w1:IntKind.i64.wrap ((pb:Int)+(z:Int))=(pb:Int)+(z:Int):=by rw [IntKind.wrap_i64];omega);(have ai:Hid (pendA ((done.take (j+1)).map (·.u))=pa):=by have:=ab.out;rw [if_neg h0,Nat.add_zero] at this;exact this);(have aj:Hid (pendB ((done.take (j+1)).map (·.u))=pb+z):=by have:=aa.out;rw [if_neg h0,← hz] at this;exact this);(have h0':x.u.at_<0:=by omega);obtain⟨⟨xa,xb,xt,xo⟩,⟨qa,ql,qc⟩⟩:=x;unfold Pt.val Sl.val at ac;unfold Sl.val at c1;simp only at ac c0 c1 c2 c3 h0 h0';clear p1 p2 hx ao ae af ad aq ag ab aa hz;go_wp2_with fail;refine ac.out.mono ?_;rintro e w2 ⟨rfl,al⟩;have av:=hide (hB.out.trans (al.mono hB.out.size));have ah:=hide (ak.out.keep al);clear al;go_wp2_with fail;go_roundw
      case rel=>exact ⟨j+1,by omega,by go_num,by rw [ai.out],by rw [aj.out];go_num,av,ah⟩
      case measure=>simp only [intOf];omega
  · obtain rfl:j=done.length:=by omega

    (have i1:¬(done.length:Int)<(dl:Int):=by omega);(have am:dl=done.length:=by omega);subst am;go_wp2_with fail;go_ret2;exact⟨hB.out,rfl⟩
theorem ZjS (g:Nat)(d:Dk)(p s:Sl)(w:World)(h:DkBlk w g p.val d.base s.val):(Instr.loadAt 34 (.pointer (some ⟨g,0,none⟩))).run Tryz.prog w=.ok (d.val p s) w:=by
 have c0:=h.c0;have c1:=h.c1;have c2:=h.c2;unfold Sl.val at c0 c2;unfold Dk.val Sl.val;simp [go_sem,c0,c1,c2]
theorem ZhX (g:Nat)(d:Dk)(p s:Sl)(w:World){x0 y0:Sl}{b0:Int}(h:DkBlk w g x0.val b0 y0.val):(Instr.storeAt 34 (.pointer (some ⟨g,0,none⟩)) (d.val p s)).run Tryz.prog w=.ok () (setDk w g p.val d.base s.val):=by
 have h1:=h.set0 p.val;have h2:=heap_setCell_same _ g 1 _ 34 (.int .i64 d.base) h1;have c0:=h.c0;have c1:=h1.c1;have f0:=h.fz;have f1:=h1.fz;have c2:((w.setCell ⟨g,0,none⟩ p.val).setCell ⟨g,1,none⟩ (.int .i64 d.base)).cell? ⟨g,2,none⟩=some y0.val:=(Addr.cell0 h2).trans rfl;have f2:((w.setCell ⟨g,0,none⟩ p.val).setCell ⟨g,1,none⟩ (.int .i64 d.base)).frozen? ⟨g,2,none⟩=false:=frozen_of_row _ g _ _ 34 h2;unfold Sl.val at c0 c1 c2 f1 f2;unfold setDk Dk.val Sl.val;simp [go_sem,Instr.storeAt,c0,c1,c2,f0,f1,f2]
theorem ZjU (b o:Nat)(i:PtS)(w:World)(h:PtAt w b o i):(Instr.loadAt 117 (.pointer (some ⟨b,o,none⟩))).run Tryz.prog w=.ok (i.u.val i.q) w:=by
 obtain⟨c0,c1,c2,c3,_⟩:=h;unfold Sl.val at c1;unfold Pt.val Sl.val;simp [go_sem,c0,c1,c2,c3]
theorem Zhu (w:World):(Instr.alloc 117 true (.tuple #[])).run Tryz.prog w=.ok (.pointer (some ⟨w.heap.size,0,none⟩)) (w.alloc (.cells #[.int .i64 0,.slice none 0 0,.bool false,.int .i64 0] 117)):=by
 simp [go_sem,Instr.alloc]
theorem Ze7 (u:Pt)(q:Sl)(w:World):(Instr.storeAt 117 (.pointer (some ⟨w.heap.size,0,none⟩)) (u.val q)).run Tryz.prog (w.alloc (.cells #[.int .i64 0,.slice none 0 0,.bool false,.int .i64 0] 117))=.ok () (w.alloc (.cells #[.int .i64 u.at_,q.val,.bool u.trim,.int .i64 u.to] 117)):=
 run_storeAt_new w 117 #[.int .i64 0,.slice none 0 0,.bool false,.int .i64 0] #[.int .i64 u.at_,q.val,.bool u.trim,.int .i64 u.to] (by kernel_rfl) rfl (by simp [Sl.val,Value.oneCell'])
def Zar (bs:List Bool):List Pt→Dk→Nat→Int→Dk
  | [],x,_,_=>x
  | u :: r,x,k,n =>
    if 0≤u.at_ then Zar bs r (if hit bs k=true then x.turn u else x) (k+1) n
    else Zar bs r (if (u.first n).2=true then x.turn (u.first n).1 else x) k (if n<(u.size:Int) then 0 else n-(u.size:Int))
def Zbj (bs:List Bool):List Pt→Dk→Nat→Int→Prop
  | [],_,_,_=>True
  | u :: r,x,k,n =>
    if 0≤u.at_ then (hit bs k=true→Fits x u)∧Zbj bs r (if hit bs k=true then x.turn u else x) (k+1) n
    else ((u.first n).2=true→Fits x (u.first n).1)∧Zbj bs r (if (u.first n).2=true then x.turn (u.first n).1 else x) k (if n<(u.size:Int) then 0 else n-(u.size:Int))
theorem Zby (bs:List Bool)(u:Pt)(r:List Pt)(x:Dk)(k:Nat)(n:Int):Zar bs (u :: r) x k n=if 0≤u.at_ then Zar bs r (if hit bs k=true then x.turn u else x) (k+1) n
    else Zar bs r (if (u.first n).2=true then x.turn (u.first n).1 else x) k (if n<(u.size:Int) then 0 else n-(u.size:Int)):=rfl
structure CrIn (K:Home) (w wr:World) (d:Dv) (L:DvL) (x:Dk) (p s:Sl):Prop where
  below:Below w.heap.size w wr
  dv:DvBlk wr w.heap.size L.kp.val d.kept.base L.ks.val L.np.val d.now.base L.ns.val L.ds.val d.gone d.armed
  zero:DvBlk wr (w.heap.size+1) Sl.nil.val 0 Sl.nil.val Sl.nil.val 0 Sl.nil.val Sl.nil.val false 0
  dk:DkBlk wr (w.heap.size+1+1) p.val x.base s.val
  din:DkIn K wr x p s
  size:w.heap.size+1+1<wr.heap.size
theorem CrIn.keep {w':World}{x:Dk}{p:Sl}(h:CrIn K w wr d L x p s)(hb:Below wr.heap.size wr w'):CrIn K w w' d L x p s:=
 ⟨h.below.trans (hb.mono h.below.size),h.dv.keep hb,h.zero.keep hb,h.dk.keep hb,h.din.keep hb (Nat.le_refl _),Nat.lt_of_lt_of_le h.size hb.size⟩
theorem CrIn.set {x y:Dk}{p p' s':Sl}(h:CrIn K w wr d L x p s)(hy:DkIn K wr y p' s'):CrIn K w (setDk wr (w.heap.size+1+1) p'.val y.base s'.val) d L y p' s':=by
 have ho:=Zcu wr (w.heap.size+1+1) p'.val y.base s'.val;refine⟨ZcV h.below (by omega) _ _ _,h.dv.other (ho _ (by omega)),h.zero.other (ho _ (by omega)),Zg4 h.dk _ _ _,?_,by rw [Zax];exact h.size⟩;exact hy.other (DkBlk.no8 h.dk) ho (by rw [Zax];exact Nat.le_refl _)
theorem Zgx (d : Dv) (L : DvL) (w : World) (h : DvIn K w d L) (pa : Option Addr) (pl pc : Nat) (bs : List Bool) (hpat : Pat w pa pl bs) (hpl : pl ≤ 1000) (u : Int) (hu : (Lit.int .i64 u).wf = true) (hdl : d.done.length ≤ 1000) (hok : Zbj bs (d.done.map (·.u)) d.kept 0 u) :
    Calls Tryz.prog 27 #[d.val L, .slice pa pl pc, .int .i64 u] w fun e w' => Below w.heap.size w w' ∧ ∃ L', e = .returned (Dv.val ⟨Zar bs (d.done.map (·.u)) d.kept 0 u, Zar bs (d.done.map (·.u)) d.kept 0 u, [], false, -1⟩ L') ∧ DvIn K w' ⟨Zar bs (d.done.map (·.u)) d.kept 0 u, Zar bs (d.done.map (·.u)) d.kept 0 u, [], false, -1⟩ L' := by
  have HH := hide h;have HPAT := hide hpat;have hlen : d.done.length = L.ds.len := h.done.1;obtain ⟨W, hW⟩ : ∃ W, W = ((w.alloc (.cells #[L.kp.val, .int .i64 d.kept.base, L.ks.val, L.np.val, .int .i64 d.now.base, L.ns.val, L.ds.val, .bool d.gone, .int .i64 d.armed] 37)).alloc (.cells #[Sl.nil.val, .int .i64 0, Sl.nil.val, Sl.nil.val, .int .i64 0, Sl.nil.val, Sl.nil.val, .bool false, .int .i64 0] 37)).alloc (.cells #[L.kp.val, .int .i64 d.kept.base, L.ks.val] 34) := ⟨_, rfl⟩;have HC0 : Hid (CrIn K w W d L d.kept L.kp L.ks) := by
    have hT := Zdv w d L;unfold twoW at hT;generalize hV : ((w.alloc (.cells #[L.kp.val, .int .i64 d.kept.base, L.ks.val, L.np.val, .int .i64 d.now.base, L.ns.val, L.ds.val, .bool d.gone, .int .i64 d.armed] 37)).alloc (.cells #[Sl.nil.val, .int .i64 0, Sl.nil.val, Sl.nil.val, .int .i64 0, Sl.nil.val, Sl.nil.val, .bool false, .int .i64 0] 37)) = V at hT hW;(have hVs : V.heap.size = w.heap.size + 1 + 1 := by rw [← hV]; simp);have hb := Zaa V (.cells #[L.kp.val, .int .i64 d.kept.base, L.ks.val] 34);rw [← hW] at hb;refine ⟨Zaf hT.below hb, hT.dv.keep hb, hT.zero.keep hb, ?_, h.kept.keep (Zaf hT.below hb) (Nat.le_refl _), ?_⟩
    · rw [hW, ← hVs];exact Zbu V _ _ _
    · rw [hW];simp;omega
  have HWE := hide hW;unfold Sl.nil Sl.val at HWE;have HOK0 := hide hok;have hub := bounds_i64 hu;clear h hpat hW hok hu;obtain ⟨kept, now, done, gone, armed⟩ := d;obtain ⟨kp, ks, np, ns, ds⟩ := L;unfold Dv.val;unfold Sl.val;simp only at HWE hlen hdl HOK0 ⊢;go_enter Tryz.func27, Tryz.ntmps27;go_wp2_with fail;rw [← HWE.out];clear HWE;go_loopw [2, 8, 9] (fun un uk ui wr => ∃ (j k : Nat) (n : Int) (x : Dk) (p s : Sl), j ≤ done.length ∧ ui = .int .i64 j ∧ uk = .int .i64 k ∧ un = .int .i64 n ∧ k ≤ j ∧ n ≤ 9223372036854775807 ∧ -9223372036854775808 ≤ n ∧ Hid (CrIn K w wr ⟨kept, now, done, gone, armed⟩ ⟨kp, ks, np, ns, ds⟩ x p s) ∧ Hid (Zbj bs ((done.drop j).map (·.u)) x k n) ∧ Hid (Zar bs (done.map (·.u)) kept 0 u = Zar bs ((done.drop j).map (·.u)) x k n)) (fun _ _ i _ => done.length - (intOf i).toNat)
  case atStart => exact ⟨0, 0, u, kept, kp, ks, by omega, rfl, rfl, rfl, by omega, hub.2, hub.1, HC0, by simpa using HOK0, hide (by simp)⟩
  case round =>
    obtain ⟨j, k, n, x, p, s, hj, rfl, rfl, rfl, hk, hn2, hn1, hC, hOK, hF⟩ := hrel;have c6 := hC.out.dv.c6;unfold Sl.val at c6;simp only at c6;have hub2 := hub;clear HOK0 HC0 hub;rcases Nat.lt_or_ge j done.length with hlt | hge
    · have hps := HH.out.done.keep hC.out.below (Nat.le_refl _);simp only at hps;obtain ⟨b, off, ha, hat⟩ := hps.2.2 j (by omega);have hpo := hps.okAt j (by omega);obtain ⟨i, hi⟩ : ∃ i, i = done.getD j ptD := ⟨_, rfl⟩;rw [← hi] at hat hpo;have hdr : (done.drop j).map (·.u) = i.u :: (done.drop (j + 1)).map (·.u) := by
        rw [List.drop_eq_getElem_cons hlt, List.map_cons, hi];simp [List.getD, hlt]
      have hok := hOK.out;have hf := hF.out;rw [hdr] at hok hf;unfold Zbj at hok;rw [Zby] at hf;have HLP := hide (ZjU b (off + j * 4) i wr hat);have HAP := hide (Zhu wr);have HSP := hide (Ze7 i.u i.q wr);obtain ⟨C, hCe⟩ : ∃ C, C = (.cells #[.int .i64 i.u.at_, i.q.val, .bool i.u.trim, .int .i64 i.u.to] 117 : Obj) := ⟨_, rfl⟩;rw [← hCe] at HSP;have hA := Zaa wr C;have HC1 := hide (hC.out.keep hA);(have hPB : PtBlk (wr.alloc C) wr.heap.size i.u.at_ i.q.val i.u.trim i.u.to := by rw [hCe]; exact ZaB wr _ _ _ _);have HPB := hide hPB;have hat0 := hPB.c0;have HPO := hide (hpo.keep hA (Nat.le_refl _));have HDK := hide (ZjS (w.heap.size + 1 + 1) x p s (wr.alloc C) HC1.out.dk);have HLP2 := hide (Zcr wr.heap.size i.u i.q (wr.alloc C) hPB);(have hj1 : (j : Int) < (ds.len : Int) := by omega);rw [ha] at c6;generalize hWa : wr.alloc C = Wa at *;(have hWs : wr.heap.size < Wa.heap.size := by rw [← hWa]; simp);clear hWa hCe hA hat hpo hps hPB hdr hi ha;by_cases h0 : 0 ≤ i.u.at_
      · rw [if_pos h0] at hok hf;have HOK := hide hok;have HF := hide hf;clear hok hf;cases hh : hit bs k
        · (have hOK2 : Hid (Zbj bs ((done.drop (j + 1)).map (·.u)) x (k + 1) n) := by have := HOK.out.2; rw [hh] at this; exact this);(have hF2 : Hid (Zar bs (done.map (·.u)) kept 0 u = Zar bs ((done.drop (j + 1)).map (·.u)) x (k + 1) n) := by have := HF.out; rw [hh] at this; exact this);have HPT := hide (HPAT.out.frm (F := fun _ => False) ⟨HC1.out.below.os, HC1.out.below.tape, HC1.out.below.output, HC1.out.below.size, fun q hq _ => HC1.out.below.block q hq⟩ (fun _ _ _ e => e));by_cases hp0 : pl = 0
          · subst hp0;clear hh HOK HF hOK hF;go_wp2_with (first | refine Zac _ rfl 117 (.tmp 25) rfl (.pointer (some ⟨b, off + j * 4, none⟩)) (i.u.val i.q) rfl HLP.out ?_ | refine Za2 _ rfl 117 rfl (.pointer (some ⟨wr.heap.size, 0, none⟩)) _ HAP.out ?_ | refine Zab _ rfl rfl 117 (.tmp 10) (.tmp 26) rfl (.pointer (some ⟨wr.heap.size, 0, none⟩)) (i.u.val i.q) rfl rfl Wa HSP.out ?_);go_roundw
            case rel => exact ⟨j + 1, k + 1, n, _, _, _, by omega, by go_num, by go_num, rfl, by omega, by omega, by omega, HC1, hOK2, hF2⟩
            case measure => simp only [intOf]; omega
          · obtain ⟨pb, po, hpa, hpc⟩ := HPT.out.at_ (k % pl) (Nat.mod_lt _ (by omega));have hv : bs.getD (k % pl) false = false := by
              have := hh;unfold hit at this;rw [HPAT.out.len_, decide_eq_true (by omega : 0 < pl), Bool.true_and] at this;exact this
            rw [hv] at hpc;(have r0 : (0 : Int) < (pl : Int) := by omega);(have r1 : ((k % pl : Nat) : Int) < (pl : Int) := by have := Nat.mod_lt k (show pl > 0 by omega); omega);have r2 : ¬ pl = 0 := hp0;subst hpa;clear hh HOK HF hOK hF hv;go_wp2_with (first | refine Zac _ rfl 117 (.tmp 25) rfl (.pointer (some ⟨b, off + j * 4, none⟩)) (i.u.val i.q) rfl HLP.out ?_ | refine Za2 _ rfl 117 rfl (.pointer (some ⟨wr.heap.size, 0, none⟩)) _ HAP.out ?_ | refine Zab _ rfl rfl 117 (.tmp 10) (.tmp 26) rfl (.pointer (some ⟨wr.heap.size, 0, none⟩)) (i.u.val i.q) rfl rfl Wa HSP.out ?_);go_roundw
            case rel => exact ⟨j + 1, k + 1, n, _, _, _, by omega, by go_num, by go_num, rfl, by omega, by omega, by omega, HC1, hOK2, hF2⟩
            case measure => simp only [intOf]; omega
        · (have hOK2 : Hid (Zbj bs ((done.drop (j + 1)).map (·.u)) (x.turn i.u) (k + 1) n) := by have := HOK.out.2; rw [hh] at this; exact this);(have hF2 : Hid (Zar bs (done.map (·.u)) kept 0 u = Zar bs ((done.drop (j + 1)).map (·.u)) (x.turn i.u) (k + 1) n) := by have := HF.out; rw [hh] at this; exact this);have HTU := hide (ZbG x p s i.u i.q Wa HC1.out.din HPO.out.1 (HOK.out.1 hh));have HPT := hide (HPAT.out.frm (F := fun _ => False) ⟨HC1.out.below.os, HC1.out.below.tape, HC1.out.below.output, HC1.out.below.size, fun q hq _ => HC1.out.below.block q hq⟩ (fun _ _ _ e => e));have hp0 : 0 < pl := by
            have := hh;unfold hit at this;rw [HPAT.out.len_] at this;simp only [Bool.and_eq_true, decide_eq_true_eq] at this;exact this.1
          obtain ⟨pb, po, hpa, hpc⟩ := HPT.out.at_ (k % pl) (Nat.mod_lt _ (by omega));have hv : bs.getD (k % pl) false = true := by
            have := hh;unfold hit at this;rw [HPAT.out.len_, decide_eq_true hp0, Bool.true_and] at this;exact this
          rw [hv] at hpc;(have r0 : (0 : Int) < (pl : Int) := by omega);(have r1 : ((k % pl : Nat) : Int) < (pl : Int) := by have := Nat.mod_lt k (show pl > 0 by omega); omega);(have r2 : ¬ pl = 0 := by omega);subst hpa;clear hh HOK HF hOK hF hv;go_wp2_with (first | refine Zac _ rfl 117 (.tmp 25) rfl (.pointer (some ⟨b, off + j * 4, none⟩)) (i.u.val i.q) rfl HLP.out ?_ | refine Za2 _ rfl 117 rfl (.pointer (some ⟨wr.heap.size, 0, none⟩)) _ HAP.out ?_ | refine Zab _ rfl rfl 117 (.tmp 10) (.tmp 26) rfl (.pointer (some ⟨wr.heap.size, 0, none⟩)) (i.u.val i.q) rfl rfl Wa HSP.out ?_ | refine Zac _ rfl 34 (.tmp 7) rfl (.pointer (some ⟨w.heap.size + 1 + 1, 0, none⟩)) (x.val p s) rfl HDK.out ?_ | refine Zac _ rfl 117 (.tmp 10) rfl (.pointer (some ⟨wr.heap.size, 0, none⟩)) (i.u.val i.q) rfl HLP2.out ?_);refine HTU.out.mono ?_;rintro e w2 ⟨hb2, p2, s2, rfl, hin2⟩;have HC2 := HC1.out.keep hb2;have HSD := hide (ZhX (w.heap.size + 1 + 1) (x.turn i.u) p2 s2 w2 HC2.dk);have HC3 := hide (HC2.set hin2);clear hb2 hin2 HC2;generalize hWb : setDk w2 (w.heap.size + 1 + 1) p2.val (x.turn i.u).base s2.val = Wb at HSD HC3;clear hWb;go_wp2_with (refine Zab _ rfl rfl 34 (.tmp 7) (.tmp 44) rfl (.pointer (some ⟨w.heap.size + 1 + 1, 0, none⟩)) ((x.turn i.u).val p2 s2) rfl rfl Wb HSD.out ?_);go_roundw
          case rel => exact ⟨j + 1, k + 1, n, _, _, _, by omega, by go_num, by go_num, rfl, by omega, by omega, by omega, HC3, hOK2, hF2⟩
          case measure => simp only [intOf]; omega
      · rw [if_neg h0] at hok hf;have HOK := hide hok;have HF := hide hf;clear hok hf;have HFI := hide (ZbQ i.u i.q n Wa HPO.out.1);(have h0' : i.u.at_ < 0 := by omega);clear hOK hF;go_wp2_with (first | refine Zac _ rfl 117 (.tmp 25) rfl (.pointer (some ⟨b, off + j * 4, none⟩)) (i.u.val i.q) rfl HLP.out ?_ | refine Za2 _ rfl 117 rfl (.pointer (some ⟨wr.heap.size, 0, none⟩)) _ HAP.out ?_ | refine Zab _ rfl rfl 117 (.tmp 10) (.tmp 26) rfl (.pointer (some ⟨wr.heap.size, 0, none⟩)) (i.u.val i.q) rfl rfl Wa HSP.out ?_ | refine Zac _ rfl 117 (.tmp 10) rfl (.pointer (some ⟨wr.heap.size, 0, none⟩)) (i.u.val i.q) rfl HLP2.out ?_);refine HFI.out.mono ?_;rintro e w2 ⟨hb2, q2, rfl, hq2⟩;obtain ⟨f1, hf1⟩ : ∃ f1, f1 = (i.u.first n).1 := ⟨_, rfl⟩;obtain ⟨f2, hf2⟩ : ∃ f2, f2 = (i.u.first n).2 := ⟨_, rfl⟩;rw [← hf1] at hq2;have hok2 := HOK.out;have hff2 := HF.out;rw [← hf1, ← hf2] at hok2 hff2;rw [← hf1, ← hf2];have HAP2 := hide (Zhu w2);have HSP2 := hide (Ze7 f1 q2 w2);obtain ⟨C2, hC2⟩ : ∃ C2, C2 = (.cells #[.int .i64 f1.at_, q2.val, .bool f1.trim, .int .i64 f1.to] 117 : Obj) := ⟨_, rfl⟩;rw [← hC2] at HSP2;have hA2 := Zaa w2 C2;have HC2 := hide ((HC1.out.keep hb2).keep hA2);have HPX := hide (And.intro ((HPB.out.keep hb2).keep hA2) ((HPO.out.1.keep hb2 (Nat.le_refl _)).keep hA2 (Nat.le_refl _)));(have hP2 : PtBlk (w2.alloc C2) w2.heap.size f1.at_ q2.val f1.trim f1.to := by rw [hC2]; exact ZaB w2 _ _ _ _);have HLP3 := hide (Zcr w2.heap.size f1 q2 (w2.alloc C2) hP2);have HQ2 := hide (hq2.keep hA2 (Nat.le_refl _));have HDK2 := hide (ZjS (w.heap.size + 1 + 1) x p s (w2.alloc C2) HC2.out.dk);generalize hWc : w2.alloc C2 = Wc at *;clear hWc hC2 hA2 hb2 hq2 hP2 hf1 hf2 HFI HOK HF;cases f2
        · have hOK3 : Hid (Zbj bs ((done.drop (j + 1)).map (·.u)) x k (if n < (i.u.size : Int) then 0 else n - (i.u.size : Int))) := hok2.2;have hF3 : Hid (Zar bs (done.map (·.u)) kept 0 u = Zar bs ((done.drop (j + 1)).map (·.u)) x k (if n < (i.u.size : Int) then 0 else n - (i.u.size : Int))) := hff2;clear hok2 hff2;have HSZ := hide (Zbb i.u i.q Wc (HPX.out.2));have HLP4 := hide (Zcr wr.heap.size i.u i.q Wc HPX.out.1);by_cases hlt2 : n < (i.u.size : Int)
          · rw [if_pos hlt2] at hOK3 hF3;go_wp2_with (first | refine Za2 _ rfl 117 rfl (.pointer (some ⟨w2.heap.size, 0, none⟩)) _ HAP2.out ?_ | refine Zab _ rfl rfl 117 (.tmp 11) (.tmp 51) rfl (.pointer (some ⟨w2.heap.size, 0, none⟩)) (f1.val q2) rfl rfl Wc HSP2.out ?_ | refine Zac _ rfl 117 (.tmp 10) rfl (.pointer (some ⟨wr.heap.size, 0, none⟩)) (i.u.val i.q) rfl HLP4.out ?_);refine HSZ.out.mono ?_;rintro e w5 ⟨rfl, hb5⟩;have HC5 := hide (HC2.out.keep hb5);clear hb5;go_wp2_with fail;go_roundw
            case rel => exact ⟨j + 1, k, 0, _, _, _, by omega, by go_num, rfl, rfl, by omega, by omega, by omega, HC5, hOK3, hF3⟩
            case measure => simp only [intOf]; omega
          · rw [if_neg hlt2] at hOK3 hF3;(have hsub : IntKind.i64.wrap (n - (i.u.size : Int)) = n - (i.u.size : Int) := by rw [IntKind.wrap_i64]; omega);(have hge2 : (i.u.size : Int) ≤ n := by omega);go_wp2_with (first | refine Za2 _ rfl 117 rfl (.pointer (some ⟨w2.heap.size, 0, none⟩)) _ HAP2.out ?_ | refine Zab _ rfl rfl 117 (.tmp 11) (.tmp 51) rfl (.pointer (some ⟨w2.heap.size, 0, none⟩)) (f1.val q2) rfl rfl Wc HSP2.out ?_ | refine Zac _ rfl 117 (.tmp 10) rfl (.pointer (some ⟨wr.heap.size, 0, none⟩)) (i.u.val i.q) rfl HLP4.out ?_);refine HSZ.out.mono ?_;rintro e w5 ⟨rfl, hb5⟩;have HC5 := hide (HC2.out.keep hb5);have HSZ6 := hide (Zbb i.u i.q w5 (HPX.out.2.keep hb5 (Nat.le_refl _)));have HLP6 := hide (Zcr wr.heap.size i.u i.q w5 (HPX.out.1.keep hb5));clear hb5;go_wp2_with (refine Zac _ rfl 117 (.tmp 10) rfl (.pointer (some ⟨wr.heap.size, 0, none⟩)) (i.u.val i.q) rfl HLP6.out ?_);refine HSZ6.out.mono ?_;rintro e w6 ⟨rfl, hb6⟩;have HC6 := hide (HC5.out.keep hb6);clear hb6;go_wp2_with fail;go_roundw
            case rel => exact ⟨j + 1, k, n - (i.u.size : Int), _, _, _, by omega, by go_num, rfl, rfl, by omega, by omega, by omega, HC6, hOK3, hF3⟩
            case measure => simp only [intOf]; omega
        · have hOK3 : Hid (Zbj bs ((done.drop (j + 1)).map (·.u)) (x.turn f1) k (if n < (i.u.size : Int) then 0 else n - (i.u.size : Int))) := hok2.2;have hF3 : Hid (Zar bs (done.map (·.u)) kept 0 u = Zar bs ((done.drop (j + 1)).map (·.u)) (x.turn f1) k (if n < (i.u.size : Int) then 0 else n - (i.u.size : Int))) := hff2;have HTU := hide (ZbG x p s f1 q2 Wc HC2.out.din HQ2.out (hok2.1 rfl));clear hok2 hff2;go_wp2_with (first | refine Za2 _ rfl 117 rfl (.pointer (some ⟨w2.heap.size, 0, none⟩)) _ HAP2.out ?_ | refine Zab _ rfl rfl 117 (.tmp 11) (.tmp 51) rfl (.pointer (some ⟨w2.heap.size, 0, none⟩)) (f1.val q2) rfl rfl Wc HSP2.out ?_ | refine Zac _ rfl 34 (.tmp 7) rfl (.pointer (some ⟨w.heap.size + 1 + 1, 0, none⟩)) (x.val p s) rfl HDK2.out ?_ | refine Zac _ rfl 117 (.tmp 11) rfl (.pointer (some ⟨w2.heap.size, 0, none⟩)) (f1.val q2) rfl HLP3.out ?_);refine HTU.out.mono ?_;rintro e w3 ⟨hb3, p3, s3, rfl, hin3⟩;have hC3 := HC2.out.keep hb3;have HSD := hide (ZhX (w.heap.size + 1 + 1) (x.turn f1) p3 s3 w3 hC3.dk);have HC4 := hide (hC3.set hin3);have ho3 := Zcu w3 (w.heap.size + 1 + 1) p3.val (x.turn f1).base s3.val;have HPX4 := hide (And.intro ((HPX.out.1.keep hb3).other (ho3 wr.heap.size (by have := hC.out.size; omega))) ((HPX.out.2.keep hb3 (Nat.le_refl _)).other (DkBlk.no8 hC3.dk) ho3 (by rw [Zax]; exact Nat.le_refl _)));clear hb3 hin3 hC3 ho3;generalize hWb : setDk w3 (w.heap.size + 1 + 1) p3.val (x.turn f1).base s3.val = Wd at *;clear hWb;have HSZ := hide (Zbb i.u i.q Wd (HPX4.out.2));have HLP4 := hide (Zcr wr.heap.size i.u i.q Wd HPX4.out.1);by_cases hlt2 : n < (i.u.size : Int)
          · rw [if_pos hlt2] at hOK3 hF3;go_wp2_with (first | refine Zab _ rfl rfl 34 (.tmp 7) (.tmp 56) rfl (.pointer (some ⟨w.heap.size + 1 + 1, 0, none⟩)) ((x.turn f1).val p3 s3) rfl rfl Wd HSD.out ?_ | refine Zac _ rfl 117 (.tmp 10) rfl (.pointer (some ⟨wr.heap.size, 0, none⟩)) (i.u.val i.q) rfl HLP4.out ?_);refine HSZ.out.mono ?_;rintro e w5 ⟨rfl, hb5⟩;have HC5 := hide (HC4.out.keep hb5);clear hb5;go_wp2_with fail;go_roundw
            case rel => exact ⟨j + 1, k, 0, _, _, _, by omega, by go_num, rfl, rfl, by omega, by omega, by omega, HC5, hOK3, hF3⟩
            case measure => simp only [intOf]; omega
          · rw [if_neg hlt2] at hOK3 hF3;(have hsub : IntKind.i64.wrap (n - (i.u.size : Int)) = n - (i.u.size : Int) := by rw [IntKind.wrap_i64]; omega);(have hge2 : (i.u.size : Int) ≤ n := by omega);go_wp2_with (first | refine Zab _ rfl rfl 34 (.tmp 7) (.tmp 56) rfl (.pointer (some ⟨w.heap.size + 1 + 1, 0, none⟩)) ((x.turn f1).val p3 s3) rfl rfl Wd HSD.out ?_ | refine Zac _ rfl 117 (.tmp 10) rfl (.pointer (some ⟨wr.heap.size, 0, none⟩)) (i.u.val i.q) rfl HLP4.out ?_);refine HSZ.out.mono ?_;rintro e w5 ⟨rfl, hb5⟩;have HC5 := hide (HC4.out.keep hb5);have HSZ6 := hide (Zbb i.u i.q w5 (HPX4.out.2.keep hb5 (Nat.le_refl _)));have HLP6 := hide (Zcr wr.heap.size i.u i.q w5 (HPX4.out.1.keep hb5));clear hb5;go_wp2_with (refine Zac _ rfl 117 (.tmp 10) rfl (.pointer (some ⟨wr.heap.size, 0, none⟩)) (i.u.val i.q) rfl HLP6.out ?_);refine HSZ6.out.mono ?_;rintro e w6 ⟨rfl, hb6⟩;have HC6 := hide (HC5.out.keep hb6);clear hb6;go_wp2_with fail;go_roundw
            case rel => exact ⟨j + 1, k, n - (i.u.size : Int), _, _, _, by omega, by go_num, rfl, rfl, by omega, by omega, by omega, HC6, hOK3, hF3⟩
            case measure => simp only [intOf]; omega
    · (obtain rfl : j = done.length := by omega);have hfx : Zar bs (done.map (·.u)) kept 0 u = x := by
        have := hF.out;rw [List.drop_length] at this;exact this
      have HFX := hide hfx;have HDK := hC.out.dk;have hZ := hC.out.zero;unfold Sl.val at HDK;unfold Sl.nil Sl.val at hZ;simp only at hZ;have d0 := HDK.c0;have d1 := HDK.c1;have d2 := HDK.c2;have z0 := hZ.c0;have z1 := hZ.c1;have z2 := hZ.c2;have z3 := hZ.c3;have z4 := hZ.c4;have z5 := hZ.c5;have z6 := hZ.c6;have z7 := hZ.c7;have z8 := hZ.c8;have fz := hZ.fz;(have i1 : ¬ (done.length : Int) < (ds.len : Int) := by omega);have HLN := hide hlen;clear hlen;clear HDK hZ hfx hF hOK;go_wp2_with fail;show bodyPost Tryz.prog Tryz.f27 _ Exit.ret _ (setDv wr (w.heap.size + 1) p.val x.base s.val p.val x.base s.val Sl.nil.val false (-1));refine Zdd rfl hC.out.zero ⟨x, x, [], false, -1⟩ ⟨p, s, p, s, Sl.nil⟩ (by rfl) rfl ?_;rw [HFX.out];have hbb := Za3 hC.out.below (show w.heap.size ≤ w.heap.size + 1 by omega) p.val x.base s.val p.val x.base s.val Sl.nil.val false (-1);have hin : DkIn K (setDv wr (w.heap.size + 1) p.val x.base s.val p.val x.base s.val Sl.nil.val false (-1)) x p s := hC.out.din.other hC.out.zero.no8 (fun k hk => Zas _ _ _ _ _ _ _ _ _ _ _ k hk) (by rw [ZaK]; exact Nat.le_refl _);exact ⟨hbb, ⟨p, s, p, s, Sl.nil⟩, rfl, hin, hin, ⟨rfl, (fun i hi => by cases hi), (fun j hj => absurd hj (Nat.not_lt_zero j))⟩, (fun _ => rfl), Nat.le_refl _⟩
theorem ZjN:(Tryz.prog.info? 37).map (·.size)=some 9:=by kernel_rfl
theorem ZjT (g:Nat)(d:Dv)(L:DvL)(w:World)(h:DvBlk w g L.kp.val d.kept.base L.ks.val L.np.val d.now.base L.ns.val L.ds.val d.gone d.armed):(Instr.loadAt 37 (.pointer (some ⟨g,0,none⟩))).run Tryz.prog w=.ok (d.val L) w:=by
 have hr:w.rangeAt g 0 [L.kp.val,.int .i64 d.kept.base,L.ks.val,L.np.val,.int .i64 d.now.base,L.ns.val,L.ds.val,.bool d.gone,.int .i64 d.armed]:=by
  intro j v hj;rw [Nat.zero_add,Addr.cell0 h];simpa using hj
 exact run_loadAt_mid w g 0 37 _ _ hr Tryz.underlying37 rfl (by rw [ZjN];rfl)
theorem ZdQ (g:Nat)(d:Dv)(L:DvL)(w:World){x0 x2 x3 x5 x6:Value}{b1 b4 a0:Int}{g0:Bool}(h:DvBlk w g x0 b1 x2 x3 b4 x5 x6 g0 a0):(Instr.storeAt 37 (.pointer (some ⟨g,0,none⟩)) (d.val L)).run Tryz.prog w=.ok () (setDv w g L.kp.val d.kept.base L.ks.val L.np.val d.now.base L.ns.val L.ds.val d.gone d.armed):=by
 have hc:=run_storeCells_cells (P:=Tryz.prog) g 0 [L.kp.val,.int .i64 d.kept.base,L.ks.val,L.np.val,.int .i64 d.now.base,L.ns.val,L.ds.val,.bool d.gone,.int .i64 d.armed] 0 w (fun j hj=>by
  rw [Nat.zero_add,Addr.cell0 h];have:j<9:=hj;simpa using this) (fun j hj=>frozen_of_row w g _ _ 37 h) (by
  intro v hv;simp only [List.mem_cons,List.mem_nil_iff,or_false] at hv;rcases hv with rfl | rfl | rfl | rfl | rfl | rfl | rfl | rfl | rfl <;> rfl)
 cases hq:Tryz.prog.info? 37 with
 | none=>have:=ZjN;rw [hq] at this;cases this
 | some i =>
  (have hi:i.size=9:=by have:=ZjN;rw [hq] at this;simpa using this);simp only [Instr.storeAt,Instr.sureAddr,storeVar,sizeOf,typeInfo,Dv.val,Value.cells];simp [hq,hi];exact hc
theorem Zfk (s:Sl)(k l:Nat)(hk:k≤l)(hl:l≤s.cap)(w:World):(Instr.sliceAt 32 s.val (some (.int .i64 (k:Nat))) (some (.int .i64 (l:Nat))) none).run Tryz.prog w=.ok (s.mid k l).val w:=Ze2 s.a s.len s.cap k l hk hl w
theorem BsS.mid {xs:List Nat}(h:BsS K w s xs)(k l:Nat)(hk:k≤l)(hl:l≤s.len):BsS K w (s.mid k l) ((xs.drop k).take (l-k)):=by
 refine⟨h.came.mid k l hk hl,h.low,fun h0 ad ha=>?_⟩;(have h0':0<s.len:=by have:0<l-k:=h0;omega);have ha':fromA s.a s.cap k=some ad:=ha;unfold fromA at ha';split at ha'
 · exact h.home h0' ad ha'
 · cases hs:s.a with
   | none=>rw [hs] at ha';cases ha'
   | some x =>
    rw [hs] at ha';have:=h.home h0' x hs;simp only [Option.map_some,Option.some.injEq] at ha';rw [← ha'];unfold Addr.add;split <;> exact this
theorem Zjf (x:Int)(q:Sl)(w:World):(Instr.build 117 #[(0,.int .i64 x),(1,q.val)]).run Tryz.prog w=.ok (Pt.val ⟨x,[],false,0⟩ q) w:=by
 unfold Pt.val Sl.val;simp [go_sem,Instr.build]
theorem entDo:∀args w,(callFunc 88 args).run Tryz.prog w=.ok (.enter 88 args) w:=Pl.ql Tryz.func88
theorem Zkv (w:World)(g k j:Nat)(e0:Dv)(L0:DvL)(q:Sl)(hk:k≤1000)(hj:j<4)(ah:128*j+128≤q.cap)(hd:DvBlk w g L0.kp.val e0.kept.base L0.ks.val L0.np.val e0.now.base L0.ns.val L0.ds.val e0.gone e0.armed)(P:Dv→Prop)(ag:∀w',Below w.heap.size w w'→Calls Tryz.prog 88 #[e0.val L0,Pt.val ⟨((4*k+j:Nat):Int),[],false,0⟩ (q.mid (128*j) (128*j+128))] w' fun e w2=>Below w'.heap.size w' w2∧∃d' L',e=.returned (d'.val L')∧DvIn K w2 d' L'∧P d')
    {Q:Exit→Act→World→Prop}{A:Act}(ai:A.tmps.size=44)(af:A.defers=[])(s3:A.tmps.getD 3 undef=.pointer (some ⟨g,0,none⟩))(s1:A.tmps.getD 1 undef=.int .i64 (k:Int))(s8:A.tmps.getD 8 undef=.int .i64 (j:Int))(s2:A.tmps.getD 2 undef=q.val)
    (hend:∀(u:Nat→Value) w' w2 d2 L2,w'=setDv w2 g L2.kp.val d2.kept.base L2.ks.val L2.np.val d2.now.base L2.ns.val L2.ds.val d2.gone d2.armed→Below w.heap.size w w2→DvIn K w2 d2 L2→P d2→Q .normal (((((((((((((((A).put (some 30) (u 30)).put (some 31) (u 31)).put (some 32) (u 32)).put (some 33) (u 33)).put (some 34) (u 34)).put (some 35) (u 35)).put (some 36) (u 36)).put (some 37) (u 37)).put (some 38) (u 38)).put (some 39) (u 39)).put (some 40) (u 40)).put (some 41) (u 41)).put (some 29) (u 29)).put (some 42) (u 42)) w') :
    (Code.region 8 (Pl.find 8 ((Tryz.f95.body).getD .skip)) true).wp Tryz.prog Q A w:=by
  (have m1:IntKind.i64.wrap (4*(k:Int))=4*(k:Int):=by rw [IntKind.wrap_i64];omega);(have m2:IntKind.i64.wrap (4*(k:Int)+(j:Int))=4*(k:Int)+(j:Int):=by rw [IntKind.wrap_i64];omega);(have m3:IntKind.i64.wrap (128*(j:Int))=128*(j:Int):=by rw [IntKind.wrap_i64];omega);(have m4:IntKind.i64.wrap (128*(j:Int)+128)=128*(j:Int)+128:=by rw [IntKind.wrap_i64];omega);have ad:DvBlk w.drew g L0.kp.val e0.kept.base L0.ks.val L0.np.val e0.now.base L0.ns.val L0.ds.val e0.gone e0.armed:=hd;have hA:=Pl.At.same (v:=q.val) (d:=2) (Pl.At.same (v:=.int .i64 (j:Int)) (d:=8) (Pl.At.same (v:=.int .i64 (k:Int)) (d:=1) (Pl.At.same (v:=.pointer (some ⟨g,0,none⟩)) (d:=3) (Pl.At.here ai af) s3) s1) s8) s2;refine Pl.qa (S:=fun _=>True) hA True.intro ?_;rw [show (Pl.find 8 ((Tryz.f95.body).getD .skip)).size=15 by kernel_rfl];refine Pl.q1 1 30 (.int .i64 (k:Int)) (Pl.q0) (Pl.q2 (.tmp 1)) True.intro ?_;refine Pl.q1 2 31 (.int .i64 ((4*k:Nat):Int)) (Pl.q0) (Pl.q9 .mul 3 3 (.const (.int .i64 4)) (.tmp 30) (.int .i64 4) (.int .i64 (k:Int)) (fun w=>by simp [go_sem,eqGuard,m1])) True.intro ?_;refine Pl.q1 3 32 (.int .i64 (j:Int)) (Pl.q0) (Pl.q2 (.tmp 8)) True.intro ?_;refine Pl.q1 4 33 (.int .i64 ((4*k+j:Nat):Int)) (Pl.q0) (Pl.q9 .add 3 3 (.tmp 31) (.tmp 32) (.int .i64 ((4*k:Nat):Int)) (.int .i64 (j:Int)) (fun w=>by simp [go_sem,eqGuard,m2])) True.intro ?_;refine Pl.q1 5 34 (q.val) (Pl.q0) (Pl.q2 (.tmp 2)) True.intro ?_;refine Pl.q1 6 35 (.int .i64 (j:Int)) (Pl.q0) (Pl.q2 (.tmp 8)) True.intro ?_;refine Pl.q1 7 36 (.int .i64 ((128*j:Nat):Int)) (Pl.q0) (Pl.q9 .mul 3 3 (.const (.int .i64 128)) (.tmp 35) (.int .i64 128) (.int .i64 (j:Int)) (fun w=>by simp [go_sem,eqGuard,m3])) True.intro ?_;refine Pl.q1 8 37 (.int .i64 (j:Int)) (Pl.q0) (Pl.q2 (.tmp 8)) True.intro ?_;refine Pl.q1 9 38 (.int .i64 ((128*j:Nat):Int)) (Pl.q0) (Pl.q9 .mul 3 3 (.const (.int .i64 128)) (.tmp 37) (.int .i64 128) (.int .i64 (j:Int)) (fun w=>by simp [go_sem,eqGuard,m3])) True.intro ?_;refine Pl.q1 10 39 (.int .i64 ((128*j+128:Nat):Int)) (Pl.q0) (Pl.q9 .add 3 3 (.tmp 38) (.const (.int .i64 128)) (.int .i64 ((128*j:Nat):Int)) (.int .i64 128) (fun w=>by simp [go_sem,eqGuard,m4])) True.intro ?_;refine Pl.q1 11 40 ((q.mid (128*j) (128*j+128)).val) (Pl.q0) (Pl.qo 32 (.tmp 34) (some (.tmp 36)) (some (.tmp 39)) (Zfk q (128*j) (128*j+128) (by omega) ah)) True.intro ?_;refine Pl.q1 12 41 (Pt.val ⟨((4*k+j:Nat):Int),[],false,0⟩ (q.mid (128*j) (128*j+128))) (Pl.q0) (Pl.qz 117 [(0,.tmp 33),(1,.tmp 40)] (Zjf _ _)) True.intro ?_;refine Pl.qv 0 29 (e0.val L0) (Pl.q0) (Pl.qp 37 (.tmp 3) (ZjT g e0 L0 w.drew hd)) True.intro ?_;refine Pl.qc 13 42 88 [(.tmp 29),(.tmp 41)] #[37,117] (Pl.q0) entDo (Calls.mono (ag w.drew (Zad w)) ?_);rintro e w2 ⟨ac,d2,L2,rfl,ab,aa⟩;have ae:=ad.keep ac;refine⟨(d2.val L2),rfl,True.intro,?_⟩;refine Pl.qd 14 (setDv w2 g L2.kp.val d2.kept.base L2.ks.val L2.np.val d2.now.base L2.ns.val L2.ds.val d2.gone d2.armed) (Pl.q0) (Pl.qh 37 (.tmp 3) (.tmp 42) _ (ZdQ g d2 L2 w2 ae)) True.intro ?_;refine Pl.q7 (fun A' hA'=>?_);rw [Pl.At.ext hA' ((((((((((((((hA.put 30 _).put 31 _).put 32 _).put 33 _).put 34 _).put 35 _).put 36 _).put 37 _).put 38 _).put 39 _).put 40 _).put 41 _).put 29 _).put 42 _)];exact hend hA'.fn _ w2 d2 L2 rfl ((Zad w).trans ac) ab aa
theorem Zii (n:Nat)(h:n≤1000000):(Lit.int .i64 (n:Int)).wf=true:=by
 (have h1:IntKind.i64.wrap (n:Int)=(n:Int):=by rw [IntKind.wrap_i64];omega);simp [Lit.wf,IntKind.min,IntKind.max,IntKind.signed,IntKind.bits];omega
def secP (k:Nat) (b:List Nat) (j:Nat):Pt:=⟨((4*k+j:Nat):Int),(b.drop (128*j)).take 128,false,0⟩
def Za5 (A:Da) (k:Nat) (b:List Nat):Nat→Da
  | 0=>A
  | j+1=>(Za5 A k b j).act (secP k b j)
theorem Da.act_now (A:Da)(u:Pt):(A.act u).now=A.now.turn u:=by unfold Da.act;split <;> rfl
theorem Da.act_done (A:Da)(u:Pt):(A.act u).done.length≤A.done.length+1:=by
 unfold Da.act;split
 · exact Nat.le_succ _
 · simp only;split
   · simp
   · omega
theorem Da.act_armed (A:Da)(u:Pt)(h:A.armed≤9223372036854775807):(A.act u).armed≤9223372036854775807:=by
 unfold Da.act;split
 · exact h
 · simp only;split
   · unfold Da.units;split <;> omega
   · exact h
theorem ZlZ (d:Dk)(k:Nat)(b:List Nat)(j:Nat)(hj:j<4)(hb:b.length=512)(hk:512*k+512≤d.pg.length):(d.turn (secP k b j)).pg.length=d.pg.length∧(d.turn (secP k b j)).st=d.st∧(d.turn (secP k b j)).base=d.base:=by
 unfold Dk.turn secP;rw [if_pos (by simp only;omega)];refine⟨?_,rfl,rfl⟩;simp only [List.length_append,List.length_take,List.length_drop];omega
theorem Zfm (A:Da)(k:Nat)(b:List Nat)(hb:b.length=512)(hk:512*k+512≤A.now.pg.length):∀j,j≤4→(Za5 A k b j).now.pg.length=A.now.pg.length∧(Za5 A k b j).now.st=A.now.st∧(Za5 A k b j).done.length≤A.done.length+j∧(A.armed≤9223372036854775807→(Za5 A k b j).armed≤9223372036854775807)
 | 0,_=>⟨rfl,rfl,by simp [Za5],fun h=>h⟩
 | j+1,hj=>by
  obtain⟨a1,a2,a3,a4⟩:=Zfm A k b hb hk j (by omega)
  obtain⟨b1,b2,_⟩:=ZlZ (Za5 A k b j).now k b j (by omega) hb (by omega)
  have b3:=(Za5 A k b j).act_done (secP k b j)
  refine⟨?_,?_,?_,fun h=>(Za5 A k b j).act_armed _ (a4 h)⟩
  · show ((Za5 A k b j).act (secP k b j)).now.pg.length=_
    rw [Da.act_now,b1,a1]
  · show ((Za5 A k b j).act (secP k b j)).now.st=_
    rw [Da.act_now,b2,a2]
  · show ((Za5 A k b j).act (secP k b j)).done.length≤_
    omega
structure WrIn (K:Home) (w wr:World) (d:Dv) (L:DvL):Prop where
  below:Below w.heap.size w wr
  dv:DvBlk wr w.heap.size L.kp.val d.kept.base L.ks.val L.np.val d.now.base L.ns.val L.ds.val d.gone d.armed
  zero:DvBlk wr (w.heap.size+1) Sl.nil.val 0 Sl.nil.val Sl.nil.val 0 Sl.nil.val Sl.nil.val false 0
  din:DvIn K wr d L
theorem WrIn.set {w2:World}{d2:Dv}{L2:DvL}(h:WrIn K w wr d L)(hb:Below wr.heap.size wr w2)(h2:DvIn K w2 d2 L2):WrIn K w (setDv w2 w.heap.size L2.kp.val d2.kept.base L2.ks.val L2.np.val d2.now.base L2.ns.val L2.ds.val d2.gone d2.armed) d2 L2:=by
 have hd:=h.dv.keep hb;have ho:∀k,k≠w.heap.size→(setDv w2 w.heap.size L2.kp.val d2.kept.base L2.ks.val L2.np.val d2.now.base L2.ns.val L2.ds.val d2.gone d2.armed).heap[k]? = w2.heap[k]?:=fun k hk=>Zas _ _ _ _ _ _ _ _ _ _ _ k hk;exact⟨Za3 (h.below.trans (hb.mono h.below.size)) (Nat.le_refl _) _ _ _ _ _ _ _ _ _,Zdq hd _ _ _ _ _ _ _ _ _,(h.zero.keep hb).other (ho _ (by omega)),h2.otherDv hd ho (by rw [ZaK];exact Nat.le_refl _)⟩
theorem Zeu (d : Dv) (L : DvL) (w : World) (h : DvIn K w d L) (n k : Nat) (hn : d.kept.pg.length = 512 * n) (hn2 : d.now.pg.length = 512 * n) (hn4 : n ≤ 64) (hk : k < n) (q : Sl) (b : List Nat) (hb : BsS K w q b) (hl : q.len = 512) (hst : d.now.st.length ≤ 100000) (hm : d.armed ≤ 9223372036854775807) (hdl : d.done.length ≤ 900) :
    Calls Tryz.prog 95 #[d.val L, .int .i64 (k : Int), q.val] w fun e w' => Below w.heap.size w w' ∧ ∃ d' L', e = .returned (.tuple #[d'.val L', .int .i64 0]) ∧ DvIn K w' d' L' ∧ d'.abs = Za5 d.abs k b 4 := by
  have hbl : b.length = 512 := by rw [hb.len, hl]
  have hkl : L.kp.len = 512 * n := by rw [← h.kept.pg.len, hn]
  have hnow := Zfm d.abs k b hbl (by show 512 * k + 512 ≤ d.now.pg.length; omega)
  have HI := Zdv w d L
  have HW0 : Hid (WrIn K w (twoW w d L) d L) := ⟨HI.below, HI.dv, HI.zero, h.keep HI.below (Nat.le_refl _)⟩
  generalize hW : twoW w d L = W at HW0
  have HWE := hide hW
  unfold twoW at HWE
  have HNOW := hide hnow
  have HB := hide hb
  have HST := hide hst
  have HM := hide hm
  have HDL := hide hdl
  have HN2 := hide hn2
  have HBL := hide hbl
  have hqc : 512 ≤ q.cap := by have := hb.le; omega
  have hd : IntKind.i64.wrap (Int.tdiv ((512 * n : Nat) : Int) 512) = (n : Int) := by
   rw [IntKind.wrap_i64]
   have : Int.tdiv ((512 * n : Nat) : Int) 512 = (n : Int) := by
    rw [Int.tdiv_eq_ediv_of_nonneg (by omega)]; omega
   omega
  clear h HI hW hnow hb hst hm hdl hn hn2 hbl
  obtain ⟨A, hA⟩ : ∃ A, A = d.abs := ⟨_, rfl⟩
  have HA := hide hA
  rw [← hA] at HNOW ⊢
  clear hA
  obtain ⟨kept, now, done, gone, armed⟩ := d
  obtain ⟨⟨ka, kl, kc⟩, ks, np, ns, ds⟩ := L
  obtain ⟨qa, ql, qc⟩ := q
  simp only at hkl hl hqc
  subst hkl
  subst hl
  unfold Dv.val
  unfold Sl.nil Sl.val at HWE
  unfold Sl.val
  simp only at HWE ⊢
  have k1 : ¬ (k : Int) < 0 := by omega
  have k2 : ¬ (n : Int) ≤ (k : Int) := by omega
  have k3 : (k : Int) < (n : Int) := by omega
  go_enter Tryz.func95, Tryz.ntmps95
  go_wp2_with fail
  rw [HWE.out]
  go_loopw [8] (fun i wr => ∃ (j : Nat) (d' : Dv) (L' : DvL), j ≤ 4 ∧ i = .int .i64 j ∧ Hid (WrIn K w wr d' L') ∧ Hid (d'.abs = Za5 A k b j)) (fun i _ => 4 - (intOf i).toNat)
  case atStart => exact ⟨0, _, _, by omega, rfl, HW0, hide HA.out.symm⟩
  case round =>
   obtain ⟨j, d', L', hj, rfl, hI, hab⟩ := hrel
   rcases Nat.lt_or_ge j 4 with hlt | hge
   · obtain ⟨q1, q2, q3, q4⟩ := HNOW.out j hj
     have hA2 : A.now.pg.length = 512 * n := by rw [HA.out]; exact HN2.out
     have hnl : d'.now.pg.length = 512 * n := by have : d'.abs.now.pg.length = 512 * n := by rw [hab.out, q1, hA2]
                                                 exact this
     have hns : d'.now.st.length ≤ 100000 := by have : d'.abs.now.st.length ≤ 100000 := by rw [hab.out, q2, HA.out]; exact HST.out
                                                exact this
     have hdn : d'.done.length ≤ 1000 := by
      have h1 : d'.abs.done.length ≤ A.done.length + j := by rw [hab.out]; exact q3
      have h2 : A.done.length ≤ 900 := by rw [HA.out]; show (done.map _).length ≤ _; rw [List.length_map]; exact HDL.out
      have h3 : d'.abs.done.length = d'.done.length := by show (d'.done.map _).length = _; rw [List.length_map]
      omega
     have har : d'.armed ≤ 9223372036854775807 := by have : d'.abs.armed ≤ 9223372036854775807 := by rw [hab.out]; exact q4 (by rw [HA.out]; exact HM.out)
                                                     exact this
     have hbb := (HB.out.keep hI.out.below (Nat.le_refl _)).mid (128 * j) (128 * j + 128) (by omega) (by show _ ≤ 512; omega)
     rw [show 128 * j + 128 - 128 * j = 128 by omega] at hbb
     have hdo : ∀ w', Below wr.heap.size wr w' → Calls Tryz.prog 88 #[d'.val L', Pt.val ⟨((4 * k + j : Nat) : Int), [], false, 0⟩ (Sl.mid ⟨qa, 512, qc⟩ (128 * j) (128 * j + 128))] w' fun e w2 => Below w'.heap.size w' w2 ∧ ∃ d2 L2, e = .returned (d2.val L2) ∧ DvIn K w2 d2 L2 ∧ d2.abs = d'.abs.act (secP k b j) := fun w' hw' =>
      Zjo d' L' (secP k b j) _ w' (hI.out.din.keep hw' (Nat.le_refl _)) (hbb.keep hw' (Nat.le_refl _)) ⟨by rw [hnl]; omega, by omega, by show ((b.drop (128 * j)).take 128).length ≤ _; simp only [List.length_take]; omega, fun _ => by show 128 * (((4 * k + j : Nat) : Int)).toNat + 128 ≤ _; rw [hnl]; omega, fun hx => absurd hx (by show ¬ ((4 * k + j : Nat) : Int) < 0; omega), by rfl⟩ (Zii (4 * k + j) (by omega)) har hdn
     have HR : Hid (∀ {Q : Exit → Act → World → Prop} {A' : Act}, _) := fun {Q A'} => Zkv (K := K) wr w.heap.size k j d' L' ⟨qa, 512, qc⟩ (by omega) hlt (by show _ ≤ qc; omega) hI.out.dv (fun d2 => d2.abs = d'.abs.act (secP k b j)) hdo (Q := Q) (A := A')
     have i1 : (j : Int) < 4 := by omega
     clear hdo hbb q1 q2 q3 q4 hnl hns hdn har hA2
     go_wp2_with fail
     refine Pl.q8 (ops := Pl.find 8 ((Tryz.f95.body).getD .skip)) ?_
     refine HR.out (by rfl) rfl (by rfl) (by rfl) (by rfl) (by rfl) ?_
     intro uu w' w2 d2 L2 hw' hb2 hin2 hab2
     have HI2 : Hid (WrIn K w w' d2 L2) := by rw [hw']; exact hI.out.set hb2 hin2
     have HAB2 : Hid (d2.abs = Za5 A k b (j + 1)) := by show _ = (Za5 A k b j).act (secP k b j); rw [hab2, hab.out]
     clear hw' hb2 hin2 hab2 HR
     simp only [Act.put, List.setIfInBounds_toArray, List.set_cons_zero, List.set_cons_succ]
     go_wp2_with fail
     go_roundw
     case rel => exact ⟨j + 1, d2, L2, by omega, by go_num, HI2, HAB2⟩
     case measure => simp only [intOf]; omega
   · obtain rfl : j = 4 := by omega
     have HLD := hide (ZjT w.heap.size d' L' wr hI.out.dv)
     have HSD := hide (ZdQ (w.heap.size + 1) d' L' wr hI.out.zero)
     go_wp2_with (first | refine Zac _ rfl 37 (.tmp 3) rfl (.pointer (some ⟨w.heap.size, 0, none⟩)) (d'.val L') rfl HLD.out ?_ | refine Zab _ rfl rfl 37 (.tmp 6) (.tmp 43) rfl (.pointer (some ⟨w.heap.size + 1, 0, none⟩)) (d'.val L') rfl rfl _ HSD.out ?_)
     refine ZgK rfl hI.out.zero d' L' (.int .i64 0) (by rfl) (by rfl) rfl ?_
     have hbb := Za3 hI.out.below (show w.heap.size ≤ w.heap.size + 1 by omega) L'.kp.val d'.kept.base L'.ks.val L'.np.val d'.now.base L'.ns.val L'.ds.val d'.gone d'.armed
     exact ⟨hbb, d', L', rfl, hI.out.din.otherDv hI.out.zero (fun k hk => Zas _ _ _ _ _ _ _ _ _ _ _ k hk) (by rw [ZaK]; exact Nat.le_refl _), hab.out⟩
end Go.Proofs.YtpnlebpnhmibfaaGreat
