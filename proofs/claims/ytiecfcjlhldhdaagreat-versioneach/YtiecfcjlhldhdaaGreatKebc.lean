/-
  Lemmas.
-/
import Derived.Test.YtiecfcjlhldhdaaGreatKebb
import Derived.Laws.MakeOwn
import Derived.Test.YtiecfcjlhldhdaaGreatKeas
namespace Go.Proofs.YtiecfcjlhldhdaaGreat
open Go.RowKit
set_option linter.unusedVariables false
set_option linter.unusedSimpArgs false
set_option maxRecDepth 100000
set_option maxHeartbeats 4000000
variable {w w0 w' W:World}{u:Un}{c:Value}{p g B b n:Nat}{a:Option Addr}{s:Sl}
def UnBlk (w:World) (p:Nat) (u:Un) (c:Value):Prop:=w.heap[p]? = some (Obj.cells #[.int .i64 u.tx,.int .i64 u.no,.int .i64 u.prev,.int .i64 u.kind,.int .i64 u.page,.int .i64 u.slot,.float .f64 u.row.key,.bool u.row.dead,c,.int .i64 u.row.wr,.int .i64 u.row.cell,.int .i64 u.row.no] 65 (0,0))
theorem ZbH (w:World)(u:Un)(c:Value):UnBlk (w.alloc (.cells #[.int .i64 u.tx,.int .i64 u.no,.int .i64 u.prev,.int .i64 u.kind,.int .i64 u.page,.int .i64 u.slot,.float .f64 u.row.key,.bool u.row.dead,c,.int .i64 u.row.wr,.int .i64 u.row.cell,.int .i64 u.row.no] 65)) w.heap.size u c:=heap_alloc_new w _
theorem UnBlk.keep (h:UnBlk w p u c)(hb:Below w.heap.size w w'):UnBlk w' p u c:=(hb.block p (Array.getElem?_eq_some_iff.1 h).1).trans h
theorem UnBlk.lt (h:UnBlk w p u c):p<w.heap.size:=(Array.getElem?_eq_some_iff.1 h).1
theorem UnBlk.c0 (h:UnBlk w p u c):w.cell? ⟨p,0,none⟩=some (.int .i64 u.tx):=by unfold UnBlk at h;simp [World.cell?,h]
theorem UnBlk.c1 (h:UnBlk w p u c):w.cell? ⟨p,1,none⟩=some (.int .i64 u.no):=by unfold UnBlk at h;simp [World.cell?,h]
theorem UnBlk.c2 (h:UnBlk w p u c):w.cell? ⟨p,2,none⟩=some (.int .i64 u.prev):=by unfold UnBlk at h;simp [World.cell?,h]
theorem UnBlk.c3 (h:UnBlk w p u c):w.cell? ⟨p,3,none⟩=some (.int .i64 u.kind):=by unfold UnBlk at h;simp [World.cell?,h]
theorem UnBlk.c4 (h:UnBlk w p u c):w.cell? ⟨p,4,none⟩=some (.int .i64 u.page):=by unfold UnBlk at h;simp [World.cell?,h]
theorem UnBlk.c5 (h:UnBlk w p u c):w.cell? ⟨p,5,none⟩=some (.int .i64 u.slot):=by unfold UnBlk at h;simp [World.cell?,h]
theorem UnBlk.c6 (h:UnBlk w p u c):w.cell? ⟨p,6,none⟩=some (.float .f64 u.row.key):=by unfold UnBlk at h;simp [World.cell?,h]
theorem UnBlk.c7 (h:UnBlk w p u c):w.cell? ⟨p,7,none⟩=some (.bool u.row.dead):=by unfold UnBlk at h;simp [World.cell?,h]
theorem UnBlk.c8 (h:UnBlk w p u c):w.cell? ⟨p,8,none⟩=some (c):=by unfold UnBlk at h;simp [World.cell?,h]
theorem UnBlk.c9 (h:UnBlk w p u c):w.cell? ⟨p,9,none⟩=some (.int .i64 u.row.wr):=by unfold UnBlk at h;simp [World.cell?,h]
theorem UnBlk.c10 (h:UnBlk w p u c):w.cell? ⟨p,10,none⟩=some (.int .i64 u.row.cell):=by unfold UnBlk at h;simp [World.cell?,h]
theorem UnBlk.c11 (h:UnBlk w p u c):w.cell? ⟨p,11,none⟩=some (.int .i64 u.row.no):=by unfold UnBlk at h;simp [World.cell?,h]
theorem UnBlk.fz (h:UnBlk w p u c)(o:Nat):w.frozen? ⟨p,o,none⟩=false:=frozen_of_row w p _ _ 65 h
def setUn (w:World) (g:Nat) (u:Un) (c:Value):World:=(((((((((((w.setCell ⟨g,0,none⟩ (.int .i64 u.tx)).setCell ⟨g,1,none⟩ (.int .i64 u.no)).setCell ⟨g,2,none⟩ (.int .i64 u.prev)).setCell ⟨g,3,none⟩ (.int .i64 u.kind)).setCell ⟨g,4,none⟩ (.int .i64 u.page)).setCell ⟨g,5,none⟩ (.int .i64 u.slot)).setCell ⟨g,6,none⟩ (.float .f64 u.row.key)).setCell ⟨g,7,none⟩ (.bool u.row.dead)).setCell ⟨g,8,none⟩ (c)).setCell ⟨g,9,none⟩ (.int .i64 u.row.wr)).setCell ⟨g,10,none⟩ (.int .i64 u.row.cell)).setCell ⟨g,11,none⟩ (.int .i64 u.row.no)
theorem ZeU {u0:Un}{c0:Value}(h:UnBlk w g u0 c0)(u:Un)(c:Value):UnBlk (setUn w g u c) g u c:=by
 have h1:=heap_setCell_same w g 0 _ 65 (.int .i64 u.tx) h;have h2:=heap_setCell_same _ g 1 _ 65 (.int .i64 u.no) h1;have h3:=heap_setCell_same _ g 2 _ 65 (.int .i64 u.prev) h2;have h4:=heap_setCell_same _ g 3 _ 65 (.int .i64 u.kind) h3;have h5:=heap_setCell_same _ g 4 _ 65 (.int .i64 u.page) h4;have h6:=heap_setCell_same _ g 5 _ 65 (.int .i64 u.slot) h5;have h7:=heap_setCell_same _ g 6 _ 65 (.float .f64 u.row.key) h6;have h8:=heap_setCell_same _ g 7 _ 65 (.bool u.row.dead) h7;have h9:=heap_setCell_same _ g 8 _ 65 (c) h8;have aa:=heap_setCell_same _ g 9 _ 65 (.int .i64 u.row.wr) h9;have ab:=heap_setCell_same _ g 10 _ 65 (.int .i64 u.row.cell) aa;have ac:=heap_setCell_same _ g 11 _ 65 (.int .i64 u.row.no) ab;unfold UnBlk setUn;rw [ac];simp
theorem ZaS (hb:Below B w0 w)(hg:B≤g)(u:Un)(c:Value):Below B w0 (setUn w g u c):=
 (((((((((((hb.setCell (p:=⟨g,0,none⟩) hg _).setCell (p:=⟨g,1,none⟩) hg _).setCell (p:=⟨g,2,none⟩) hg _).setCell (p:=⟨g,3,none⟩) hg _).setCell (p:=⟨g,4,none⟩) hg _).setCell (p:=⟨g,5,none⟩) hg _).setCell (p:=⟨g,6,none⟩) hg _).setCell (p:=⟨g,7,none⟩) hg _).setCell (p:=⟨g,8,none⟩) hg _).setCell (p:=⟨g,9,none⟩) hg _).setCell (p:=⟨g,10,none⟩) hg _).setCell (p:=⟨g,11,none⟩) hg _
theorem Zi3 (w:World)(g:Nat)(u:Un)(c:Value)(k:Nat)(hk:k≠g):(setUn w g u c).heap[k]? = w.heap[k]?:=by
 unfold setUn;rw [Below.heap_setCell _ ⟨g,11,none⟩ _ k hk,Below.heap_setCell _ ⟨g,10,none⟩ _ k hk,Below.heap_setCell _ ⟨g,9,none⟩ _ k hk,Below.heap_setCell _ ⟨g,8,none⟩ _ k hk,Below.heap_setCell _ ⟨g,7,none⟩ _ k hk,Below.heap_setCell _ ⟨g,6,none⟩ _ k hk,Below.heap_setCell _ ⟨g,5,none⟩ _ k hk,Below.heap_setCell _ ⟨g,4,none⟩ _ k hk,Below.heap_setCell _ ⟨g,3,none⟩ _ k hk,Below.heap_setCell _ ⟨g,2,none⟩ _ k hk,Below.heap_setCell _ ⟨g,1,none⟩ _ k hk,Below.heap_setCell _ ⟨g,0,none⟩ _ k hk]
theorem ZiK {fn:Func}{x y:Nat}(hr:fn.results=#[.cell x 65,.tmp y])(h:UnBlk W g u c)(tmps:Array Value)(v:Value)(ht:tmps.getD x undef=.pointer (some ⟨g,0,none⟩))(hx:tmps.getD y undef=v)(hc:∃a len cap,c=.slice a len cap):(results fn tmps).run Tryz.prog W=.ok (.tuple #[u.val c,v]) W:=by
 have c0:=h.c0;have c1:=h.c1;have c2:=h.c2;have c3:=h.c3;have c4:=h.c4;have c5:=h.c5;have c6:=h.c6;have c7:=h.c7;have c8:=h.c8;have c9:=h.c9;have c10:=h.c10;have c11:=h.c11;obtain⟨a,len,cap,rfl⟩:=hc;(have aa:tmps[x]?.getD undef=.pointer (some ⟨g,0,none⟩):=by simpa using ht);(have ab:tmps[y]?.getD undef=v:=by simpa using hx);simp [results,hr,aa,ab,go_sem,c0,c1,c2,c3,c4,c5,c6,c7,c8,c9,c10,c11,Un.val]
theorem Zg3 {fn:Func}{x y:Nat}(aa:fn.results=#[.cell x 65,.tmp y]){u0:Un}{c0:Value}(h:UnBlk W g u0 c0)(u:Un)(c v:Value)(hc:∃a len cap,c=.slice a len cap){A:Act}{R:Ending→World→Prop}(t2:A.tmps.getD x undef=.pointer (some ⟨g,0,none⟩))(t3:A.tmps.getD y undef=v)(hd:A.defers=[])
    (hR:R (.returned (.tuple #[u.val c,v])) (setUn W g u c)):bodyPost Tryz.prog fn R Exit.ret A (setUn W g u c):=by
  have hr:=ZeU h u c;generalize setUn W g u c=W' at *;exact bodyPost_ret (ZiK aa hr _ _ t2 t3 hc) hd hR
theorem ZeH (b:Nat)(u:Un)(c:Value)(hc:∃a len cap,c=.slice a len cap)(w:World)(h:UnBlk w b u c):(Instr.loadAt 65 (.pointer (some ⟨b,0,none⟩))).run Tryz.prog w=.ok (u.val c) w:=by
 have c0:=h.c0;have c1:=h.c1;have c2:=h.c2;have c3:=h.c3;have c4:=h.c4;have c5:=h.c5;have c6:=h.c6;have c7:=h.c7;have c8:=h.c8;have c9:=h.c9;have c10:=h.c10;have c11:=h.c11;obtain⟨a,len,cap,rfl⟩:=hc;simp [go_sem,c0,c1,c2,c3,c4,c5,c6,c7,c8,c9,c10,c11,Un.val]
def zeroU:Un:=⟨0,0,0,0,0,0,zeroR⟩
theorem ZdP:zeroU.fits:=⟨by decide,by decide,by decide,by decide,by decide,by decide,Zbp⟩
theorem ZbI (n lo hi:Int)(w:World):Calls Tryz.prog 116 #[.int .i64 n,.int .i64 lo,.int .i64 hi] w fun e w'=>e=.returned (.bool (witB n lo hi))∧w'=w:=by
 unfold witB;go_enter Tryz.func116,Tryz.ntmps116;go_wp2_with fail;all_goals (go_ret;exact ⟨by simp [*] <;> (intros;omega),rfl⟩)
theorem Zio (k:Int)(r:Rw)(a:Option Addr)(len cap:Nat)(w:World)(h:Fs w a len cap r.xs)(hf:r.fits) :
    Calls Tryz.prog 117 #[.int .i64 k,r.val (.slice a len cap)] w fun e w'=>e=.returned (.bool (undoB k r))∧Below w.heap.size w w':=by
  have HW:=hide (Zaa w (.cells #[.float .f64 r.key,.bool r.dead,.slice a len cap,.int .i64 r.wr,.int .i64 r.cell,.int .i64 r.no] 39));have HS:Hid (∀w',Below w.heap.size w w'→_):=fun w' hb=>ZeQ r zeroR a len cap none 0 0 w' (h.keep hb (Nat.le_refl _)) (ZcX w');have HC:Hid (∀w',Below w.heap.size w w'→_):=fun w' hb=>ZdR r a len cap w' (h.keep hb (Nat.le_refl _)) hf;clear h hf;unfold undoB;by_cases k1:k=1
  · subst k1;rw [if_pos rfl];generalize r.same zeroR=m at *;unfold Rw.val zeroR at HS;unfold Rw.val;simp only at HS ⊢;go_enter Tryz.func117,Tryz.ntmps117;go_wp2_with fail;refine(HS.out _ HW.out).mono ?_;rintro e w1 ⟨rfl,aa⟩;have ab:=hide (Zac HW.out aa);clear aa;go_wp2_with fail;go_ret;exact⟨rfl,ab.out⟩
  · rw [if_neg k1];have e1:(k == 1)=false:=beq_eq_false_iff_ne.2 k1;clear k1;by_cases k2:k=2
    · subst k2;rw [if_pos rfl];generalize r.may=m at *;unfold Rw.val at HC ⊢;clear e1;cases m;all_goals
       unfold chk at HC;go_enter Tryz.func117,Tryz.ntmps117;go_wp2_with fail;refine(HC.out _ HW.out).mono ?_;rintro e w1 ⟨rfl,aa⟩;have ab:=hide (Zac HW.out aa);clear aa;go_wp2_with fail;go_ret;exact⟨by simp,ab.out⟩
    · rw [if_neg k2];have e2:(k == 2)=false:=beq_eq_false_iff_ne.2 k2;clear k2;unfold Rw.val;go_enter Tryz.func117,Tryz.ntmps117;go_wp2_with fail;go_ret;exact⟨by simp,HW.out⟩
theorem ZjM (u:Un)(a:Option Addr)(len cap:Nat)(w:World)(h:Fs w a len cap u.row.xs)(hf:u.row.fits) :
    Calls Tryz.prog 77 #[u.val (.slice a len cap)] w fun e w'=>e=.returned (.int .i64 (chk u.may))∧Below w.heap.size w w':=by
  obtain⟨tx,no,prev,kind,page,slot,r⟩:=u;simp only at h hf;have HW:=hide (Zaa w (.cells #[.int .i64 tx,.int .i64 no,.int .i64 prev,.int .i64 kind,.int .i64 page,.int .i64 slot,.float .f64 r.key,.bool r.dead,(.slice a len cap),.int .i64 r.wr,.int .i64 r.cell,.int .i64 r.no] 65));have H1:=hide (ZbI tx 1 2147483647);have H2:=hide (ZbI no 1 2147483647);have H3:=hide (ZbI prev 0 65535);have H4:=hide (ZbI page 0 255);have H5:=hide (ZbI slot 0 255);have H6:Hid (∀w',Below w.heap.size w w'→_):=fun w' hb=>Zio kind r a len cap w' (h.keep hb (Nat.le_refl _)) hf;clear h hf;unfold Un.val Un.may;unfold Rw.val at H6;simp only;generalize witB tx 1 2147483647=b1 at *;generalize witB no 1 2147483647=b2 at *;generalize witB prev 0 65535=b3 at *;generalize witB page 0 255=b4 at *;generalize witB slot 0 255=b5 at *;generalize undoB kind r=b6 at *;cases b1
  · go_enter Tryz.func77,Tryz.ntmps77;go_wp2_with fail;refine(H1.out _).mono ?_;rintro e w' ⟨rfl,hw⟩;obtain rfl:=hw.symm;go_wp2_with fail;go_ret;exact⟨rfl,HW.out⟩
  cases b2
  · go_enter Tryz.func77,Tryz.ntmps77;go_wp2_with fail;refine(H1.out _).mono ?_;rintro e w' ⟨rfl,hw⟩;obtain rfl:=hw.symm;go_wp2_with fail;refine(H2.out _).mono ?_;rintro e w' ⟨rfl,hw⟩;obtain rfl:=hw.symm;go_wp2_with fail;go_ret;exact⟨rfl,HW.out⟩
  cases b3
  · go_enter Tryz.func77,Tryz.ntmps77;go_wp2_with fail;refine(H1.out _).mono ?_;rintro e w' ⟨rfl,hw⟩;obtain rfl:=hw.symm;go_wp2_with fail;refine(H2.out _).mono ?_;rintro e w' ⟨rfl,hw⟩;obtain rfl:=hw.symm;go_wp2_with fail;refine(H3.out _).mono ?_;rintro e w' ⟨rfl,hw⟩;obtain rfl:=hw.symm;go_wp2_with fail;go_ret;exact⟨rfl,HW.out⟩
  cases b4
  · go_enter Tryz.func77,Tryz.ntmps77;go_wp2_with fail;refine(H1.out _).mono ?_;rintro e w' ⟨rfl,hw⟩;obtain rfl:=hw.symm;go_wp2_with fail;refine(H2.out _).mono ?_;rintro e w' ⟨rfl,hw⟩;obtain rfl:=hw.symm;go_wp2_with fail;refine(H3.out _).mono ?_;rintro e w' ⟨rfl,hw⟩;obtain rfl:=hw.symm;go_wp2_with fail;refine(H4.out _).mono ?_;rintro e w' ⟨rfl,hw⟩;obtain rfl:=hw.symm;go_wp2_with fail;go_ret;exact⟨rfl,HW.out⟩
  cases b5
  · go_enter Tryz.func77,Tryz.ntmps77;go_wp2_with fail;refine(H1.out _).mono ?_;rintro e w' ⟨rfl,hw⟩;obtain rfl:=hw.symm;go_wp2_with fail;refine(H2.out _).mono ?_;rintro e w' ⟨rfl,hw⟩;obtain rfl:=hw.symm;go_wp2_with fail;refine(H3.out _).mono ?_;rintro e w' ⟨rfl,hw⟩;obtain rfl:=hw.symm;go_wp2_with fail;refine(H4.out _).mono ?_;rintro e w' ⟨rfl,hw⟩;obtain rfl:=hw.symm;go_wp2_with fail;refine(H5.out _).mono ?_;rintro e w' ⟨rfl,hw⟩;obtain rfl:=hw.symm;go_wp2_with fail;go_ret;exact⟨rfl,HW.out⟩
  cases b6;all_goals
   go_enter Tryz.func77,Tryz.ntmps77;go_wp2_with fail;refine(H1.out _).mono ?_;rintro e w' ⟨rfl,hw⟩;obtain rfl:=hw.symm;go_wp2_with fail;refine(H2.out _).mono ?_;rintro e w' ⟨rfl,hw⟩;obtain rfl:=hw.symm;go_wp2_with fail;refine(H3.out _).mono ?_;rintro e w' ⟨rfl,hw⟩;obtain rfl:=hw.symm;go_wp2_with fail;refine(H4.out _).mono ?_;rintro e w' ⟨rfl,hw⟩;obtain rfl:=hw.symm;go_wp2_with fail;refine(H5.out _).mono ?_;rintro e w' ⟨rfl,hw⟩;obtain rfl:=hw.symm;go_wp2_with fail;refine(H6.out _ HW.out).mono ?_;rintro e w1 ⟨rfl,aa⟩;have ab:=hide (Zac HW.out aa);clear aa;go_wp2_with fail;go_ret;exact⟨rfl,ab.out⟩
theorem ZkW (A B:Un)(a:Option Addr)(len cap:Nat)(b:Option Addr)(len' cap':Nat)(w:World)(h:Fs w a len cap A.row.xs)(h':Fs w b len' cap' B.row.xs) :
    Calls Tryz.prog 115 #[A.val (.slice a len cap),B.val (.slice b len' cap')] w fun e w'=>e=.returned (.bool (A.same B))∧Below w.heap.size w w':=by
  obtain⟨t,n,p,k,g,s,r⟩:=A;obtain⟨t',n',p',k',g',s',r'⟩:=B;simp only at h h';have HW:=hide (ZaE w (.cells #[.int .i64 t,.int .i64 n,.int .i64 p,.int .i64 k,.int .i64 g,.int .i64 s,.float .f64 r.key,.bool r.dead,.slice a len cap,.int .i64 r.wr,.int .i64 r.cell,.int .i64 r.no] 65) (.cells #[.int .i64 t',.int .i64 n',.int .i64 p',.int .i64 k',.int .i64 g',.int .i64 s',.float .f64 r'.key,.bool r'.dead,.slice b len' cap',.int .i64 r'.wr,.int .i64 r'.cell,.int .i64 r'.no] 65));have HR:Hid (∀w',Below w.heap.size w w'→_):=fun w' hb=>ZeQ r r' a len cap b len' cap' w' (h.keep hb (Nat.le_refl _)) (h'.keep hb (Nat.le_refl _));clear h h';unfold Un.val Un.same;unfold Rw.val at HR;simp only;generalize r.same r'=m at *;by_cases et:t=t';rotate_left
  · have qt:(t == t')=false:=beq_eq_false_iff_ne.2 et;clear et;go_enter Tryz.func115,Tryz.ntmps115;go_wp2_with fail;go_ret;exact⟨by simp [qt],HW.out⟩
  subst et;by_cases en:n=n';rotate_left
  · have qn:(n == n')=false:=beq_eq_false_iff_ne.2 en;clear en;go_enter Tryz.func115,Tryz.ntmps115;go_wp2_with fail;go_ret;exact⟨by simp [qn],HW.out⟩
  subst en;by_cases ep:p=p';rotate_left
  · have qp:(p == p')=false:=beq_eq_false_iff_ne.2 ep;clear ep;go_enter Tryz.func115,Tryz.ntmps115;go_wp2_with fail;go_ret;exact⟨by simp [qp],HW.out⟩
  subst ep;by_cases ek:k=k';rotate_left
  · have qk:(k == k')=false:=beq_eq_false_iff_ne.2 ek;clear ek;go_enter Tryz.func115,Tryz.ntmps115;go_wp2_with fail;go_ret;exact⟨by simp [qk],HW.out⟩
  subst ek;by_cases eg:g=g';rotate_left
  · have qg:(g == g')=false:=beq_eq_false_iff_ne.2 eg;clear eg;go_enter Tryz.func115,Tryz.ntmps115;go_wp2_with fail;go_ret;exact⟨by simp [qg],HW.out⟩
  subst eg;by_cases es:s=s';rotate_left
  · have qs:(s == s')=false:=beq_eq_false_iff_ne.2 es;clear es;go_enter Tryz.func115,Tryz.ntmps115;go_wp2_with fail;go_ret;exact⟨by simp [qs],HW.out⟩
  subst es;go_enter Tryz.func115,Tryz.ntmps115;go_wp2_with fail;refine(HR.out _ HW.out).mono ?_;rintro e w1 ⟨rfl,aa⟩;have ab:=hide (Zac HW.out aa);clear aa;go_wp2_with fail;go_ret;exact⟨by simp,ab.out⟩
theorem Zg0 (A B:Un)(a:Option Addr)(len cap:Nat)(b:Option Addr)(len' cap':Nat)(w:World)(h:Fs w a len cap A.row.xs)(h':Fs w b len' cap' B.row.xs) :
    Calls Tryz.prog 98 #[A.val (.slice a len cap),B.val (.slice b len' cap')] w fun e w'=>e=.returned (.bool (A.same B))∧Below w.heap.size w w':=by
  obtain⟨t,n,p,k,g,s,r⟩:=A;obtain⟨t',n',p',k',g',s',r'⟩:=B;simp only at h h';have HW:=hide (ZaE w (.cells #[.int .i64 t,.int .i64 n,.int .i64 p,.int .i64 k,.int .i64 g,.int .i64 s,.float .f64 r.key,.bool r.dead,.slice a len cap,.int .i64 r.wr,.int .i64 r.cell,.int .i64 r.no] 65) (.cells #[.int .i64 t',.int .i64 n',.int .i64 p',.int .i64 k',.int .i64 g',.int .i64 s',.float .f64 r'.key,.bool r'.dead,.slice b len' cap',.int .i64 r'.wr,.int .i64 r'.cell,.int .i64 r'.no] 65));have HR:Hid (∀w',Below w.heap.size w w'→_):=fun w' hb=>Zb4 r r' a len cap b len' cap' w' (h.keep hb (Nat.le_refl _)) (h'.keep hb (Nat.le_refl _));clear h h';unfold Un.val Un.same;unfold Rw.val at HR;simp only;generalize r.same r'=m at *;by_cases et:t=t';rotate_left
  · have qt:(t == t')=false:=beq_eq_false_iff_ne.2 et;clear et;go_enter Tryz.func98,Tryz.ntmps98;go_wp2_with fail;go_ret;exact⟨by simp [qt],HW.out⟩
  subst et;by_cases en:n=n';rotate_left
  · have qn:(n == n')=false:=beq_eq_false_iff_ne.2 en;clear en;go_enter Tryz.func98,Tryz.ntmps98;go_wp2_with fail;go_ret;exact⟨by simp [qn],HW.out⟩
  subst en;by_cases ep:p=p';rotate_left
  · have qp:(p == p')=false:=beq_eq_false_iff_ne.2 ep;clear ep;go_enter Tryz.func98,Tryz.ntmps98;go_wp2_with fail;go_ret;exact⟨by simp [qp],HW.out⟩
  subst ep;by_cases ek:k=k';rotate_left
  · have qk:(k == k')=false:=beq_eq_false_iff_ne.2 ek;clear ek;go_enter Tryz.func98,Tryz.ntmps98;go_wp2_with fail;go_ret;exact⟨by simp [qk],HW.out⟩
  subst ek;by_cases eg:g=g';rotate_left
  · have qg:(g == g')=false:=beq_eq_false_iff_ne.2 eg;clear eg;go_enter Tryz.func98,Tryz.ntmps98;go_wp2_with fail;go_ret;exact⟨by simp [qg],HW.out⟩
  subst eg;by_cases es:s=s';rotate_left
  · have qs:(s == s')=false:=beq_eq_false_iff_ne.2 es;clear es;go_enter Tryz.func98,Tryz.ntmps98;go_wp2_with fail;go_ret;exact⟨by simp [qs],HW.out⟩
  subst es;go_enter Tryz.func98,Tryz.ntmps98;go_wp2_with fail;refine(HR.out _ HW.out).mono ?_;rintro e w1 ⟨rfl,aa⟩;have ab:=hide (Zac HW.out aa);clear aa;go_wp2_with fail;go_ret;exact⟨by simp,ab.out⟩
theorem Zpn (h:u.tx<1∨2147483647<u.tx∨u.no<1∨2147483647<u.no∨u.prev<0∨65535<u.prev∨u.page<0∨255<u.page∨u.slot<0∨255<u.slot):u.may=false:=by
 cases hm:u.may
 · rfl
 · have p:=Un.parts hm;have p1:=p.tx;have p2:=p.no;have p3:=p.prev;have p4:=p.page;have p5:=p.slot;omega
theorem ZnL {u:Un}(h:¬(u.tx<1∨2147483647<u.tx∨u.no<1∨2147483647<u.no∨u.prev<0∨65535<u.prev∨u.page<0∨255<u.page∨u.slot<0∨255<u.slot)):u.may=undoB u.kind u.row:=by
 unfold Un.may witB;simp only [show (1≤u.tx)=True by simp;omega,show (u.tx≤2147483647)=True by simp;omega,show (1≤u.no)=True by simp;omega,show (u.no≤2147483647)=True by simp;omega,show (0≤u.prev)=True by simp;omega,show (u.prev≤65535)=True by simp;omega,show (0≤u.page)=True by simp;omega,show (u.page≤255)=True by simp;omega,show (0≤u.slot)=True by simp;omega,show (u.slot≤255)=True by simp;omega,decide_true,Bool.and_self,Bool.true_and]
theorem Zix (u:Un)(a:Option Addr)(len cap:Nat)(w:World)(h:Fs w a len cap u.row.xs)(hf:u.row.fits) :
    Calls Tryz.prog 82 #[u.val (.slice a len cap)] w fun e w'=>e=.returned (.bool u.may)∧Below w.heap.size w w':=by
  have ae:∀(tx no prev kind page slot:Int) (r:Rw),_→Un.may ⟨tx,no,prev,kind,page,slot,r⟩=false:=fun tx no prev kind page slot r h=>Zpn (u:=⟨tx,no,prev,kind,page,slot,r⟩) h;have aa:=hide ae;have ab:=hide (@ZnL u);obtain⟨tx,no,prev,kind,page,slot,r⟩:=u;simp only at h hf ab;have HW:=hide (Zaa w (.cells #[.int .i64 tx,.int .i64 no,.int .i64 prev,.int .i64 kind,.int .i64 page,.int .i64 slot,.float .f64 r.key,.bool r.dead,(.slice a len cap),.int .i64 r.wr,.int .i64 r.cell,.int .i64 r.no] 65));have HS:Hid (∀w',Below w.heap.size w w'→_):=fun w' hb=>Zb4 r zeroR a len cap none 0 0 w' (h.keep hb (Nat.le_refl _)) (ZcX w');have HM:Hid (∀w',Below w.heap.size w w'→_):=fun w' hb=>Zdm r a len cap w' (h.keep hb (Nat.le_refl _)) hf;clear h hf ae;unfold Un.val;simp only;by_cases x1:tx<1
  · have HR:=hide (aa.out tx no prev kind page slot r (by simp only;omega));go_enter Tryz.func82,Tryz.ntmps82;go_wp2_with fail;go_ret;exact⟨by rw [HR.out];rfl,HW.out⟩
  by_cases x2:2147483647<tx
  · have HR:=hide (aa.out tx no prev kind page slot r (by simp only;omega));go_enter Tryz.func82,Tryz.ntmps82;go_wp2_with fail;go_ret;exact⟨by rw [HR.out];rfl,HW.out⟩
  by_cases x3:no<1
  · have HR:=hide (aa.out tx no prev kind page slot r (by simp only;omega));go_enter Tryz.func82,Tryz.ntmps82;go_wp2_with fail;go_ret;exact⟨by rw [HR.out];rfl,HW.out⟩
  by_cases x4:2147483647<no
  · have HR:=hide (aa.out tx no prev kind page slot r (by simp only;omega));go_enter Tryz.func82,Tryz.ntmps82;go_wp2_with fail;go_ret;exact⟨by rw [HR.out];rfl,HW.out⟩
  by_cases x5:prev<0
  · have HR:=hide (aa.out tx no prev kind page slot r (by simp only;omega));go_enter Tryz.func82,Tryz.ntmps82;go_wp2_with fail;go_ret;exact⟨by rw [HR.out];rfl,HW.out⟩
  by_cases x6:65535<prev
  · have HR:=hide (aa.out tx no prev kind page slot r (by simp only;omega));go_enter Tryz.func82,Tryz.ntmps82;go_wp2_with fail;go_ret;exact⟨by rw [HR.out];rfl,HW.out⟩
  by_cases x7:page<0
  · have HR:=hide (aa.out tx no prev kind page slot r (by simp only;omega));go_enter Tryz.func82,Tryz.ntmps82;go_wp2_with fail;go_ret;exact⟨by rw [HR.out];rfl,HW.out⟩
  by_cases x8:255<page
  · have HR:=hide (aa.out tx no prev kind page slot r (by simp only;omega));go_enter Tryz.func82,Tryz.ntmps82;go_wp2_with fail;go_ret;exact⟨by rw [HR.out];rfl,HW.out⟩
  by_cases x9:slot<0
  · have HR:=hide (aa.out tx no prev kind page slot r (by simp only;omega));go_enter Tryz.func82,Tryz.ntmps82;go_wp2_with fail;go_ret;exact⟨by rw [HR.out];rfl,HW.out⟩
  by_cases x10:255<slot
  · have HR:=hide (aa.out tx no prev kind page slot r (by simp only;omega));go_enter Tryz.func82,Tryz.ntmps82;go_wp2_with fail;go_ret;exact⟨by rw [HR.out];rfl,HW.out⟩
  have HR:=hide (ab.out (by omega));clear aa ab;by_cases k1:kind=1
  · subst k1;have HR':Hid (Un.may ⟨tx,no,prev,1,page,slot,r⟩=r.same zeroR):=HR.out.trans (if_pos rfl);generalize r.same zeroR=m at *;unfold Rw.val zeroR at HS;simp only at HS;clear HR;go_enter Tryz.func82,Tryz.ntmps82;go_wp2_with fail;refine(HS.out _ HW.out).mono ?_;rintro e w1 ⟨rfl,ac⟩;have ad:=hide (Zac HW.out ac);clear ac;go_wp2_with fail;go_ret;exact⟨by rw [HR'.out];rfl,ad.out⟩
  · have e1:(kind == 1)=false:=beq_eq_false_iff_ne.2 k1;by_cases k2:kind=2
    · subst k2;have HR':Hid (Un.may ⟨tx,no,prev,2,page,slot,r⟩=r.may):=HR.out.trans rfl;generalize r.may=m at *;unfold Rw.val at HM;clear HR e1 k1;go_enter Tryz.func82,Tryz.ntmps82;go_wp2_with fail;refine(HM.out _ HW.out).mono ?_;rintro e w1 ⟨rfl,ac⟩;have ad:=hide (Zac HW.out ac);clear ac;go_wp2_with fail;go_ret;exact⟨by rw [HR'.out];rfl,ad.out⟩
    · have e2:(kind == 2)=false:=beq_eq_false_iff_ne.2 k2;have HR':Hid (Un.may ⟨tx,no,prev,kind,page,slot,r⟩=false):=HR.out.trans (by unfold undoB;rw [if_neg k1,if_neg k2]);clear HR k1 k2;go_enter Tryz.func82,Tryz.ntmps82;go_wp2_with fail;go_ret;exact⟨by rw [HR'.out];rfl,HW.out⟩
structure Ux where
  u:Un
  a:Option Addr
  n:Nat
  c:Nat
def Ux.val (x:Ux):Value:=x.u.val (.slice x.a x.n x.c)
def Ux.zero:Ux:=⟨zeroU,none,0,0⟩
def Ux.cells (x:Ux):List Value:=[.int .i64 x.u.tx,.int .i64 x.u.no,.int .i64 x.u.prev,.int .i64 x.u.kind,.int .i64 x.u.page,.int .i64 x.u.slot,.float .f64 x.u.row.key,.bool x.u.row.dead,.slice x.a x.n x.c,.int .i64 x.u.row.wr,.int .i64 x.u.row.cell,.int .i64 x.u.row.no]
structure UnAt (w:World) (b o:Nat) (x:Ux):Prop where
  c0:w.cell? ⟨b,o,none⟩=some (.int .i64 x.u.tx)
  c1:w.cell? ⟨b,o+1,none⟩=some (.int .i64 x.u.no)
  c2:w.cell? ⟨b,o+2,none⟩=some (.int .i64 x.u.prev)
  c3:w.cell? ⟨b,o+3,none⟩=some (.int .i64 x.u.kind)
  c4:w.cell? ⟨b,o+4,none⟩=some (.int .i64 x.u.page)
  c5:w.cell? ⟨b,o+5,none⟩=some (.int .i64 x.u.slot)
  c6:w.cell? ⟨b,o+6,none⟩=some (.float .f64 x.u.row.key)
  c7:w.cell? ⟨b,o+7,none⟩=some (.bool x.u.row.dead)
  c8:w.cell? ⟨b,o+8,none⟩=some (.slice x.a x.n x.c)
  c9:w.cell? ⟨b,o+9,none⟩=some (.int .i64 x.u.row.wr)
  c10:w.cell? ⟨b,o+10,none⟩=some (.int .i64 x.u.row.cell)
  c11:w.cell? ⟨b,o+11,none⟩=some (.int .i64 x.u.row.no)
theorem UnAt.keep {o:Nat}{x:Ux}(h:UnAt w b o x)(hb:Below B w w')(hB:w.heap.size≤B):UnAt w' b o x:=by
 have k:∀{p:Addr} {v:Value},w.cell? p=some v→w'.cell? p=some v:=fun {p v} hc=>(hb.cell (Nat.lt_of_lt_of_le (World.block_lt_of_cell? w _ hc) hB)).trans hc;exact⟨k h.c0,k h.c1,k h.c2,k h.c3,k h.c4,k h.c5,k h.c6,k h.c7,k h.c8,k h.c9,k h.c10,k h.c11⟩
theorem UnAt.of {o:Nat}{x:Ux}(h:∀t,t<12→w.cell? ⟨b,o+t,none⟩=x.cells[t]?):UnAt w b o x:=
 ⟨h 0 (by decide),h 1 (by decide),h 2 (by decide),h 3 (by decide),h 4 (by decide),h 5 (by decide),h 6 (by decide),h 7 (by decide),h 8 (by decide),h 9 (by decide),h 10 (by decide),h 11 (by decide)⟩
theorem Zbs (b o:Nat)(x:Ux)(w:World)(h:UnAt w b o x):(Instr.loadAt 65 (.pointer (some ⟨b,o,none⟩))).run Tryz.prog w=.ok x.val w:=by
 have c0:=h.c0;have c1:=h.c1;have c2:=h.c2;have c3:=h.c3;have c4:=h.c4;have c5:=h.c5;have c6:=h.c6;have c7:=h.c7;have c8:=h.c8;have c9:=h.c9;have c10:=h.c10;have c11:=h.c11;simp [go_sem,c0,c1,c2,c3,c4,c5,c6,c7,c8,c9,c10,c11,Un.val,Ux.val]
theorem Zcw (b o len cap k:Nat)(hk:k<len)(w:World):(Instr.indexAt 25 (.slice (some ⟨b,o,none⟩) len cap) (.int .i64 (k:Nat))).run Tryz.prog w=.ok (.pointer (some ⟨b,o+k*12,none⟩)) w:=by
 (have aa:Tryz.prog.underlying 25=some (.slice (Tryz.prog.elem 25)):=by kernel_rfl);(have h1:(0:Int)≤(k:Int):=by omega);simp [go_sem,Instr.indexAt,run_underlying aa,h1,Addr.add_lit];omega
structure Us (w:World) (a:Option Addr) (m:Nat) (l:List Ux):Prop where
  len:l.length=m
  at':∀j,j<m→∃b off,a=some ⟨b,off,none⟩∧UnAt w b (off+j*12) (l.getD j Ux.zero)
  cols:∀x∈l,Fs w x.a x.n x.c x.u.row.xs
  fits:∀x∈l,x.u.fits
theorem Us.keep {len:Nat}{l:List Ux}(h:Us w a len l)(hb:Below B w w')(hB:w.heap.size≤B):Us w' a len l:=by
 refine⟨h.len,fun j hj=>?_,fun x hx=>(h.cols x hx).keep hb hB,h.fits⟩;obtain⟨b,off,ha,hu⟩:=h.at' j hj;exact⟨b,off,ha,hu.keep hb hB⟩
theorem Us.mem {len:Nat}{l:List Ux}(h:Us w a len l){j:Nat}(hj:j<len):l.getD j Ux.zero∈l:=by
 (have:j<l.length:=by rw [h.len];exact hj);simp [List.getD,this]
def uns (l:List Ux):List Un:=l.map Ux.u
theorem ZcN (l:List Ux):(uns l).length=l.length:=by simp [uns]
theorem Zb6 (l:List Ux)(j:Nat):(uns l).getD j zeroU=(l.getD j Ux.zero).u:=by
 unfold uns;by_cases h:j<l.length
 · simp [List.getD,h]
 · have h':l.length≤j:=Nat.le_of_not_lt h;simp [List.getD,h',Ux.zero]
theorem Zhz (u:Un)(a:Option Addr)(len cap:Nat)(w:World)(h:Fs w a len cap u.row.xs) :
    Calls Tryz.prog 81 #[u.val (.slice a len cap)] w fun e w'=>e=.returned (.bool (u.same zeroU))∧Below w.heap.size w w':=by
  have HS:Hid (∀w',Below w.heap.size w w'→_):=fun w' hb=>Zg0 u zeroU a len cap none 0 0 w' (h.keep hb (Nat.le_refl _)) (ZcX w');have HX:=hide (ZbH w u (.slice a len cap));have HW:Hid (∀o,Below w.heap.size w (w.alloc o)):=Zaa w;clear h;generalize u.same zeroU=m at *;unfold Un.val at HS ⊢;go_enter Tryz.func81,Tryz.ntmps81;go_wp2_with fail;refine(HS.out _ (HW.out _)).mono ?_;rintro e w1 ⟨rfl,aa⟩;have ab:=hide (Zac (HW.out _) aa);clear aa;go_wp2_with fail;go_ret;exact⟨rfl,ab.out⟩
def Zas (l:List Ux):List Value:=l.flatMap Ux.cells
theorem Zfv:∀l:List Ux,(Zas l).length=l.length*12
 | []=>rfl
 | x :: l=>by
  have e:Zas (x :: l)=x.cells ++ Zas l:=rfl
  rw [e,List.length_append,Zfv l,List.length_cons]
  have:x.cells.length=12:=rfl
  omega
theorem Zfu:∀(l:List Ux)(j t:Nat),j<l.length→t<12→(Zas l)[j*12+t]? = (l.getD j Ux.zero).cells[t]?
 | [],j,t,hj,_=>by simp at hj
 | x :: l,0,t,_,ht=>by
  have e:Zas (x :: l)=x.cells ++ Zas l:=rfl
  have hl:x.cells.length=12:=rfl
  rw [e,Nat.zero_mul,Nat.zero_add,List.getElem?_append_left (by omega)]
  rfl
 | x :: l,j+1,t,hj,ht=>by
  have e:Zas (x :: l)=x.cells ++ Zas l:=rfl
  have hl:x.cells.length=12:=rfl
  rw [e,List.getElem?_append_right (by omega),hl,show (j+1)*12+t-12=j*12+t by omega]
  exact Zfu l j t (by simpa using hj) ht
theorem Zqo:(Tryz.prog.info? 65).map (fun i=>(i.zero,i.size,i.bytes))=some (some (.agg #[.int .i64 0,.int .i64 0,.int .i64 0,.int .i64 0,.int .i64 0,.int .i64 0,.float .f64 0,.bool false,.slice none 0 0,.int .i64 0,.int .i64 0,.int .i64 0]),12,112):=by kernel_rfl
structure Col (w0 w:World) (x:Ux):Prop where
  fs:Fs w x.a x.n x.c x.u.row.xs
  home:∀b off,x.a=some ⟨b,off,none⟩→0<x.n→b<w0.heap.size∨∃C fr,w.heap[b]? = some (Obj.cells C 32 fr)
theorem Col.keep {x:Ux}(h:Col w0 w x)(hb:Below w.heap.size w w'):Col w0 w' x:=by
 refine⟨h.fs.keep hb (Nat.le_refl _),fun b off ha hn=>?_⟩;rcases h.home b off ha hn with k | ⟨C,fr,k⟩
 · exact .inl k
 · exact .inr ⟨C,fr,(hb.block b (Array.getElem?_eq_some_iff.1 k).1).trans k⟩
theorem Col.owns {base:Nat}{c:Nat}(h:OwnsV 32 w base (.slice a n c) (fVals u.row.xs))(hf:Fs w a n c u.row.xs):Col w0 w ⟨u,a,n,c⟩:=by
 refine⟨hf,fun b off ha hn=>.inr ?_⟩;rcases h.2 with ⟨hv,h0⟩ | ⟨g,cp,cur,hv,_,hg,_⟩
 · simp only [Value.slice.injEq] at hv;simp only at ha;rw [hv.1] at ha;cases ha
 · simp only [Value.slice.injEq] at hv;simp only at ha;rw [hv.1] at ha;cases ha;exact⟨_,_,hg⟩
theorem Col.zero (w0 w:World):Col w0 w Ux.zero:=⟨ZcX w,fun _ _ _ hn=>absurd hn (Nat.lt_irrefl 0)⟩
theorem Fs.sameU {c:Nat}{xs:List Nat}(h:Fs w a n c xs)(hs:∀b off,a=some ⟨b,off,none⟩→0<n→W.heap[b]? = w.heap[b]?):Fs W a n c xs:=by
 refine⟨⟨h.vs.1,h.vs.2.1,fun j hj=>?_⟩,h.fit,h.nil,h.le,h.big⟩;obtain⟨b,off,ha,hc⟩:=h.vs.2.2 j hj;refine⟨b,off,ha,?_⟩;rw [← hc];simp only [World.cell?,hs b off ha (by omega)]
structure Ud (w0 w:World) (s:Sl) (l:List Ux):Prop where
  own:Own 65 12 w s (Zas l)
  new:∀k,s.blk=some k→w0.heap.size≤k
  below:Below w0.heap.size w0 w
  cols:∀x∈l,Col w0 w x
  fits:∀x∈l,x.u.fits
theorem Ud.len {l:List Ux}(h:Ud w0 w s l):l.length=s.len:=by
 have:=h.own.1;rw [Zfv] at this;omega
theorem Ud.keep {l:List Ux}(h:Ud w0 w s l)(hb:Below w.heap.size w w'):Ud w0 w' s l:=
 ⟨h.own.frame (fun k hk=>hb.block k (h.own.lt hk)),h.new,Zac h.below hb,fun x hx=>(h.cols x hx).keep hb,h.fits⟩
theorem Own.unAt {l:List Ux}(h:Own 65 12 w s (Zas l)){off:Nat}(ha:s.a=some ⟨b,off,none⟩)(j:Nat)(hj:j<l.length):UnAt w b (off+j*12) (l.getD j Ux.zero):=by
 refine UnAt.of fun t ht=>?_;have hg:=Zfu l j t hj ht;have aa:t<(l.getD j Ux.zero).cells.length:=ht;rw [List.getElem?_eq_getElem aa] at hg ⊢;have:=h.cell ha (j*12+t) _ hg;rwa [Addr.add_lit,← Nat.add_assoc] at this
theorem Ud.us {l:List Ux}(h:Ud w0 w s l):Us w s.a s.len l:=by
 refine⟨h.len,fun j hj=>?_,fun x hx=>(h.cols x hx).fs,h.fits⟩;rcases h.own.2 with ⟨h0,_⟩ | ⟨g,off,cur,ha,_⟩
 · rw [h0] at hj;exact absurd hj (Nat.not_lt_zero _)
 · exact⟨g,off,ha,h.own.unAt ha j (by rw [h.len];exact hj)⟩
theorem ZnJ:madeCells (Value.agg #[.int .i64 0,.int .i64 0,.int .i64 0,.int .i64 0,.int .i64 0,.int .i64 0,.float .f64 0,.bool false,.slice none 0 0,.int .i64 0,.int .i64 0,.int .i64 0]).cells (6*12)=(Zas (List.replicate 6 Ux.zero)).toArray:=by kernel_rfl
theorem Zgo (w:World):(Instr.makeSlice 25 (.int .i64 6) (.int .i64 6)).run Tryz.prog w=.ok (.slice (some ⟨w.heap.size,0,none⟩) 6 6) (w.alloc (.cells (Zas (List.replicate 6 Ux.zero)).toArray 65)):=by
 obtain⟨i0,hi,ab,aa,ac⟩:=info_parts Zqo;have h:=run_makeSlice (P:=Tryz.prog) w 25 65 i0 (.agg #[.int .i64 0,.int .i64 0,.int .i64 0,.int .i64 0,.int .i64 0,.int .i64 0,.float .f64 0,.bool false,.slice none 0 0,.int .i64 0,.int .i64 0,.int .i64 0]) Tryz.underlying25 hi ab .i64 .i64 6 6 (by omega) (by omega) (by rw [aa];decide) (by rw [ac];decide) (by omega);rw [aa,show (6:Int).toNat=6 from rfl,ZnJ] at h;exact h
theorem Ud.six (w0 w:World)(hb:Below w0.heap.size w0 w):Ud w0 (w.alloc (.cells (Zas (List.replicate 6 Ux.zero)).toArray 65)) ⟨some ⟨w.heap.size,0,none⟩,6,6⟩ (List.replicate 6 Ux.zero):=by
 refine⟨⟨rfl,.inr ⟨w.heap.size,0,_,rfl,heap_alloc_new w _,(by show 0+6*12≤(Zas (List.replicate 6 Ux.zero)).toArray.size;decide),Nat.le_refl _,(by show (6:Nat)≤maxLen;unfold maxLen;decide),rfl⟩⟩,fun k hk=>?_,Zac hb (Zaa w _),(fun x hx=>?_),fun x hx=>?_⟩
 · have e:some w.heap.size=some k:=hk;cases e;exact hb.size
 · rw [(List.mem_replicate.1 hx).2];exact Col.zero _ _
 · rw [(List.mem_replicate.1 hx).2];exact ZdP
open Go.ChangeShapes Go.WideShapes Go.ChangeAt Go.RowKit
section
variable {H : Type} {enc : TypeId × Value → H} {w : World} {base : Nat} {spare : Nat → Bool} {held : Bool}
theorem Zm5 {k:Nat}{c0 c1 c2 c3 c4 c5:Value}{y:DataW H × List MemPlace}(hf:DataW.trod enc Tryz.prog w base spare held k 39 [c0,c1,c2,c3,c4,c5]=some y) :
    ∃(R:Rw) (a:Option Addr) (len cap:Nat),[c0,c1,c2,c3,c4,c5]=[.float .f64 R.key,.bool R.dead,.slice a len cap,.int .i64 R.wr,.int .i64 R.cell,.int .i64 R.no]∧Fs w a len cap R.xs∧R.fits:=by
  (have hR:Tryz.prog.cellsOf 37=2:=by kernel_rfl);(have h1:Tryz.prog.cellsOf 32=1:=by kernel_rfl);(have h2:Tryz.prog.cellsOf 4=1:=by kernel_rfl);(have h3:Tryz.prog.cellsOf 35=1:=by kernel_rfl);(have h4:Tryz.prog.cellsOf 3=1:=by kernel_rfl);obtain⟨xs,n,_,_,_,ab,aa⟩:=DataW.trod_struct Tryz.underlying39 hf
  match xs,ab with
  | [y0,y1,y2,y3,y4],_ =>
   (have t0:DataW.trod enc Tryz.prog w base spare held n 32 [c0]=some y0:=by simpa [Value.cells,h1] using aa 0 _ rfl);(have t1:DataW.trod enc Tryz.prog w base spare held n 4 [c1]=some y1:=by simpa [Value.cells,h2] using aa 1 _ rfl);(have t2:DataW.trod enc Tryz.prog w base spare held n 35 [c2]=some y2:=by simpa [Value.cells,h3] using aa 2 _ rfl);(have t3:DataW.trod enc Tryz.prog w base spare held n 3 [c3]=some y3:=by simpa [Value.cells,h4] using aa 3 _ rfl);(have t4:DataW.trod enc Tryz.prog w base spare held n 37 [c4,c5]=some y4:=by simpa [Value.cells,hR] using aa 4 _ rfl);obtain⟨b,e0,l0⟩:=Zcr t0;obtain⟨bb,e1,_⟩:=DataW.trod_bool (by kernel_rfl:Tryz.prog.underlying 4=some .bool) t1;obtain⟨k3,e3,_,w3⟩:=DataW.trod_int Tryz.underlying3 t3;obtain⟨z0,z1,n',_,_,u0,u1⟩:=trod_struct2 Tryz.underlying37 t4;(replace u0:DataW.trod enc Tryz.prog w base spare held n' 3 [c4]=some z0:=by simpa [h4] using u0);(replace u1:DataW.trod enc Tryz.prog w base spare held n' 3 [c5]=some z1:=by simpa [h4] using u1);obtain⟨k4,e4,_,w4⟩:=DataW.trod_int Tryz.underlying3 u0;obtain⟨k5,e5,_,w5⟩:=DataW.trod_int Tryz.underlying3 u1;obtain⟨a,len,cap,e2⟩:=Go.Joins.slice_form Tryz.underlying35 t2;simp only [List.cons.injEq,and_true] at e1 e2 e3 e4 e5;subst e0 e1 e2 e3 e4 e5;obtain⟨fl,ac⟩:=ZnQ t2;exact⟨⟨b,bb,fl,k3,k4,k5⟩,a,len,cap,rfl,ac,⟨l0,ac.fit,w3,w4,w5⟩⟩
end
open Go.ChangeShapes Go.WideShapes Go.ChangeAt Go.RowKit
section
variable {H : Type} {enc : TypeId × Value → H} {w : World} {base : Nat} {spare : Nat → Bool} {held : Bool}
theorem ZkX {k:Nat}{c0 c1 c2 c3 c4 c5 c6 c7 c8 c9 c10 c11:Value}{y:DataW H × List MemPlace}(hf:DataW.trod enc Tryz.prog w base spare held k 65 [c0,c1,c2,c3,c4,c5,c6,c7,c8,c9,c10,c11]=some y) :
    ∃x:Ux,[c0,c1,c2,c3,c4,c5,c6,c7,c8,c9,c10,c11]=x.cells∧Fs w x.a x.n x.c x.u.row.xs∧x.u.fits:=by
  (have hR:Tryz.prog.cellsOf 39=6:=by kernel_rfl);(have h4:Tryz.prog.cellsOf 3=1:=by kernel_rfl);obtain⟨xs,n,_,_,_,ac,aa⟩:=DataW.trod_struct Tryz.underlying65 hf
  match xs,ac with
  | [y0,y1,y2,y3,y4,y5,y6],_ =>
   (have t0:DataW.trod enc Tryz.prog w base spare held n 3 [c0]=some y0:=by simpa [Value.cells,h4] using aa 0 _ rfl);(have t1:DataW.trod enc Tryz.prog w base spare held n 3 [c1]=some y1:=by simpa [Value.cells,h4] using aa 1 _ rfl);(have t2:DataW.trod enc Tryz.prog w base spare held n 3 [c2]=some y2:=by simpa [Value.cells,h4] using aa 2 _ rfl);(have t3:DataW.trod enc Tryz.prog w base spare held n 3 [c3]=some y3:=by simpa [Value.cells,h4] using aa 3 _ rfl);(have t4:DataW.trod enc Tryz.prog w base spare held n 3 [c4]=some y4:=by simpa [Value.cells,h4] using aa 4 _ rfl);(have t5:DataW.trod enc Tryz.prog w base spare held n 3 [c5]=some y5:=by simpa [Value.cells,h4] using aa 5 _ rfl);(have t6:DataW.trod enc Tryz.prog w base spare held n 39 [c6,c7,c8,c9,c10,c11]=some y6:=by simpa [Value.cells,hR] using aa 6 _ rfl);obtain⟨k0,e0,_,w0⟩:=DataW.trod_int Tryz.underlying3 t0;obtain⟨k1,e1,_,w1⟩:=DataW.trod_int Tryz.underlying3 t1;obtain⟨k2,e2,_,w2⟩:=DataW.trod_int Tryz.underlying3 t2;obtain⟨k3,e3,_,w3⟩:=DataW.trod_int Tryz.underlying3 t3;obtain⟨k4,e4,_,w4⟩:=DataW.trod_int Tryz.underlying3 t4;obtain⟨k5,e5,_,w5⟩:=DataW.trod_int Tryz.underlying3 t5;obtain⟨R,a,len,cap,e6,ad,ab⟩:=Zm5 t6;simp only [List.cons.injEq,and_true] at e0 e1 e2 e3 e4 e5 e6;obtain⟨rfl,rfl,rfl,rfl,rfl,rfl⟩:=e6;subst e0 e1 e2 e3 e4 e5;exact⟨⟨⟨k0,k1,k2,k3,k4,k5,R⟩,a,len,cap⟩,rfl,ad,⟨w0,w1,w2,w3,w4,w5,ab⟩⟩
theorem Zk9 {len cap:Nat}{y:DataW H × List MemPlace}(h:DataW.trod enc Tryz.prog w base spare held n 25 [.slice a len cap]=some y) :
    ∃l,Us w a len l∧len≤9223372036854775807:=by
  (have hC:Tryz.prog.cellsOf 65=12:=by kernel_rfl);rcases Go.Deep.open_slice Tryz.underlying25 h with ⟨ad,_⟩ | ⟨x,l,c,m,k,D,Pl,ad,hb,hl,hm,ah,_,hx⟩
  · simp only [List.cons.injEq,Value.slice.injEq,and_true] at ad;obtain⟨rfl,rfl,rfl⟩:=ad;exact⟨[],⟨rfl,(fun j hj=>absurd hj (Nat.not_lt_zero _)),(fun x hx=>by cases hx),fun x hx=>by cases hx⟩,by omega⟩
  · simp only [List.cons.injEq,Value.slice.injEq,and_true] at ad;obtain⟨rfl,rfl,rfl⟩:=ad;(have aj:len≤m:=by rw [ah];split <;> omega);have ai:0<len→x.spot=none:=by
     intro h0;obtain⟨cs,h1,_⟩:=hx 0 (by omega);rw [hC] at h1;obtain⟨_,ac,hc⟩:=World.cells?_some h1
     match cs,ac with
     | [c0,c1,c2,c3,c4,c5,c6,c7,c8,c9,c10,c11],_ =>
      have e0:=hc 0 (by omega);have:=World.cell?_spot (by simpa using e0);simpa [Addr.add] using this
    have each:∀i,i<len→∃t:Ux,∃b off,x=⟨b,off,none⟩∧UnAt w b (off+i*12) t∧Fs w t.a t.n t.c t.u.row.xs∧t.u.fits:=by
     intro i hi;obtain⟨cs,g1,g2⟩:=hx i (by omega);rw [hC] at g1;obtain⟨_,ac,hc⟩:=World.cells?_some g1
     match cs,ac with
     | [c0,c1,c2,c3,c4,c5,c6,c7,c8,c9,c10,c11],_ =>
      obtain⟨t,ht,ae,ab⟩:=ZkX g2;have aa:x.spot=none:=ai (by omega);obtain⟨b,off,spot⟩:=x;simp only at aa;subst aa;refine⟨t,b,off,rfl,UnAt.of fun q hq=>?_,ae,ab⟩;have e:=hc q (by omega);simp only [Addr.add_lit] at e;rw [← ht];simpa using e
    obtain⟨f,hf⟩:=@Go.Deep.choose_lt Ux ⟨Ux.zero⟩ len _ each;(have af:∀j,j<len→((List.range len).map f).getD j Ux.zero=f j:=fun j hj=>by simp [List.getD,hj]);refine⟨(List.range len).map f,⟨by simp,fun j hj=>?_,fun t ht=>?_,fun t ht=>?_⟩,by unfold maxLen at hm;omega⟩
    · obtain⟨b,off,rfl,ag,_⟩:=hf j hj;refine⟨b,off,rfl,?_⟩;rw [af j hj];exact ag
    · obtain⟨j,hj,rfl⟩:=List.mem_map.1 ht;obtain⟨_,_,_,_,ae,_⟩:=hf j (by simpa using hj);exact ae
    · obtain⟨j,hj,rfl⟩:=List.mem_map.1 ht;obtain⟨_,_,_,_,_,ab⟩:=hf j (by simpa using hj);exact ab
end
end Go.Proofs.YtiecfcjlhldhdaaGreat
