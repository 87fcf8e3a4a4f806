/-
  Lemmas.
-/
import Derived.Test.YtpnlebpnhmibfaaGreatBa
import Derived.Laws.CopyRow
import Derived.Laws.IdiomCopy
namespace Go.Proofs.YtpnlebpnhmibfaaGreat
open Go.RowKit
set_option linter.unusedVariables false
set_option maxRecDepth 100000
set_option maxHeartbeats 4000000
variable {w w' w1:World}{p k g B:Nat}{x y:Value}{xs:List Nat}{A:Act}{a o:Int}{t:Bool}
theorem Za6 (w:World)(o o':Obj):Below w.heap.size w ((w.alloc o).alloc o'):=
 (Zaa w o).trans ((Zaa (w.alloc o) o').mono (Zaa w o).size)
structure Home where
  G:Nat→Prop
  low:Nat
  all:∀k,low≤k→G k
variable {K : Home}
structure BsS (K:Home) (w:World) (s:Sl) (xs:List Nat):Prop where
  came:Came w s.a s.len s.cap xs
  low:K.low≤w.heap.size
  home:0<s.len→∀ad,s.a=some ad→K.G ad.block
theorem BsS.bs {s:Sl}(h:BsS K w s xs):Bs w s.a s.len xs:=h.came.bs
theorem BsS.nil {s:Sl}(h:BsS K w s xs):s.a=none→s.cap=0:=h.came.nil
theorem BsS.le {s:Sl}(h:BsS K w s xs):s.len≤s.cap:=h.came.le
theorem BsS.big {s:Sl}(h:BsS K w s xs):s.len≤9223372036854775807:=h.came.big
theorem BsS.keep {s:Sl}(h:BsS K w s xs)(hb:Below B w w')(hB:w.heap.size≤B):BsS K w' s xs:=⟨⟨h.bs.keep hb hB,h.nil,h.le,h.big⟩,Nat.le_trans h.low hb.size,h.home⟩
theorem BsS.len {s:Sl}(h:BsS K w s xs):xs.length=s.len:=h.bs.1
structure Dk where
  pg:List Nat
  base:Int
  st:List Nat
def Dk.val (d:Dk) (p s:Sl):Value:=.agg #[p.val,.int .i64 d.base,s.val]
structure DkIn (K:Home) (w:World) (d:Dk) (p s:Sl):Prop where
  pg:BsS K w p d.pg
  st:BsS K w s d.st
theorem DkIn.keep {d:Dk}{p s:Sl}(h:DkIn K w d p s)(hb:Below B w w')(hB:w.heap.size≤B):DkIn K w' d p s:=⟨h.pg.keep hb hB,h.st.keep hb hB⟩
structure Pt where
  at_:Int
  b:List Nat
  trim:Bool
  to:Int
def Pt.val (u:Pt) (s:Sl):Value:=.agg #[.int .i64 u.at_,s.val,.bool u.trim,.int .i64 u.to]
def Pt.size (u:Pt):Nat:=if u.at_<0∧u.trim=false then u.b.length else 1
theorem Zbb (u:Pt)(s:Sl)(w:World)(h:BsS K w s u.b):Calls Tryz.prog 75 #[u.val s] w fun e w'=>e=.returned (.int .i64 (u.size:Nat))∧Below w.heap.size w w':=by
 obtain⟨at_,b,trim,to⟩:=u;obtain⟨a,len,cap⟩:=s;have HL:=hide h.len;have HW:Hid (∀o,Below w.heap.size w (w.alloc o)):=Zaa w;clear h;unfold Pt.val Sl.val;simp only at HL ⊢;by_cases h0:at_<0
 · cases trim
   · (have e:Pt.size ⟨at_,b,false,to⟩=len:=by simp [Pt.size,h0,HL.out]);rw [e];go_enter Tryz.func75,Tryz.ntmps75;go_wp2_with fail;go_ret;exact⟨rfl,HW.out _⟩
   · (have e:Pt.size ⟨at_,b,true,to⟩=1:=by simp [Pt.size]);rw [e];go_enter Tryz.func75,Tryz.ntmps75;go_wp2_with fail;go_ret;exact⟨rfl,HW.out _⟩
 · (have e:Pt.size ⟨at_,b,trim,to⟩=1:=by simp [Pt.size,h0]);rw [e];go_enter Tryz.func75,Tryz.ntmps75;go_wp2_with fail;go_ret;exact⟨rfl,HW.out _⟩
def DkBlk (w:World) (p:Nat) (x:Value) (b:Int) (y:Value):Prop:=w.heap[p]? = some (Obj.cells #[x,.int .i64 b,y] 34 (0,0))
theorem DkBlk.keep {b:Int}(h:DkBlk w p x b y)(hb:Below w.heap.size w w'):DkBlk w' p x b y:=(hb.block p (Array.getElem?_eq_some_iff.1 h).1).trans h
theorem DkBlk.c0 {b:Int}(h:DkBlk w p x b y):w.cell? ⟨p,0,none⟩=some x:=by unfold DkBlk at h;simp [World.cell?,h]
theorem DkBlk.c1 {b:Int}(h:DkBlk w p x b y):w.cell? ⟨p,1,none⟩=some (.int .i64 b):=by unfold DkBlk at h;simp [World.cell?,h]
theorem DkBlk.c2 {b:Int}(h:DkBlk w p x b y):w.cell? ⟨p,2,none⟩=some y:=by unfold DkBlk at h;simp [World.cell?,h]
theorem DkBlk.fz {b:Int}(h:DkBlk w p x b y)(o:Nat):w.frozen? ⟨p,o,none⟩=false:=frozen_of_row w p _ _ 34 h
theorem Zbu (w:World)(x:Value)(b:Int)(y:Value):DkBlk (w.alloc (.cells #[x,.int .i64 b,y] 34)) w.heap.size x b y:=heap_alloc_new w _
def setDk (w:World) (g:Nat) (x:Value) (b:Int) (y:Value):World:=((w.setCell ⟨g,0,none⟩ x).setCell ⟨g,1,none⟩ (.int .i64 b)).setCell ⟨g,2,none⟩ y
theorem Zax (w:World)(g:Nat)(x:Value)(b:Int)(y:Value):(setDk w g x b y).heap.size=w.heap.size:=by simp only [setDk,Zag]
theorem Zg4 {x0 y0:Value}{b0:Int}(h:DkBlk w g x0 b0 y0)(x:Value)(b:Int)(y:Value):DkBlk (setDk w g x b y) g x b y:=by
 have h1:=heap_setCell_same w g 0 _ 34 x h;have h2:=heap_setCell_same _ g 1 _ 34 (.int .i64 b) h1;have h3:=heap_setCell_same _ g 2 _ 34 y h2;unfold DkBlk setDk;rw [h3];simp
theorem ZcV {w0:World}(hb:Below B w0 w)(hg:B≤g)(x:Value)(b:Int)(y:Value):Below B w0 (setDk w g x b y):=
 ((hb.setCell (p:=⟨g,0,none⟩) hg _).setCell (p:=⟨g,1,none⟩) hg _).setCell (p:=⟨g,2,none⟩) hg _
theorem Zcu (w:World)(g:Nat)(x:Value)(b:Int)(y:Value)(k:Nat)(hk:k≠g):(setDk w g x b y).heap[k]? = w.heap[k]?:=by
 unfold setDk;rw [Below.heap_setCell _ ⟨g,2,none⟩ _ k hk,Below.heap_setCell _ ⟨g,1,none⟩ _ k hk,Below.heap_setCell _ ⟨g,0,none⟩ _ k hk]
theorem Zd0 {fn:Func}{x:Nat}(hr:fn.results=#[.cell x 34]){W:World}{p s:Sl}{d:Dk}(h:DkBlk W g p.val d.base s.val)(tmps:Array Value)(ht:tmps.getD x undef=.pointer (some ⟨g,0,none⟩)):(results fn tmps).run Tryz.prog W=.ok (d.val p s) W:=by
 have c0:=h.c0;have c1:=h.c1;have c2:=h.c2;unfold Sl.val at c0 c2;(have aa:tmps[x]?.getD undef=.pointer (some ⟨g,0,none⟩):=by simpa using ht);simp [results,hr,aa,go_sem,c0,c1,c2,Dk.val,Sl.val]
theorem Zmn {fn:Func}{x:Nat}(aa:fn.results=#[.cell x 34]){W:World}{x0 y0:Value}{b0:Int}(h:DkBlk W g x0 b0 y0)(d:Dk)(p s:Sl){R:Ending→World→Prop}(t2:A.tmps.getD x undef=.pointer (some ⟨g,0,none⟩))(hd:A.defers=[])
    (hR:R (.returned (d.val p s)) (setDk W g p.val d.base s.val)):bodyPost Tryz.prog fn R Exit.ret A (setDk W g p.val d.base s.val):=by
  have hr:=Zg4 h p.val d.base s.val;generalize setDk W g p.val d.base s.val=W' at *;exact bodyPost_ret (Zd0 aa hr _ t2) hd hR
theorem Owns.sl {base:Nat}{v:Value}(h:Owns w base v xs)(hx:Bytes xs)(hm:xs.length≤1000000)(hK:K.low≤base)(hw:K.low≤w.heap.size):∃s:Sl,v=s.val∧BsS K w s xs:=by
 obtain⟨a,cap,hv,aa,hn⟩:=h.bs hx;refine⟨⟨a,xs.length,cap⟩,hv,⟨aa,hn,?_,by show xs.length≤_;omega⟩,hw,fun h0 ad ha=>?_⟩;rotate_left
 · obtain⟨g,cp,hv',hg,_⟩:=h.pos h0;rw [hv] at hv';simp only [Value.slice.injEq] at hv';have ha':a=some ad:=ha;rw [hv'.1] at ha';obtain rfl:=Option.some.inj ha';exact K.all _ (Nat.le_trans hK hg)
 rcases h.2 with ⟨hv',h0'⟩ | ⟨g,cp,cur,hv',_,_,ab,_⟩
 · show xs.length≤cap;rw [h0'];exact Nat.zero_le _
 · rw [hv] at hv';simp only [Value.slice.injEq] at hv';show xs.length≤cap;rw [hv'.2.2];exact ab
theorem BsS.from_ {s:Sl}(h:BsS K w s xs)(hk:k≤s.len):BsS K w (s.from_ k) (xs.drop k):=by
 refine⟨⟨h.bs.from hk h.le,?_,by have:=h.le;show s.len-k≤s.cap-k;omega,by have:=h.big;show s.len-k≤_;omega⟩,h.low,fun h0 ad ha=>?_⟩;rotate_left
 · (have h0':0<s.len:=by have:0<s.len-k:=h0;omega);have ha':fromA s.a s.cap k=some ad:=ha;unfold fromA at ha';split at ha'
   · exact h.home h0' ad ha'
   · cases hs:s.a with
     | none=>rw [hs] at ha';cases ha'
     | some x =>
      rw [hs] at ha';have:=h.home h0' x hs;simp only [Option.map_some,Option.some.injEq] at ha';rw [← ha'];unfold Addr.add;split <;> exact this
 intro e;show s.cap-k=0;have e':fromA s.a s.cap k=none:=e;unfold fromA at e';split at e'
 · omega
 · cases ha:s.a with
   | none=>have:=h.nil ha;omega
   | some x=>rw [ha] at e';simp at e'
def PtBlk (w:World) (p:Nat) (a:Int) (x:Value) (t:Bool) (o:Int):Prop:=w.heap[p]? = some (Obj.cells #[.int .i64 a,x,.bool t,.int .i64 o] 117 (0,0))
theorem PtBlk.keep (h:PtBlk w p a x t o)(hb:Below w.heap.size w w'):PtBlk w' p a x t o:=(hb.block p (Array.getElem?_eq_some_iff.1 h).1).trans h
theorem PtBlk.c0 (h:PtBlk w p a x t o):w.cell? ⟨p,0,none⟩=some (.int .i64 a):=by unfold PtBlk at h;simp [World.cell?,h]
theorem PtBlk.c1 (h:PtBlk w p a x t o):w.cell? ⟨p,1,none⟩=some x:=by unfold PtBlk at h;simp [World.cell?,h]
theorem PtBlk.c2 (h:PtBlk w p a x t o):w.cell? ⟨p,2,none⟩=some (.bool t):=by unfold PtBlk at h;simp [World.cell?,h]
theorem PtBlk.c3 (h:PtBlk w p a x t o):w.cell? ⟨p,3,none⟩=some (.int .i64 o):=by unfold PtBlk at h;simp [World.cell?,h]
theorem PtBlk.fz (h:PtBlk w p a x t o)(k:Nat):w.frozen? ⟨p,k,none⟩=false:=frozen_of_row w p _ _ 117 h
theorem ZaB (w:World)(a:Int)(x:Value)(t:Bool)(o:Int):PtBlk (w.alloc (.cells #[.int .i64 a,x,.bool t,.int .i64 o] 117)) w.heap.size a x t o:=heap_alloc_new w _
theorem ZkJ (d:Dk)(p s:Sl)(u:Pt)(q:Sl)(k:Nat)(w:World)(h:DkIn K w d p s)(ha:u.at_<0)(ht:u.trim=true)(hk:u.to-d.base=(k:Nat))(hl:k≤s.len)(ab:(Lit.int .i64 u.to).wf=true) :
    Calls Tryz.prog 73 #[d.val p s,u.val q] w fun e w'=>Below w.heap.size w w'∧∃p' s',e=.returned (Dk.val ⟨d.pg,u.to,d.st.drop k⟩ p' s')∧DkIn K w' ⟨d.pg,u.to,d.st.drop k⟩ p' s':=by
  obtain⟨pg,base,st⟩:=d;obtain⟨at_,b,trim,to⟩:=u;obtain⟨pa,pl,pc⟩:=p;obtain⟨sa,sl,sc⟩:=s;obtain⟨qa,ql,qc⟩:=q;simp only at h ha ht hk hl ab ⊢;subst ht;have aa:=h.st.big;simp only at aa;(have ad:IntKind.i64.wrap (to-base)=(k:Int):=by rw [hk,IntKind.wrap_i64];omega);have ac:=Zbc sa sl sc k hl;have H:=hide h;(have ha':¬(0:Int)≤at_:=by omega);clear h hk;have HB:Hid (DkBlk (((w.alloc (.cells #[.slice pa pl pc,.int .i64 to,.slice (fromA sa sc k) (sl-k) (sc-k)] 34)).alloc (.cells #[.int .i64 at_,.slice qa ql qc,.bool true,.int .i64 to] 117)).alloc (.cells #[.slice pa pl pc,.int .i64 to,.slice (fromA sa sc k) (sl-k) (sc-k)] 34)) (w.heap.size+1+1) (.slice pa pl pc) to (.slice (fromA sa sc k) (sl-k) (sc-k))):=by
   have:=Zbu ((w.alloc (.cells #[.slice pa pl pc,.int .i64 to,.slice (fromA sa sc k) (sl-k) (sc-k)] 34)).alloc (.cells #[.int .i64 at_,.slice qa ql qc,.bool true,.int .i64 to] 117)) (.slice pa pl pc) to (.slice (fromA sa sc k) (sl-k) (sc-k));exact hide (by simpa using this)
  have HW:=hide (Zaf (Za6 w (.cells #[.slice pa pl pc,.int .i64 to,.slice (fromA sa sc k) (sl-k) (sc-k)] 34) (.cells #[.int .i64 at_,.slice qa ql qc,.bool true,.int .i64 to] 117)) (Zaa _ (.cells #[.slice pa pl pc,.int .i64 to,.slice (fromA sa sc k) (sl-k) (sc-k)] 34)));unfold Dk.val Pt.val Sl.val;simp only;go_enter Tryz.func73,Tryz.ntmps73;go_wp2_with fail;refine bodyPost_ret (Zd0 (d:=⟨pg,to,st.drop k⟩) (p:=⟨pa,pl,pc⟩) (s:=Sl.from_ ⟨sa,sl,sc⟩ k) rfl HB.out _ rfl) rfl ?_;exact⟨HW.out,_,_,rfl,H.out.pg.keep HW.out (Nat.le_refl _),(H.out.st.from_ hl).keep HW.out (Nat.le_refl _)⟩
structure Sw where
  at_:Nat
  b:List Nat
structure Tm where
  ahead:Nat
  place:Nat
def Sw.cells (x:Sw):List Value:=.int .i64 ((x.at_:Nat):Int) :: vals x.b
def ZaS (l:List Sw):List Value:=l.flatMap Sw.cells
def Tm.cells (x:Tm):List Value:=[.int .i64 ((x.ahead:Nat):Int),.int .i64 ((x.place:Nat):Int)]
def Zbe (l:List Tm):List Value:=l.flatMap Tm.cells
structure Ds where
  sp:List Nat
  sb:Nat
  ss:List Nat
  kp:List Nat
  kb:Nat
  ks:List Nat
  wr:List Sw
  ap:List Nat
  tr:List Tm
  armed:Bool
  left:Int
  gone:Bool
structure Dl where
  sp:Sl
  ss:Sl
  kp:Sl
  ks:Sl
  wr:Sl
  ap:Sl
  tr:Sl
inductive Fld where | sp | ss | kp | ks | ap
def Ds.b (D:Ds):Fld→List Nat | .sp=>D.sp | .ss=>D.ss | .kp=>D.kp | .ks=>D.ks | .ap=>D.ap
def Dl.s (L:Dl):Fld→Sl | .sp=>L.sp | .ss=>L.ss | .kp=>L.kp | .ks=>L.ks | .ap=>L.ap
def Zbv (D:Ds) (L:Dl):Array Value:=#[L.sp.val,.int .i64 ((D.sb:Nat):Int),L.ss.val,L.kp.val,.int .i64 ((D.kb:Nat):Int),L.ks.val,L.wr.val,L.ap.val,L.tr.val,.bool D.armed,.int .i64 D.left,.bool D.gone]
structure DevM (w:World) (p:Nat) (D:Ds) (L:Dl):Prop where
  blk:w.heap[p]? = some (.cells (Zbv D L) 91 (0,0))
  own:∀f,Own 5 1 w (L.s f) (vals (D.b f))
  byt:∀f,Bytes (D.b f)
  apart:∀f g k,(L.s f).blk=some k→(L.s g).blk=some k→f=g
  wr:Own 150 129 w L.wr (ZaS D.wr)
  tr:Own 138 2 w L.tr (Zbe D.tr)
def Dl.F (L:Dl) (p:Nat) (k:Nat):Prop:=k=p∨(∃f,(L.s f).blk=some k)∨L.wr.blk=some k∨L.tr.blk=some k
theorem DevM.lt {D:Ds}{L:Dl}(h:DevM w p D L)(hk:L.F p k):k<w.heap.size:=by
 rcases hk with rfl | ⟨f,hf⟩ | hk | hk
 · exact(Array.getElem?_eq_some_iff.1 h.blk).1
 · exact(h.own f).lt hf
 · exact h.wr.lt hk
 · exact h.tr.lt hk
theorem DevM.frm {D:Ds}{L:Dl}{F:Nat→Prop}(h:DevM w p D L)(hf:Frm F w w')(hF:∀k,L.F p k→¬F k):DevM w' p D L:=by
 have hb:∀k,L.F p k→w'.heap[k]? = w.heap[k]?:=fun k hk=>hf.block k (h.lt hk) (hF k hk);exact⟨(hb p (.inl rfl)).trans h.blk,fun f=>(h.own f).frame fun k hk=>hb k (.inr (.inl ⟨f,hk⟩)),h.byt,h.apart,h.wr.frame fun k hk=>hb k (.inr (.inr (.inl hk))),h.tr.frame fun k hk=>hb k (.inr (.inr (.inr hk)))⟩
theorem DevM.keep {D:Ds}{L:Dl}(h:DevM w p D L)(hb:Below w.heap.size w w'):DevM w' p D L:=h.frm (F:=fun _=>False) (Frm.ofBelow hb) (fun _ _ e=>e)
theorem Addr.cell0 {i:Nat}{C:Array Value}{t:TypeId}(h:w.heap[p]? = some (.cells C t (0,0))):w.cell? ⟨p,i,none⟩=C[i]?:=by simp [World.cell?,h]
theorem DevM.c0 {D:Ds}{L:Dl}(h:DevM w p D L):w.cell? ⟨p,0,none⟩=some (.slice L.sp.a L.sp.len L.sp.cap):=(Addr.cell0 h.blk).trans rfl
theorem DevM.c1 {D:Ds}{L:Dl}(h:DevM w p D L):w.cell? ⟨p,1,none⟩=some (.int .i64 (D.sb:Int)):=(Addr.cell0 h.blk).trans rfl
theorem DevM.c2 {D:Ds}{L:Dl}(h:DevM w p D L):w.cell? ⟨p,2,none⟩=some (.slice L.ss.a L.ss.len L.ss.cap):=(Addr.cell0 h.blk).trans rfl
theorem DevM.c3 {D:Ds}{L:Dl}(h:DevM w p D L):w.cell? ⟨p,3,none⟩=some (.slice L.kp.a L.kp.len L.kp.cap):=(Addr.cell0 h.blk).trans rfl
theorem DevM.c4 {D:Ds}{L:Dl}(h:DevM w p D L):w.cell? ⟨p,4,none⟩=some (.int .i64 (D.kb:Int)):=(Addr.cell0 h.blk).trans rfl
theorem DevM.c5 {D:Ds}{L:Dl}(h:DevM w p D L):w.cell? ⟨p,5,none⟩=some (.slice L.ks.a L.ks.len L.ks.cap):=(Addr.cell0 h.blk).trans rfl
theorem DevM.c6 {D:Ds}{L:Dl}(h:DevM w p D L):w.cell? ⟨p,6,none⟩=some (.slice L.wr.a L.wr.len L.wr.cap):=(Addr.cell0 h.blk).trans rfl
theorem DevM.c7 {D:Ds}{L:Dl}(h:DevM w p D L):w.cell? ⟨p,7,none⟩=some (.slice L.ap.a L.ap.len L.ap.cap):=(Addr.cell0 h.blk).trans rfl
theorem DevM.c8 {D:Ds}{L:Dl}(h:DevM w p D L):w.cell? ⟨p,8,none⟩=some (.slice L.tr.a L.tr.len L.tr.cap):=(Addr.cell0 h.blk).trans rfl
theorem DevM.c9 {D:Ds}{L:Dl}(h:DevM w p D L):w.cell? ⟨p,9,none⟩=some (.bool D.armed):=(Addr.cell0 h.blk).trans rfl
theorem DevM.c10 {D:Ds}{L:Dl}(h:DevM w p D L):w.cell? ⟨p,10,none⟩=some (.int .i64 D.left):=(Addr.cell0 h.blk).trans rfl
theorem DevM.c11 {D:Ds}{L:Dl}(h:DevM w p D L):w.cell? ⟨p,11,none⟩=some (.bool D.gone):=(Addr.cell0 h.blk).trans rfl
theorem DevM.fz {D:Ds}{L:Dl}(h:DevM w p D L)(o:Nat):w.frozen? ⟨p,o,none⟩=false:=frozen_of_row w p _ _ 91 h.blk
theorem DevM.ne {D:Ds}{L:Dl}(h:DevM w p D L)(f:Fld):(L.s f).blk≠some p:=by
 intro e;obtain⟨cur,hc⟩:=(h.own f).kind e;rw [h.blk] at hc;simp only [Option.some.injEq,Obj.cells.injEq] at hc;exact absurd hc.2.1 (by decide)
theorem DevM.neW {D:Ds}{L:Dl}(h:DevM w p D L):L.wr.blk≠some p:=by
 intro e;obtain⟨cur,hc⟩:=h.wr.kind e;rw [h.blk] at hc;simp only [Option.some.injEq,Obj.cells.injEq] at hc;exact absurd hc.2.1 (by decide)
theorem DevM.neT {D:Ds}{L:Dl}(h:DevM w p D L):L.tr.blk≠some p:=by
 intro e;obtain⟨cur,hc⟩:=h.tr.kind e;rw [h.blk] at hc;simp only [Option.some.injEq,Obj.cells.injEq] at hc;exact absurd hc.2.1 (by decide)
theorem DevM.neWf {D:Ds}{L:Dl}(h:DevM w p D L)(f:Fld)(hk:L.wr.blk=some k):(L.s f).blk≠some k:=by
 intro e;obtain⟨cur,hc⟩:=h.wr.kind hk;obtain⟨cur',hc'⟩:=(h.own f).kind e;rw [hc] at hc';simp only [Option.some.injEq,Obj.cells.injEq] at hc';exact absurd hc'.2.1 (by decide)
theorem DevM.neTf {D:Ds}{L:Dl}(h:DevM w p D L)(f:Fld)(hk:L.tr.blk=some k):(L.s f).blk≠some k:=by
 intro e;obtain⟨cur,hc⟩:=h.tr.kind hk;obtain⟨cur',hc'⟩:=(h.own f).kind e;rw [hc] at hc';simp only [Option.some.injEq,Obj.cells.injEq] at hc';exact absurd hc'.2.1 (by decide)
theorem DevM.neTW {D:Ds}{L:Dl}(h:DevM w p D L)(hk:L.tr.blk=some k):L.wr.blk≠some k:=by
 intro e;obtain⟨cur,hc⟩:=h.tr.kind hk;obtain⟨cur',hc'⟩:=h.wr.kind e;rw [hc] at hc';simp only [Option.some.injEq,Obj.cells.injEq] at hc';exact absurd hc'.2.1 (by decide)
theorem DevM.turn {D:Ds}{L:Dl}(h:DevM w p D L)(D':Ds)(L':Dl)(i:Nat)(u:Value)(he:(Zbv D L).setIfInBounds i u=Zbv D' L')(hb:∀f,L'.s f=L.s f∧D'.b f=D.b f)(hw:L'.wr=L.wr∧D'.wr=D.wr)(ht:L'.tr=L.tr∧D'.tr=D.tr) :
    DevM (w.setCell ⟨p,i,none⟩ u) p D' L':=by
  have aa:=heap_setCell_same w p i _ 91 u h.blk;have ho:∀k,k≠p→(w.setCell ⟨p,i,none⟩ u).heap[k]? = w.heap[k]?:=fun k hk=>Below.heap_setCell w ⟨p,i,none⟩ u k hk;refine⟨by rw [aa,he],fun f=>?_,fun f=>?_,fun f g k=>?_,?_,?_⟩
  · rw [(hb f).1,(hb f).2];exact(h.own f).frame fun k hk=>ho k (fun e=>h.ne f (by rw [← e];exact hk))
  · rw [(hb f).2];exact h.byt f
  · rw [(hb f).1,(hb g).1];exact h.apart f g k
  · rw [hw.1,hw.2];exact h.wr.frame fun k hk=>ho k (fun e=>h.neW (by rw [← e];exact hk))
  · rw [ht.1,ht.2];exact h.tr.frame fun k hk=>ho k (fun e=>h.neT (by rw [← e];exact hk))
def at0 (p:Nat):Value:=.pointer (some ⟨p,0,none⟩)
theorem Zci (w:World)(p:Nat)(D:Ds)(L:Dl)(h:DevM w p D L)(n:Nat)(hn:D.sp.length=512*n)(aa:n≤64):Calls Tryz.prog 77 #[at0 p] w fun e w'=>e=.returned (.int .i64 (n:Nat))∧w'=w:=by
 (have hl:L.sp.len=512*n:=by have:=(h.own .sp).1;rw [Zao,Nat.mul_one] at this;rw [← hn];exact this.symm);have c0:=h.c0;rw [hl] at c0;have hd:IntKind.i64.wrap (Int.tdiv ((512*n:Nat):Int) 512)=(n:Int):=by
  rw [IntKind.wrap_i64];have:Int.tdiv ((512*n:Nat):Int) 512=(n:Int):=by
   rw [Int.tdiv_eq_ediv_of_nonneg (by omega)];omega
  omega
 clear h;unfold at0;go_enter Tryz.func77,Tryz.ntmps77;go_wp2_with fail;go_ret;exact⟨rfl,rfl⟩
theorem Zb7 (w:World)(p:Nat)(D:Ds)(L:Dl)(h:DevM w p D L)(n:Nat)(hn:D.sp.length=512*n)(aa:n≤64)(ab:1≤n):Calls Tryz.prog 70 #[at0 p] w fun e w'=>e=.returned (.bool true)∧w'=w:=by
 have HP:=hide (Zci w p D L h n hn aa);clear h hn;unfold at0 at *;have h0:decide (0<n)=true:=decide_eq_true (by omega);go_enter Tryz.func70,Tryz.ntmps70;go_wp2_with fail;refine HP.out.mono ?_;rintro e w' ⟨rfl,hw⟩;obtain rfl:=hw.symm;go_wp2_with fail;go_ret;exact⟨rfl,rfl⟩
theorem ZjI (w:World)(p:Nat)(D:Ds)(L:Dl)(h:DevM w p D L)(n:Nat)(hn:D.sp.length=512*n)(aa:n≤64)(k:Int):Calls Tryz.prog 78 #[at0 p,.int .i64 k] w fun e w'=>e=.returned (.bool (decide (0≤k∧k<(n:Nat))))∧w'=w:=by
 have HP:=hide (Zci w p D L h n hn aa);clear h hn;unfold at0 at *;by_cases h0:0≤k
 · by_cases h1:k<(n:Int)
   · have h2:decide (k<(n:Int))=true:=decide_eq_true h1;rw [decide_eq_true (show 0≤k∧k<(n:Int) from ⟨h0,h1⟩)];go_enter Tryz.func78,Tryz.ntmps78;go_wp2_with fail;refine HP.out.mono ?_;rintro e w' ⟨rfl,hw⟩;obtain rfl:=hw.symm;go_wp2_with fail;go_ret;exact⟨rfl,rfl⟩
   · have h2:decide (k<(n:Int))=false:=decide_eq_false h1;rw [decide_eq_false (show ¬(0≤k∧k<(n:Int)) from fun e=>h1 e.2)];go_enter Tryz.func78,Tryz.ntmps78;go_wp2_with fail;refine HP.out.mono ?_;rintro e w' ⟨rfl,hw⟩;obtain rfl:=hw.symm;go_wp2_with fail;go_ret;exact⟨rfl,rfl⟩
 · rw [decide_eq_false (show ¬(0≤k∧k<(n:Int)) from fun e=>h0 e.1)];go_enter Tryz.func78,Tryz.ntmps78;go_wp2_with fail;go_ret;exact⟨rfl,rfl⟩
def Ds.spent (D:Ds) (n:Nat):Nat:=if D.gone=true then 0 else if D.armed=false then n else if D.left<(n:Int) then D.left.toNat else n
def Ds.spend (D:Ds) (n:Nat):Ds:=if D.gone=true then D else if D.armed=false then D else if D.left<(n:Int) then { D with left:=0,gone:=true } else { D with left:=D.left-(n:Int) }
theorem DevM.setLeft {D:Ds}{L:Dl}(h:DevM w p D L)(x:Int):DevM (w.setCell ⟨p,10,none⟩ (.int .i64 x)) p { D with left:=x } L:=
 h.turn _ _ 10 _ (by rfl) (fun f=>by cases f <;> exact ⟨rfl,rfl⟩) ⟨rfl,rfl⟩ ⟨rfl,rfl⟩
theorem DevM.setGone {D:Ds}{L:Dl}(h:DevM w p D L)(x:Bool):DevM (w.setCell ⟨p,11,none⟩ (.bool x)) p { D with gone:=x } L:=
 h.turn _ _ 11 _ (by rfl) (fun f=>by cases f <;> exact ⟨rfl,rfl⟩) ⟨rfl,rfl⟩ ⟨rfl,rfl⟩
theorem DevM.setArmed {D:Ds}{L:Dl}(h:DevM w p D L)(x:Bool):DevM (w.setCell ⟨p,9,none⟩ (.bool x)) p { D with armed:=x } L:=
 h.turn _ _ 9 _ (by rfl) (fun f=>by cases f <;> exact ⟨rfl,rfl⟩) ⟨rfl,rfl⟩ ⟨rfl,rfl⟩
theorem Zds (w:World)(p:Nat)(D:Ds)(L:Dl)(h:DevM w p D L)(n:Nat)(hl:D.armed=true→0≤D.left∧D.left≤9223372036854775807)(hn:n≤1000000):Calls Tryz.prog 86 #[at0 p,.int .i64 (n:Nat)] w fun e w'=>e=.returned (.int .i64 ((D.spent n:Nat):Int))∧DevM w' p (D.spend n) L∧Frm (fun k=>k=p) w w'∧w'.heap.size=w.heap.size:=by
 have c9:=h.c9;have c10:=h.c10;have c11:=h.c11;have hf:=h.fz;have H:=hide h;clear h;unfold at0;cases hg:D.gone
 · cases ha:D.armed
   · (have e1:D.spent n=n:=by simp [Ds.spent,hg,ha]);(have e2:D.spend n=D:=by simp [Ds.spend,hg,ha]);rw [e1,e2];rw [hg] at c11;rw [ha] at c9;clear hl hg ha e1 e2;go_enter Tryz.func86,Tryz.ntmps86;go_wp2_with fail;go_ret;exact⟨rfl,H.out,Frm.refl _ _,rfl⟩
   · obtain⟨ab,ac⟩:=hl ha;rw [hg] at c11;rw [ha] at c9;by_cases hc:D.left<(n:Int)
     · (have e1:((D.spent n:Nat):Int)=D.left:=by simp [Ds.spent,hg,ha,hc];omega);(have e2:D.spend n = { D with left:=0,gone:=true }:=by simp [Ds.spend,hg,ha,hc]);rw [e1,e2];have H2:=hide ((H.out.setGone true).setLeft 0);have d10:=(H.out.setGone true).c10;have df:=(H.out.setGone true).fz;simp only at d10;clear hl hg ha e1 e2;(have aa:IntKind.i64.wrap (D.left-D.left)=0:=by rw [IntKind.wrap_i64];omega);go_enter Tryz.func86,Tryz.ntmps86;go_wp2_with fail;go_ret;exact⟨rfl,H2.out,(((Frm.refl (fun k=>k=p) _).setCell (p:=⟨p,11,none⟩) rfl _).setCell (p:=⟨p,10,none⟩) rfl _),by simp [World.setCell]⟩
     · (have e1:D.spent n=n:=by simp [Ds.spent,hg,ha,hc]);(have e2:D.spend n = { D with left:=D.left-(n:Int) }:=by simp [Ds.spend,hg,ha,hc]);rw [e1,e2];have H2:=hide (H.out.setLeft (D.left-(n:Int)));clear hl hg ha e1 e2;(have aa:IntKind.i64.wrap (D.left-(n:Int))=D.left-(n:Int):=by rw [IntKind.wrap_i64];omega);(have hc':D.left ≥ (n:Int):=by omega);go_enter Tryz.func86,Tryz.ntmps86;go_wp2_with fail;go_ret;exact⟨rfl,H2.out,((Frm.refl (fun k=>k=p) _).setCell (p:=⟨p,10,none⟩) rfl _),by simp [World.setCell]⟩
 · (have e1:D.spent n=0:=by simp [Ds.spent,hg]);(have e2:D.spend n=D:=by simp [Ds.spend,hg]);rw [e1,e2];rw [hg] at c11;clear hl hg e1 e2;go_enter Tryz.func86,Tryz.ntmps86;go_wp2_with fail;go_ret;exact⟨rfl,H.out,Frm.refl _ _,rfl⟩
def Ds.arm (D:Ds) (n:Int):Ds:=if D.gone=true then D else { D with armed:=decide (0≤n),left:=n }
theorem Zm8 (w:World)(p:Nat)(D:Ds)(L:Dl)(h:DevM w p D L)(n:Nat)(hn:D.sp.length=512*n)(ab:n≤64)(aa:1≤n)(k:Int):Calls Tryz.prog 24 #[at0 p,.int .i64 k] w fun e w'=>e=.returned (.tuple #[])∧DevM w' p (D.arm k) L∧Frm (fun k=>k=p) w w'∧w'.heap.size=w.heap.size:=by
 have HP:=hide (Zb7 w p D L h n hn ab aa);have c9:=h.c9;have c10:=h.c10;have c11:=h.c11;have hf:=h.fz;have H:=hide h;clear h hn;unfold at0 at *;cases hg:D.gone
 · (have e2:D.arm k = { D with armed:=decide (0≤k),left:=k }:=by simp [Ds.arm,hg]);rw [e2];rw [hg] at c11;have H2:=hide ((H.out.setArmed (decide (0≤k))).setLeft k);have d10:=(H.out.setArmed (decide (0≤k))).c10;have df:=(H.out.setArmed (decide (0≤k))).fz;simp only at d10;clear hg e2;go_enter Tryz.func24,Tryz.ntmps24;go_wp2_with fail;refine HP.out.mono ?_;rintro e w' ⟨rfl,hw⟩;obtain rfl:=hw.symm;go_wp2_with fail;go_end0;exact⟨rfl,H2.out,(((Frm.refl (fun k=>k=p) _).setCell (p:=⟨p,9,none⟩) rfl _).setCell (p:=⟨p,10,none⟩) rfl _),by simp [World.setCell]⟩
 · (have e2:D.arm k=D:=by simp [Ds.arm,hg]);rw [e2];rw [hg] at c11;clear hg e2;go_enter Tryz.func24,Tryz.ntmps24;go_wp2_with fail;refine HP.out.mono ?_;rintro e w' ⟨rfl,hw⟩;obtain rfl:=hw.symm;go_wp2_with fail;refine bodyPost_ret (results_none rfl _ _ _) rfl ?_;exact⟨rfl,H.out,Frm.refl _ _,rfl⟩
theorem Zdf (p:Nat)(w:World):(Instr.fieldAt 91 (.pointer (some ⟨p,0,none⟩)) 0).run Tryz.prog w=.ok (.pointer (some ⟨p,0,none⟩)) w:=by simp [go_sem,Instr.fieldAt]
theorem Zcq (p:Nat)(w:World):(Instr.fieldAt 91 (.pointer (some ⟨p,0,none⟩)) 1).run Tryz.prog w=.ok (.pointer (some ⟨p,3,none⟩)) w:=by simp [go_sem,Instr.fieldAt]
theorem ZdK (p:Nat)(w:World):(Instr.fieldAt 91 (.pointer (some ⟨p,0,none⟩)) 2).run Tryz.prog w=.ok (.pointer (some ⟨p,6,none⟩)) w:=by simp [go_sem,Instr.fieldAt]
theorem Zdg (p:Nat)(w:World):(Instr.fieldAt 91 (.pointer (some ⟨p,0,none⟩)) 3).run Tryz.prog w=.ok (.pointer (some ⟨p,7,none⟩)) w:=by simp [go_sem,Instr.fieldAt]
theorem ZcB (p:Nat)(w:World):(Instr.fieldAt 91 (.pointer (some ⟨p,0,none⟩)) 4).run Tryz.prog w=.ok (.pointer (some ⟨p,8,none⟩)) w:=by simp [go_sem,Instr.fieldAt]
theorem ZmI (p:Nat)(w:World):(Instr.fieldAt 87 (.pointer (some ⟨p,0,none⟩)) 0).run Tryz.prog w=.ok (.pointer (some ⟨p,0,none⟩)) w:=by simp [go_sem,Instr.fieldAt]
theorem Zf0 (p:Nat)(w:World):(Instr.fieldAt 87 (.pointer (some ⟨p,0,none⟩)) 1).run Tryz.prog w=.ok (.pointer (some ⟨p,1,none⟩)) w:=by simp [go_sem,Instr.fieldAt]
theorem Zee (p:Nat)(w:World):(Instr.fieldAt 87 (.pointer (some ⟨p,0,none⟩)) 2).run Tryz.prog w=.ok (.pointer (some ⟨p,2,none⟩)) w:=by simp [go_sem,Instr.fieldAt]
theorem Zj0 (p:Nat)(w:World):(Instr.fieldAt 87 (.pointer (some ⟨p,3,none⟩)) 0).run Tryz.prog w=.ok (.pointer (some ⟨p,3,none⟩)) w:=by simp [go_sem,Instr.fieldAt]
theorem Zj1 (p:Nat)(w:World):(Instr.fieldAt 87 (.pointer (some ⟨p,3,none⟩)) 1).run Tryz.prog w=.ok (.pointer (some ⟨p,4,none⟩)) w:=by simp [go_sem,Instr.fieldAt]
theorem Zef (p:Nat)(w:World):(Instr.fieldAt 87 (.pointer (some ⟨p,3,none⟩)) 2).run Tryz.prog w=.ok (.pointer (some ⟨p,5,none⟩)) w:=by simp [go_sem,Instr.fieldAt]
theorem ZmN (p:Nat)(w:World):(Instr.fieldAt 150 (.pointer (some ⟨p,0,none⟩)) 0).run Tryz.prog w=.ok (.pointer (some ⟨p,0,none⟩)) w:=by simp [go_sem,Instr.fieldAt]
theorem Zj6 (p:Nat)(w:World):(Instr.fieldAt 150 (.pointer (some ⟨p,0,none⟩)) 1).run Tryz.prog w=.ok (.pointer (some ⟨p,1,none⟩)) w:=by simp [go_sem,Instr.fieldAt]
theorem ldInt (b o:Nat)(x:Int)(w:World)(h:w.cell? ⟨b,o,none⟩=some (.int .i64 x)):(Instr.loadAt 3 (.pointer (some ⟨b,o,none⟩))).run Tryz.prog w=.ok (.int .i64 x) w:=by simp [go_sem,h]
theorem ldBs (b o:Nat)(a:Option Addr)(l c:Nat)(w:World)(h:w.cell? ⟨b,o,none⟩=some (.slice a l c)):(Instr.loadAt 32 (.pointer (some ⟨b,o,none⟩))).run Tryz.prog w=.ok (.slice a l c) w:=by simp [go_sem,h]
theorem ldWs (b o:Nat)(a:Option Addr)(l c:Nat)(w:World)(h:w.cell? ⟨b,o,none⟩=some (.slice a l c)):(Instr.loadAt 88 (.pointer (some ⟨b,o,none⟩))).run Tryz.prog w=.ok (.slice a l c) w:=by simp [go_sem,h]
theorem ldTs (b o:Nat)(a:Option Addr)(l c:Nat)(w:World)(h:w.cell? ⟨b,o,none⟩=some (.slice a l c)):(Instr.loadAt 89 (.pointer (some ⟨b,o,none⟩))).run Tryz.prog w=.ok (.slice a l c) w:=by simp [go_sem,h]
theorem Zpt (b o:Nat)(v u:Value)(hv:∃x,v=.int .i64 x)(w:World)(h:w.cell? ⟨b,o,none⟩=some u)(hf:w.frozen? ⟨b,o,none⟩=false):(Instr.storeAt 3 (.pointer (some ⟨b,o,none⟩)) v).run Tryz.prog w=.ok () (w.setCell ⟨b,o,none⟩ v):=by
 obtain⟨x,rfl⟩:=hv;simp [go_sem,Instr.storeAt,h,hf]
theorem stBs (b o:Nat)(s:Sl)(u:Value)(w:World)(h:w.cell? ⟨b,o,none⟩=some u)(hf:w.frozen? ⟨b,o,none⟩=false):(Instr.storeAt 32 (.pointer (some ⟨b,o,none⟩)) s.val).run Tryz.prog w=.ok () (w.setCell ⟨b,o,none⟩ s.val):=by
 unfold Sl.val;simp [go_sem,Instr.storeAt,h,hf]
theorem stWs (b o:Nat)(s:Sl)(u:Value)(w:World)(h:w.cell? ⟨b,o,none⟩=some u)(hf:w.frozen? ⟨b,o,none⟩=false):(Instr.storeAt 88 (.pointer (some ⟨b,o,none⟩)) s.val).run Tryz.prog w=.ok () (w.setCell ⟨b,o,none⟩ s.val):=by
 unfold Sl.val;simp [go_sem,Instr.storeAt,h,hf]
theorem stTs (b o:Nat)(s:Sl)(u:Value)(w:World)(h:w.cell? ⟨b,o,none⟩=some u)(hf:w.frozen? ⟨b,o,none⟩=false):(Instr.storeAt 89 (.pointer (some ⟨b,o,none⟩)) s.val).run Tryz.prog w=.ok () (w.setCell ⟨b,o,none⟩ s.val):=by
 unfold Sl.val;simp [go_sem,Instr.storeAt,h,hf]
theorem DevM.drew {D:Ds}{L:Dl}(h:DevM w p D L):DevM w.drew p D L:=h.frm (F:=fun _=>False) (Frm.refl _ _).drew (fun _ _ e=>e)
theorem ZoK (w:World)(p:Nat)(D:Ds)(L:Dl)(h:DevM w p D L)(hu:IntKind.i64.wrap ((L.ap.len:Int)+(L.tr.len:Int))=(L.ap.len:Int)+(L.tr.len:Int))
    {Q:Exit→Act→World→Prop}(ab:A.tmps.size=14)(aa:A.defers=[])(s0:A.tmps.getD 0 undef=.pointer (some ⟨p,0,none⟩))
    (hend:∀(u:Nat→Value) w',w'=w.drew→Q .normal (((((((((((((A).put (some 3) (u 3)).put (some 4) (u 4)).put (some 5) (u 5)).put (some 6) (u 6)).put (some 7) (u 7)).put (some 8) (u 8)).put (some 9) (u 9)).put (some 10) (u 10)).put (some 11) (u 11)).put (some 12) (u 12)).put (some 13) (u 13)).put (some 2) (.int .i64 ((L.ap.len+L.tr.len:Nat):Int))) w') :
    (Code.region 1 (Pl.find 1 ((Tryz.f76.body).getD .skip)) true).wp Tryz.prog Q A w:=by
  have hA:=Pl.At.same (v:=.pointer (some ⟨p,0,none⟩)) (d:=0) (Pl.At.here ab aa) s0;refine Pl.qa (S:=fun w'=>DevM w' p D L) hA h.drew ?_;rw [show (Pl.find 1 ((Tryz.f76.body).getD .skip)).size=12 by kernel_rfl];refine Pl.q1 0 3 (.pointer (some ⟨p,0,none⟩)) (Pl.q0) (Pl.q2 (.tmp 0)) h.drew ?_;refine Pl.q1 1 4 (.pointer (some ⟨p,0,none⟩)) (Pl.q0) (Pl.qg (.tmp 3)) h.drew ?_;refine Pl.q1 2 5 (.pointer (some ⟨p,7,none⟩)) (Pl.q0) (Pl.q4 91 (.tmp 4) 3 (Zdg p)) h.drew ?_;refine Pl.q1 3 6 (.slice L.ap.a L.ap.len L.ap.cap) (Pl.q0) (Pl.q6 32 (.tmp 5) (fun w' hS=>ldBs p 7 _ _ _ w' hS.c7)) h.drew ?_;refine Pl.q1 4 7 (.int .i64 (L.ap.len:Int)) (Pl.q0) (Pl.qx 32 (.tmp 6) (fun _ _=>rfl)) h.drew ?_;refine Pl.q1 5 8 (.pointer (some ⟨p,0,none⟩)) (Pl.q0) (Pl.q2 (.tmp 0)) h.drew ?_;refine Pl.q1 6 9 (.pointer (some ⟨p,0,none⟩)) (Pl.q0) (Pl.qg (.tmp 8)) h.drew ?_;refine Pl.q1 7 10 (.pointer (some ⟨p,8,none⟩)) (Pl.q0) (Pl.q4 91 (.tmp 9) 4 (ZcB p)) h.drew ?_;refine Pl.q1 8 11 (.slice L.tr.a L.tr.len L.tr.cap) (Pl.q0) (Pl.q6 89 (.tmp 10) (fun w' hS=>ldTs p 8 _ _ _ w' hS.c8)) h.drew ?_;refine Pl.q1 9 12 (.int .i64 (L.tr.len:Int)) (Pl.q0) (Pl.qx 89 (.tmp 11) (fun _ _=>rfl)) h.drew ?_;refine Pl.q1 10 13 (.int .i64 ((L.ap.len+L.tr.len:Nat):Int)) (Pl.q0) (Pl.q9 .add 3 3 (.tmp 7) (.tmp 12) (.int .i64 (L.ap.len:Int)) (.int .i64 (L.tr.len:Int)) (fun w=>by simp [go_sem,eqGuard,hu])) h.drew ?_;refine Pl.q1 11 2 (.int .i64 ((L.ap.len+L.tr.len:Nat):Int)) (Pl.q0) (Pl.qm (.tmp 13)) h.drew ?_;refine Pl.q7 (fun A' hA'=>?_);rw [Pl.At.ext hA' ((((((((((((hA.put 3 _).put 4 _).put 5 _).put 6 _).put 7 _).put 8 _).put 9 _).put 10 _).put 11 _).put 12 _).put 13 _).put 2 _)];exact hend hA'.fn _ rfl
theorem end1 (w:World)(p:Nat)(D:Ds)(L:Dl)(h:DevM w p D L)(hu:IntKind.i64.wrap ((D.sb:Int)+(L.ss.len:Int))=(D.sb:Int)+(L.ss.len:Int))
    {Q:Exit→Act→World→Prop}(ab:A.tmps.size=13)(aa:A.defers=[])(s0:A.tmps.getD 0 undef=.pointer (some ⟨p,0,none⟩))
    (hend:∀(u:Nat→Value) w',w'=w.drew→Q .normal ((((((((((((A).put (some 3) (u 3)).put (some 4) (u 4)).put (some 5) (u 5)).put (some 6) (u 6)).put (some 7) (u 7)).put (some 8) (u 8)).put (some 9) (u 9)).put (some 10) (u 10)).put (some 11) (u 11)).put (some 12) (u 12)).put (some 2) (.int .i64 ((D.sb+L.ss.len:Nat):Int))) w') :
    (Code.region 1 (Pl.find 1 ((Tryz.f91.body).getD .skip)) true).wp Tryz.prog Q A w:=by
  have hA:=Pl.At.same (v:=.pointer (some ⟨p,0,none⟩)) (d:=0) (Pl.At.here ab aa) s0;refine Pl.qa (S:=fun w'=>DevM w' p D L) hA h.drew ?_;rw [show (Pl.find 1 ((Tryz.f91.body).getD .skip)).size=11 by kernel_rfl];refine Pl.q1 0 3 (.pointer (some ⟨p,0,none⟩)) (Pl.q0) (Pl.q2 (.tmp 0)) h.drew ?_;refine Pl.q1 1 4 (.pointer (some ⟨p,0,none⟩)) (Pl.q0) (Pl.qg (.tmp 3)) h.drew ?_;refine Pl.q1 2 5 (.pointer (some ⟨p,1,none⟩)) (Pl.q0) (Pl.q4 87 (.tmp 4) 1 (Zf0 p)) h.drew ?_;refine Pl.q1 3 6 (.int .i64 (D.sb:Int)) (Pl.q0) (Pl.q6 3 (.tmp 5) (fun w' hS=>ldInt p 1 _ w' hS.c1)) h.drew ?_;refine Pl.q1 4 7 (.pointer (some ⟨p,0,none⟩)) (Pl.q0) (Pl.q2 (.tmp 0)) h.drew ?_;refine Pl.q1 5 8 (.pointer (some ⟨p,0,none⟩)) (Pl.q0) (Pl.qg (.tmp 7)) h.drew ?_;refine Pl.q1 6 9 (.pointer (some ⟨p,2,none⟩)) (Pl.q0) (Pl.q4 87 (.tmp 8) 2 (Zee p)) h.drew ?_;refine Pl.q1 7 10 (.slice L.ss.a L.ss.len L.ss.cap) (Pl.q0) (Pl.q6 32 (.tmp 9) (fun w' hS=>ldBs p 2 _ _ _ w' hS.c2)) h.drew ?_;refine Pl.q1 8 11 (.int .i64 (L.ss.len:Int)) (Pl.q0) (Pl.qx 32 (.tmp 10) (fun _ _=>rfl)) h.drew ?_;refine Pl.q1 9 12 (.int .i64 ((D.sb+L.ss.len:Nat):Int)) (Pl.q0) (Pl.q9 .add 3 3 (.tmp 6) (.tmp 11) (.int .i64 (D.sb:Int)) (.int .i64 (L.ss.len:Int)) (fun w=>by simp [go_sem,eqGuard,hu])) h.drew ?_;refine Pl.q1 10 2 (.int .i64 ((D.sb+L.ss.len:Nat):Int)) (Pl.q0) (Pl.qm (.tmp 12)) h.drew ?_;refine Pl.q7 (fun A' hA'=>?_);rw [Pl.At.ext hA' (((((((((((hA.put 3 _).put 4 _).put 5 _).put 6 _).put 7 _).put 8 _).put 9 _).put 10 _).put 11 _).put 12 _).put 2 _)];exact hend hA'.fn _ rfl
structure Zaj (w:World) (p:Nat) (L:Dl) (w':World) (D':Ds) (L':Dl):Prop where
  dev:DevM w' p D' L'
  frm:Frm (L.F p) w w'
  foot:∀k,L'.F p k→L.F p k∨w.heap.size≤k
theorem Zaj.same {D:Ds}{L:Dl}(h:DevM w p D L)(hb:Below w.heap.size w w'):Zaj w p L w' D L:=⟨h.keep hb,Frm.ofBelow hb,fun _ hk=>.inl hk⟩
theorem Zaj.trans {w2:World}{D1 D2:Ds}{L L1 L2:Dl}(h:Zaj w p L w1 D1 L1)(k:Zaj w1 p L1 w2 D2 L2):Zaj w p L w2 D2 L2:=by
 refine⟨k.dev,h.frm.trans k.frm (fun i hi hf=>?_),fun i hi=>?_⟩
 · rcases h.foot i hf with h1 | h1
   · exact h1
   · omega
 · rcases k.foot i hi with h1 | h1
   · exact h.foot i h1
   · exact .inr (Nat.le_trans h.frm.size h1)
theorem Zaj.cell {D':Ds}{L:Dl}(hd:DevM w' p D' L)(hf:Frm (fun k=>k=p) w w'):Zaj w p L w' D' L:=⟨hd,hf.mono (fun _ _ e=>.inl e),fun _ hk=>.inl hk⟩
theorem DevM.swap {D:Ds}{L:Dl}(h:DevM w p D L)(f0:Fld)(s':Sl)(xs:List Nat)(hf:Frm (fun k=>(L.s f0).blk=some k) w w1)(ho:Own 5 1 w1 s' (vals xs))(hx:Bytes xs)
    (hb:∀k,s'.blk=some k→(L.s f0).blk=some k∨w.heap.size≤k)(i:Nat)(D':Ds)(L':Dl)(he:(Zbv D L).setIfInBounds i s'.val=Zbv D' L')(h0:L'.s f0=s'∧D'.b f0=xs)
    (hL:∀f,f≠f0→L'.s f=L.s f∧D'.b f=D.b f)(hw:L'.wr=L.wr∧D'.wr=D.wr)(ht:L'.tr=L.tr∧D'.tr=D.tr):Zaj w p L (w1.setCell ⟨p,i,none⟩ s'.val) D' L':=by
  have af:w1.heap[p]? = some (.cells (Zbv D L) 91 (0,0)):=(hf.block p (h.lt (.inl rfl)) (h.ne f0)).trans h.blk;have ad:=heap_setCell_same w1 p i _ 91 s'.val af;have ac:∀k,k≠p→(w1.setCell ⟨p,i,none⟩ s'.val).heap[k]? = w1.heap[k]?:=fun k hk=>Below.heap_setCell w1 ⟨p,i,none⟩ _ k hk;have ae:∀k,L.F p k→k≠p→(L.s f0).blk≠some k→(w1.setCell ⟨p,i,none⟩ s'.val).heap[k]? = w.heap[k]?:=fun k hk h1 h2=>(ac k h1).trans (hf.block k (h.lt hk) h2);have ag:∀k,s'.blk=some k→k≠p:=by
   intro k hk e;rcases hb k hk with h1 | h1
   · exact h.ne f0 (by rw [← e];exact h1)
   · have:=h.lt (L:=L) (k:=p) (.inl rfl);omega
  refine⟨⟨by rw [ad,he],fun f=>?_,fun f=>?_,fun f g k aa ab=>?_,?_,?_⟩,(hf.mono (fun k _ e=>.inr (.inl ⟨f0,e⟩))).setCell (p:=⟨p,i,none⟩) (.inl rfl) _,?_⟩
  · by_cases e:f=f0
    · subst e;rw [h0.1,h0.2];exact ho.frame fun k hk=>ac k (ag k hk)
    · rw [(hL f e).1,(hL f e).2];refine(h.own f).frame fun k hk=>ae k (.inr (.inl ⟨f,hk⟩)) (fun e'=>h.ne f (by rw [← e'];exact hk)) (fun e'=>e (h.apart f f0 k hk e'))
  · by_cases e:f=f0
    · subst e;rw [h0.2];exact hx
    · rw [(hL f e).2];exact h.byt f
  · by_cases e:f=f0
    · by_cases e2:g=f0
      · rw [e,e2]
      · rw [e,h0.1] at aa;rw [(hL g e2).1] at ab;rcases hb k aa with h1 | h1
        · rw [e];exact h.apart f0 g k h1 ab
        · have:=(h.own g).lt ab;omega
    · by_cases e2:g=f0
      · rw [e2,h0.1] at ab;rw [(hL f e).1] at aa;rcases hb k ab with h1 | h1
        · rw [e2];exact h.apart f f0 k aa h1
        · have:=(h.own f).lt aa;omega
      · rw [(hL f e).1] at aa;rw [(hL g e2).1] at ab;exact h.apart f g k aa ab
  · rw [hw.1,hw.2];exact h.wr.frame fun k hk=>ae k (.inr (.inr (.inl hk))) (fun e=>h.neW (by rw [← e];exact hk)) (h.neWf f0 hk)
  · rw [ht.1,ht.2];exact h.tr.frame fun k hk=>ae k (.inr (.inr (.inr hk))) (fun e=>h.neT (by rw [← e];exact hk)) (h.neTf f0 hk)
  · intro k hk;rcases hk with h1 | ⟨f,h1⟩ | h1 | h1
    · exact .inl (.inl h1)
    · by_cases e:f=f0
      · rw [e,h0.1] at h1;rcases hb k h1 with h2 | h2
        · exact .inl (.inr (.inl ⟨f0,h2⟩))
        · exact .inr h2
      · rw [(hL f e).1] at h1;exact .inl (.inr (.inl ⟨f,h1⟩))
    · rw [hw.1] at h1;exact .inl (.inr (.inr (.inl h1)))
    · rw [ht.1] at h1;exact .inl (.inr (.inr (.inr h1)))
theorem DevM.over {D:Ds}{L:Dl}(h:DevM w p D L)(f0:Fld)(xs:List Nat)(hf:Frm (fun k=>(L.s f0).blk=some k) w w1)(ho:Own 5 1 w1 (L.s f0) (vals xs))(hx:Bytes xs)
    (D':Ds)(he:Zbv D L=Zbv D' L)(h0:D'.b f0=xs)(hL:∀f,f≠f0→D'.b f=D.b f)(hw:D'.wr=D.wr)(ht:D'.tr=D.tr):Zaj w p L w1 D' L:=by
  have aa:∀k,L.F p k→(L.s f0).blk≠some k→w1.heap[k]? = w.heap[k]?:=fun k hk h2=>hf.block k (h.lt hk) h2;refine⟨⟨by rw [← he];exact (aa p (.inl rfl) (h.ne f0)).trans h.blk,fun f=>?_,fun f=>?_,h.apart,?_,?_⟩,hf.mono (fun k _ e=>.inr (.inl ⟨f0,e⟩)),fun k hk=>.inl hk⟩
  · by_cases e:f=f0
    · subst e;rw [h0];exact ho
    · rw [hL f e];exact(h.own f).frame fun k hk=>aa k (.inr (.inl ⟨f,hk⟩)) (fun e'=>e (h.apart f f0 k hk e'))
  · by_cases e:f=f0
    · subst e;rw [h0];exact hx
    · rw [hL f e];exact h.byt f
  · rw [hw];exact h.wr.frame fun k hk=>aa k (.inr (.inr (.inl hk))) (h.neWf f0 hk)
  · rw [ht];exact h.tr.frame fun k hk=>aa k (.inr (.inr (.inr hk))) (h.neTf f0 hk)
theorem DevM.swapW {D:Ds}{L:Dl}(h:DevM w p D L)(s':Sl)(xs:List Sw)(hf:Frm (fun k=>L.wr.blk=some k) w w1)(ho:Own 150 129 w1 s' (ZaS xs))
    (hb:∀k,s'.blk=some k→L.wr.blk=some k∨w.heap.size≤k):Zaj w p L (w1.setCell ⟨p,6,none⟩ s'.val) { D with wr:=xs } { L with wr:=s' }:=by
  have ad:w1.heap[p]? = some (.cells (Zbv D L) 91 (0,0)):=(hf.block p (h.lt (.inl rfl)) h.neW).trans h.blk;have ab:=heap_setCell_same w1 p 6 _ 91 s'.val ad;have aa:∀k,k≠p→(w1.setCell ⟨p,6,none⟩ s'.val).heap[k]? = w1.heap[k]?:=fun k hk=>Below.heap_setCell w1 ⟨p,6,none⟩ _ k hk;have ac:∀k,L.F p k→k≠p→L.wr.blk≠some k→(w1.setCell ⟨p,6,none⟩ s'.val).heap[k]? = w.heap[k]?:=fun k hk h1 h2=>(aa k h1).trans (hf.block k (h.lt hk) h2);have ae:∀k,s'.blk=some k→k≠p:=by
   intro k hk e;rcases hb k hk with h1 | h1
   · exact h.neW (by rw [← e];exact h1)
   · have:=h.lt (L:=L) (k:=p) (.inl rfl);omega
  refine⟨⟨by rw [ab];rfl,fun f=>?_,fun f=>by cases f <;> first | exact h.byt .sp | exact h.byt .ss | exact h.byt .kp | exact h.byt .ks | exact h.byt .ap,?_,ho.frame fun k hk=>aa k (ae k hk),?_⟩,(hf.mono (fun k _ e=>.inr (.inr (.inl e)))).setCell (p:=⟨p,6,none⟩) (.inl rfl) _,?_⟩
  · (have hs:Dl.s { L with wr:=s' } f=L.s f:=by cases f <;> rfl);(have hd:Ds.b { D with wr:=xs } f=D.b f:=by cases f <;> rfl);rw [hs,hd];exact(h.own f).frame fun k hk=>ac k (.inr (.inl ⟨f,hk⟩)) (fun e'=>h.ne f (by rw [← e'];exact hk)) (fun e=>h.neWf f e hk)
  · intro f g k h1 h2;(have e1:Dl.s { L with wr:=s' } f=L.s f:=by cases f <;> rfl);(have e2:Dl.s { L with wr:=s' } g=L.s g:=by cases g <;> rfl);rw [e1] at h1;rw [e2] at h2;exact h.apart f g k h1 h2
  · exact h.tr.frame fun k hk=>ac k (.inr (.inr (.inr hk))) (fun e=>h.neT (by rw [← e];exact hk)) (h.neTW hk)
  · intro k hk;rcases hk with h1 | ⟨f,h1⟩ | h1 | h1
    · exact .inl (.inl h1)
    · (have e1:Dl.s { L with wr:=s' } f=L.s f:=by cases f <;> rfl);rw [e1] at h1;exact .inl (.inr (.inl ⟨f,h1⟩))
    · rcases hb k h1 with h2 | h2
      · exact .inl (.inr (.inr (.inl h2)))
      · exact .inr h2
    · exact .inl (.inr (.inr (.inr h1)))
theorem DevM.swapT {D:Ds}{L:Dl}(h:DevM w p D L)(s':Sl)(xs:List Tm)(hf:Frm (fun k=>L.tr.blk=some k) w w1)(ho:Own 138 2 w1 s' (Zbe xs))
    (hb:∀k,s'.blk=some k→L.tr.blk=some k∨w.heap.size≤k):Zaj w p L (w1.setCell ⟨p,8,none⟩ s'.val) { D with tr:=xs } { L with tr:=s' }:=by
  have ad:w1.heap[p]? = some (.cells (Zbv D L) 91 (0,0)):=(hf.block p (h.lt (.inl rfl)) h.neT).trans h.blk;have ab:=heap_setCell_same w1 p 8 _ 91 s'.val ad;have aa:∀k,k≠p→(w1.setCell ⟨p,8,none⟩ s'.val).heap[k]? = w1.heap[k]?:=fun k hk=>Below.heap_setCell w1 ⟨p,8,none⟩ _ k hk;have ac:∀k,L.F p k→k≠p→L.tr.blk≠some k→(w1.setCell ⟨p,8,none⟩ s'.val).heap[k]? = w.heap[k]?:=fun k hk h1 h2=>(aa k h1).trans (hf.block k (h.lt hk) h2);have ae:∀k,s'.blk=some k→k≠p:=by
   intro k hk e;rcases hb k hk with h1 | h1
   · exact h.neT (by rw [← e];exact h1)
   · have:=h.lt (L:=L) (k:=p) (.inl rfl);omega
  refine⟨⟨by rw [ab];rfl,fun f=>?_,fun f=>by cases f <;> first | exact h.byt .sp | exact h.byt .ss | exact h.byt .kp | exact h.byt .ks | exact h.byt .ap,?_,?_,ho.frame fun k hk=>aa k (ae k hk)⟩,(hf.mono (fun k _ e=>.inr (.inr (.inr e)))).setCell (p:=⟨p,8,none⟩) (.inl rfl) _,?_⟩
  · (have hs:Dl.s { L with tr:=s' } f=L.s f:=by cases f <;> rfl);(have hd:Ds.b { D with tr:=xs } f=D.b f:=by cases f <;> rfl);rw [hs,hd];exact(h.own f).frame fun k hk=>ac k (.inr (.inl ⟨f,hk⟩)) (fun e'=>h.ne f (by rw [← e'];exact hk)) (fun e=>h.neTf f e hk)
  · intro f g k h1 h2;(have e1:Dl.s { L with tr:=s' } f=L.s f:=by cases f <;> rfl);(have e2:Dl.s { L with tr:=s' } g=L.s g:=by cases g <;> rfl);rw [e1] at h1;rw [e2] at h2;exact h.apart f g k h1 h2
  · exact h.wr.frame fun k hk=>ac k (.inr (.inr (.inl hk))) (fun e=>h.neW (by rw [← e];exact hk)) (fun e=>h.neTW e hk)
  · intro k hk;rcases hk with h1 | ⟨f,h1⟩ | h1 | h1
    · exact .inl (.inl h1)
    · (have e1:Dl.s { L with tr:=s' } f=L.s f:=by cases f <;> rfl);rw [e1] at h1;exact .inl (.inr (.inl ⟨f,h1⟩))
    · exact .inl (.inr (.inr (.inl h1)))
    · rcases hb k h1 with h2 | h2
      · exact .inl (.inr (.inr (.inr h2)))
      · exact .inr h2
theorem DevM.len {D:Ds}{L:Dl}(h:DevM w p D L)(f:Fld):(D.b f).length=(L.s f).len:=by have:=(h.own f).1;rw [Zao,Nat.mul_one] at this;exact this
theorem ZcN:∀l,(Zbe l).length=l.length*2
 | []=>rfl
 | x :: r=>by
  have:=ZcN r
  simp only [Zbe,List.flatMap_cons,List.length_append,List.length_cons,Tm.cells,List.length_nil] at *
  omega
theorem DevM.lenT {D:Ds}{L:Dl}(h:DevM w p D L):D.tr.length=L.tr.len:=by have:=h.tr.1;rw [ZcN] at this;omega
def Ds.units (D:Ds):Nat:=D.ap.length+D.tr.length
theorem Zc8 (w:World)(p:Nat)(D:Ds)(L:Dl)(h:DevM w p D L)(hu:D.units≤1000000000):Calls Tryz.prog 76 #[at0 p] w fun e w'=>e=.returned (.int .i64 (D.units:Int))∧Below w.heap.size w w':=by
 have e1:D.units=L.ap.len+L.tr.len:=by
  have:=h.len .ap;have h2:=h.lenT;show D.ap.length+D.tr.length=_;rw [h2];congr 1
 rw [e1] at hu ⊢;have HR:Hid (∀{Q:Exit→Act→World→Prop} {A:Act},_):=fun {Q A}=>ZoK w p D L h (by rw [IntKind.wrap_i64];omega) (Q:=Q) (A:=A);have HW:=hide ((Below.refl w.heap.size w).drew);clear h e1 hu;unfold at0;go_enter Tryz.func76,Tryz.ntmps76;go_wp2_with fail;refine Pl.q8 (ops:=Pl.find 1 ((Tryz.f76.body).getD .skip)) ?_;refine HR.out (by rfl) rfl (by rfl) ?_;rintro u w' rfl;simp only [Act.put,List.setIfInBounds_toArray,List.set_cons_zero,List.set_cons_succ];go_wp2_with fail;go_ret;exact⟨rfl,HW.out⟩
theorem ZmD (w:World)(p:Nat)(D:Ds)(L:Dl)(h:DevM w p D L)(hu:D.sb+D.ss.length≤1000000000000):Calls Tryz.prog 91 #[at0 p] w fun e w'=>e=.returned (.int .i64 ((D.sb+D.ss.length:Nat):Int))∧Below w.heap.size w w':=by
 have e1:D.ss.length=L.ss.len:=h.len .ss;rw [e1] at hu ⊢;have HR:Hid (∀{Q:Exit→Act→World→Prop} {A:Act},_):=fun {Q A}=>end1 w p D L h (by rw [IntKind.wrap_i64];omega) (Q:=Q) (A:=A);have HW:=hide ((Below.refl w.heap.size w).drew);clear h e1 hu;unfold at0;go_enter Tryz.func91,Tryz.ntmps91;go_wp2_with fail;refine Pl.q8 (ops:=Pl.find 1 ((Tryz.f91.body).getD .skip)) ?_;refine HR.out (by rfl) rfl (by rfl) ?_;rintro u w' rfl;simp only [Act.put,List.setIfInBounds_toArray,List.set_cons_zero,List.set_cons_succ];go_wp2_with fail;go_ret;exact⟨rfl,HW.out⟩
theorem ZoI (w:World)(p:Nat)(D:Ds)(L:Dl)(h:DevM w p D L)(pl:Int)(k:Nat)(hk:IntKind.i64.wrap (pl-(D.sb:Int))=(k:Nat))(hl:k≤L.ss.len)
    {Q:Exit→Act→World→Prop}(ad:A.tmps.size=22)(ac:A.defers=[])(s0:A.tmps.getD 0 undef=.pointer (some ⟨p,0,none⟩))(s1:A.tmps.getD 1 undef=.int .i64 pl)
    (hend:∀(u:Nat→Value) w',w'=w.drew.setCell ⟨p,2,none⟩ (L.ss.from_ k).val→Q .normal (((((((((((((((A).put (some 4) (u 4)).put (some 5) (u 5)).put (some 6) (u 6)).put (some 7) (u 7)).put (some 9) (u 9)).put (some 10) (u 10)).put (some 11) (u 11)).put (some 12) (u 12)).put (some 13) (u 13)).put (some 14) (u 14)).put (some 8) (u 8)).put (some 15) (u 15)).put (some 16) (u 16)).put (some 17) (u 17)) w') :
    (Code.region 0 (Pl.find 0 ((Tryz.f92.body).getD .skip)) true).wp Tryz.prog Q A w:=by
  have aa:=(show (fun w'=>w'.cell? ⟨p,1,none⟩=some (.int .i64 (D.sb:Int))) w.drew from h.drew.c1);have ab:(fun w':World=>w'.cell? ⟨p,1,none⟩=some (.int .i64 (D.sb:Int))) (w.drew.setCell ⟨p,2,none⟩ (L.ss.from_ k).val):=by
   have hb:=heap_setCell_same w.drew p 2 _ 91 (L.ss.from_ k).val h.drew.blk;show World.cell? _ _=_;rw [Addr.cell0 hb];rfl
  have hA:=Pl.At.same (v:=.int .i64 pl) (d:=1) (Pl.At.same (v:=.pointer (some ⟨p,0,none⟩)) (d:=0) (Pl.At.here ad ac) s0) s1;refine Pl.qa (S:=fun w'=>w'.cell? ⟨p,1,none⟩=some (.int .i64 (D.sb:Int))) hA aa ?_;rw [show (Pl.find 0 ((Tryz.f92.body).getD .skip)).size=15 by kernel_rfl];refine Pl.q1 0 4 (.pointer (some ⟨p,0,none⟩)) (Pl.q0) (Pl.q2 (.tmp 0)) aa ?_;refine Pl.q1 1 5 (.pointer (some ⟨p,0,none⟩)) (Pl.q0) (Pl.q2 (.tmp 0)) aa ?_;refine Pl.q1 2 6 (.pointer (some ⟨p,0,none⟩)) (Pl.q0) (Pl.qg (.tmp 5)) aa ?_;refine Pl.q1 3 7 (.pointer (some ⟨p,2,none⟩)) (Pl.q0) (Pl.q4 87 (.tmp 6) 2 (Zee p)) aa ?_;refine Pl.q1 5 9 (.int .i64 pl) (Pl.q0) (Pl.q2 (.tmp 1)) aa ?_;refine Pl.q1 6 10 (.pointer (some ⟨p,0,none⟩)) (Pl.q0) (Pl.q2 (.tmp 0)) aa ?_;refine Pl.q1 7 11 (.pointer (some ⟨p,0,none⟩)) (Pl.q0) (Pl.qg (.tmp 10)) aa ?_;refine Pl.q1 8 12 (.pointer (some ⟨p,1,none⟩)) (Pl.q0) (Pl.q4 87 (.tmp 11) 1 (Zf0 p)) aa ?_;refine Pl.q1 9 13 (.int .i64 (D.sb:Int)) (Pl.q0) (Pl.q6 3 (.tmp 12) (fun w' hS=>ldInt p 1 _ w' hS)) aa ?_;refine Pl.q1 10 14 (.int .i64 (k:Int)) (Pl.q0) (Pl.q9 .sub 3 3 (.tmp 9) (.tmp 13) (.int .i64 pl) (.int .i64 (D.sb:Int)) (fun w=>by simp [go_sem,eqGuard,hk])) aa ?_;refine Pl.qv 4 8 (.slice L.ss.a L.ss.len L.ss.cap) (Pl.q0) (Pl.qp 32 (.tmp 7) (ldBs p 2 _ _ _ _ h.drew.c2)) aa ?_;refine Pl.q1 11 15 ((L.ss.from_ k).val) (Pl.q0) (Pl.qo 32 (.tmp 8) (some (.tmp 14)) none (fun w=>Zbc L.ss.a L.ss.len L.ss.cap k hl w)) aa ?_;refine Pl.q1 12 16 (.pointer (some ⟨p,0,none⟩)) (Pl.q0) (Pl.qg (.tmp 4)) aa ?_;refine Pl.q1 13 17 (.pointer (some ⟨p,2,none⟩)) (Pl.q0) (Pl.q4 87 (.tmp 16) 2 (Zee p)) aa ?_;refine Pl.qd 14 (w.drew.setCell ⟨p,2,none⟩ (L.ss.from_ k).val) (Pl.q0) (Pl.qh 32 (.tmp 17) (.tmp 15) _ (stBs p 2 _ _ w.drew h.drew.c2 (h.drew.fz 2))) ab ?_;refine Pl.q7 (fun A' hA'=>?_);rw [Pl.At.ext hA' ((((((((((((((hA.put 4 _).put 5 _).put 6 _).put 7 _).put 9 _).put 10 _).put 11 _).put 12 _).put 13 _).put 14 _).put 8 _).put 15 _).put 16 _).put 17 _)];exact hend hA'.fn _ rfl
theorem Zpv (w:World)(p:Nat)(D:Ds)(L:Dl)(h:DevM w p D L)(pl:Nat)(hk:D.sb≤pl)(hl:pl≤D.sb+D.ss.length)(hm:pl≤1000000000000):Calls Tryz.prog 92 #[.pointer (some ⟨p,0,none⟩),.int .i64 (pl:Int)] w fun e w'=>e=.returned (.tuple #[])∧∃L',Zaj w p L w' { D with ss:=D.ss.drop (pl-D.sb),sb:=pl } L':=by
 have e1:D.ss.length=L.ss.len:=h.len .ss;(have ac:pl-D.sb≤L.ss.len:=by omega);obtain⟨ho,ab⟩:=(h.own .ss).from_ ac;have hT:Zaj w p L (w.drew.setCell ⟨p,2,none⟩ (L.ss.from_ (pl-D.sb)).val) { D with ss:=D.ss.drop (pl-D.sb) } { L with ss:=L.ss.from_ (pl-D.sb) }:=by
  refine h.swap .ss (L.ss.from_ (pl-D.sb)) (D.ss.drop (pl-D.sb)) ((Frm.refl _ w).drew) ?_ (fun x hx=>h.byt .ss x (List.mem_of_mem_drop hx)) (fun k hk=>.inl (by rw [← hk];exact ab.symm)) 2 _ _ (by rfl) ⟨rfl,rfl⟩ (fun f hf=>by cases f <;> first | exact ⟨rfl,rfl⟩ | exact absurd rfl hf) ⟨rfl,rfl⟩ ⟨rfl,rfl⟩;(have e2:(vals D.ss).drop (pl-D.sb)=vals (D.ss.drop (pl-D.sb)):=by simp [vals,List.map_drop]);(have ho':Own 5 1 w (L.ss.from_ (pl-D.sb)) (vals (D.ss.drop (pl-D.sb))):=by rw [← e2];exact ho);exact ho'.frame fun _ _=>rfl
 have HT:=hide hT;have aa:=hT.trans (Zaj.cell (hT.dev.turn { D with ss:=D.ss.drop (pl-D.sb),sb:=pl } { L with ss:=L.ss.from_ (pl-D.sb) } 1 (.int .i64 (pl:Int)) (by rfl) (fun f=>by cases f <;> exact ⟨rfl,rfl⟩) ⟨rfl,rfl⟩ ⟨rfl,rfl⟩) ((Frm.refl (fun k=>k=p) _).setCell (p:=⟨p,1,none⟩) rfl _));have ad:=hide aa;have HR:Hid (∀{Q:Exit→Act→World→Prop} {A:Act},_):=fun {Q A}=>ZoI w p D L h (pl:Int) (pl-D.sb) (by rw [IntKind.wrap_i64];omega) ac (Q:=Q) (A:=A);have c1:=hT.dev.c1;have f1:=hT.dev.fz;clear hT aa h e1 ho ab;simp only at c1;generalize hW:w.drew.setCell ⟨p,2,none⟩ (L.ss.from_ (pl-D.sb)).val=W at *;clear hW;go_enter Tryz.func92,Tryz.ntmps92;go_wp2_with fail;refine Pl.q8 (ops:=Pl.find 0 ((Tryz.f92.body).getD .skip)) ?_;refine HR.out (by rfl) rfl (by rfl) (by rfl) ?_;rintro u w' rfl;simp only [Act.put,List.setIfInBounds_toArray,List.set_cons_zero,List.set_cons_succ];go_wp2_with fail;go_end0;exact⟨rfl,_,ad.out⟩
theorem ZoH (w:World)(p:Nat)(D:Ds)(L:Dl)(h:DevM w p D L)(pl:Int)(k:Nat)(hk:IntKind.i64.wrap (pl-(D.kb:Int))=(k:Nat))(hl:k≤L.ks.len)
    {Q:Exit→Act→World→Prop}(ad:A.tmps.size=22)(ac:A.defers=[])(s0:A.tmps.getD 0 undef=.pointer (some ⟨p,3,none⟩))(s1:A.tmps.getD 1 undef=.int .i64 pl)
    (hend:∀(u:Nat→Value) w',w'=w.drew.setCell ⟨p,5,none⟩ (L.ks.from_ k).val→Q .normal (((((((((((((((A).put (some 4) (u 4)).put (some 5) (u 5)).put (some 6) (u 6)).put (some 7) (u 7)).put (some 9) (u 9)).put (some 10) (u 10)).put (some 11) (u 11)).put (some 12) (u 12)).put (some 13) (u 13)).put (some 14) (u 14)).put (some 8) (u 8)).put (some 15) (u 15)).put (some 16) (u 16)).put (some 17) (u 17)) w') :
    (Code.region 0 (Pl.find 0 ((Tryz.f92.body).getD .skip)) true).wp Tryz.prog Q A w:=by
  have aa:=(show (fun w'=>w'.cell? ⟨p,4,none⟩=some (.int .i64 (D.kb:Int))) w.drew from h.drew.c4);have ab:(fun w':World=>w'.cell? ⟨p,4,none⟩=some (.int .i64 (D.kb:Int))) (w.drew.setCell ⟨p,5,none⟩ (L.ks.from_ k).val):=by
   have hb:=heap_setCell_same w.drew p 5 _ 91 (L.ks.from_ k).val h.drew.blk;show World.cell? _ _=_;rw [Addr.cell0 hb];rfl
  have hA:=Pl.At.same (v:=.int .i64 pl) (d:=1) (Pl.At.same (v:=.pointer (some ⟨p,3,none⟩)) (d:=0) (Pl.At.here ad ac) s0) s1;refine Pl.qa (S:=fun w'=>w'.cell? ⟨p,4,none⟩=some (.int .i64 (D.kb:Int))) hA aa ?_;rw [show (Pl.find 0 ((Tryz.f92.body).getD .skip)).size=15 by kernel_rfl];refine Pl.q1 0 4 (.pointer (some ⟨p,3,none⟩)) (Pl.q0) (Pl.q2 (.tmp 0)) aa ?_;refine Pl.q1 1 5 (.pointer (some ⟨p,3,none⟩)) (Pl.q0) (Pl.q2 (.tmp 0)) aa ?_;refine Pl.q1 2 6 (.pointer (some ⟨p,3,none⟩)) (Pl.q0) (Pl.qg (.tmp 5)) aa ?_;refine Pl.q1 3 7 (.pointer (some ⟨p,5,none⟩)) (Pl.q0) (Pl.q4 87 (.tmp 6) 2 (Zef p)) aa ?_;refine Pl.q1 5 9 (.int .i64 pl) (Pl.q0) (Pl.q2 (.tmp 1)) aa ?_;refine Pl.q1 6 10 (.pointer (some ⟨p,3,none⟩)) (Pl.q0) (Pl.q2 (.tmp 0)) aa ?_;refine Pl.q1 7 11 (.pointer (some ⟨p,3,none⟩)) (Pl.q0) (Pl.qg (.tmp 10)) aa ?_;refine Pl.q1 8 12 (.pointer (some ⟨p,4,none⟩)) (Pl.q0) (Pl.q4 87 (.tmp 11) 1 (Zj1 p)) aa ?_;refine Pl.q1 9 13 (.int .i64 (D.kb:Int)) (Pl.q0) (Pl.q6 3 (.tmp 12) (fun w' hS=>ldInt p 4 _ w' hS)) aa ?_;refine Pl.q1 10 14 (.int .i64 (k:Int)) (Pl.q0) (Pl.q9 .sub 3 3 (.tmp 9) (.tmp 13) (.int .i64 pl) (.int .i64 (D.kb:Int)) (fun w=>by simp [go_sem,eqGuard,hk])) aa ?_;refine Pl.qv 4 8 (.slice L.ks.a L.ks.len L.ks.cap) (Pl.q0) (Pl.qp 32 (.tmp 7) (ldBs p 5 _ _ _ _ h.drew.c5)) aa ?_;refine Pl.q1 11 15 ((L.ks.from_ k).val) (Pl.q0) (Pl.qo 32 (.tmp 8) (some (.tmp 14)) none (fun w=>Zbc L.ks.a L.ks.len L.ks.cap k hl w)) aa ?_;refine Pl.q1 12 16 (.pointer (some ⟨p,3,none⟩)) (Pl.q0) (Pl.qg (.tmp 4)) aa ?_;refine Pl.q1 13 17 (.pointer (some ⟨p,5,none⟩)) (Pl.q0) (Pl.q4 87 (.tmp 16) 2 (Zef p)) aa ?_;refine Pl.qd 14 (w.drew.setCell ⟨p,5,none⟩ (L.ks.from_ k).val) (Pl.q0) (Pl.qh 32 (.tmp 17) (.tmp 15) _ (stBs p 5 _ _ w.drew h.drew.c5 (h.drew.fz 5))) ab ?_;refine Pl.q7 (fun A' hA'=>?_);rw [Pl.At.ext hA' ((((((((((((((hA.put 4 _).put 5 _).put 6 _).put 7 _).put 9 _).put 10 _).put 11 _).put 12 _).put 13 _).put 14 _).put 8 _).put 15 _).put 16 _).put 17 _)];exact hend hA'.fn _ rfl
theorem trimK (w:World)(p:Nat)(D:Ds)(L:Dl)(h:DevM w p D L)(pl:Nat)(hk:D.kb≤pl)(hl:pl≤D.kb+D.ks.length)(hm:pl≤1000000000000):Calls Tryz.prog 92 #[.pointer (some ⟨p,3,none⟩),.int .i64 (pl:Int)] w fun e w'=>e=.returned (.tuple #[])∧∃L',Zaj w p L w' { D with ks:=D.ks.drop (pl-D.kb),kb:=pl } L':=by
 have e1:D.ks.length=L.ks.len:=h.len .ks;(have ac:pl-D.kb≤L.ks.len:=by omega);obtain⟨ho,ab⟩:=(h.own .ks).from_ ac;have hT:Zaj w p L (w.drew.setCell ⟨p,5,none⟩ (L.ks.from_ (pl-D.kb)).val) { D with ks:=D.ks.drop (pl-D.kb) } { L with ks:=L.ks.from_ (pl-D.kb) }:=by
  refine h.swap .ks (L.ks.from_ (pl-D.kb)) (D.ks.drop (pl-D.kb)) ((Frm.refl _ w).drew) ?_ (fun x hx=>h.byt .ks x (List.mem_of_mem_drop hx)) (fun k hk=>.inl (by rw [← hk];exact ab.symm)) 5 _ _ (by rfl) ⟨rfl,rfl⟩ (fun f hf=>by cases f <;> first | exact ⟨rfl,rfl⟩ | exact absurd rfl hf) ⟨rfl,rfl⟩ ⟨rfl,rfl⟩;(have e2:(vals D.ks).drop (pl-D.kb)=vals (D.ks.drop (pl-D.kb)):=by simp [vals,List.map_drop]);(have ho':Own 5 1 w (L.ks.from_ (pl-D.kb)) (vals (D.ks.drop (pl-D.kb))):=by rw [← e2];exact ho);exact ho'.frame fun _ _=>rfl
 have HT:=hide hT;have aa:=hT.trans (Zaj.cell (hT.dev.turn { D with ks:=D.ks.drop (pl-D.kb),kb:=pl } { L with ks:=L.ks.from_ (pl-D.kb) } 4 (.int .i64 (pl:Int)) (by rfl) (fun f=>by cases f <;> exact ⟨rfl,rfl⟩) ⟨rfl,rfl⟩ ⟨rfl,rfl⟩) ((Frm.refl (fun k=>k=p) _).setCell (p:=⟨p,4,none⟩) rfl _));have ad:=hide aa;have HR:Hid (∀{Q:Exit→Act→World→Prop} {A:Act},_):=fun {Q A}=>ZoH w p D L h (pl:Int) (pl-D.kb) (by rw [IntKind.wrap_i64];omega) ac (Q:=Q) (A:=A);have c1:=hT.dev.c4;have f1:=hT.dev.fz;clear hT aa h e1 ho ab;simp only at c1;generalize hW:w.drew.setCell ⟨p,5,none⟩ (L.ks.from_ (pl-D.kb)).val=W at *;clear hW;go_enter Tryz.func92,Tryz.ntmps92;go_wp2_with fail;refine Pl.q8 (ops:=Pl.find 0 ((Tryz.f92.body).getD .skip)) ?_;refine HR.out (by rfl) rfl (by rfl) (by rfl) ?_;rintro u w' rfl;simp only [Act.put,List.setIfInBounds_toArray,List.set_cons_zero,List.set_cons_succ];go_wp2_with fail;go_end0;exact⟨rfl,_,ad.out⟩
theorem Owns.own {base:Nat}{v:Value}(h:Owns w base v xs):∃s:Sl,v=s.val∧Own 5 1 w s (vals xs)∧s.len=xs.length∧∀k,s.blk=some k→base≤k:=by
 rcases h.2 with ⟨hv,h0⟩ | ⟨g,cap,cur,hv,aa,hg,ac,hm,ab,ad⟩
 · refine⟨Sl.nil,hv,?_,h0.symm,fun k hk=>by cases hk⟩;have:xs=[]:=List.eq_nil_of_length_eq_zero h0;subst this;exact Own.nil _ _ _
 · refine⟨⟨some ⟨g,0,none⟩,xs.length,cap⟩,hv,⟨by rw [Zao];show _=xs.length*1;omega,.inr ⟨g,0,cur,rfl,hg,by show 0+cap*1≤_;rw [ab];omega,ac,hm,by rw [List.drop_zero];exact ad⟩⟩,rfl,fun k hk=>by cases hk;exact aa⟩
theorem Zcc (w:World)(a:Option Addr)(len cap:Nat)(xs:List Nat)(h:Came w a len cap xs)(hm:len≤1000000):Calls Tryz.prog 72 #[.slice a len cap] w fun e w'=>Below w.heap.size w w'∧∃s:Sl,e=.returned s.val∧Own 5 1 w' s (vals xs)∧s.len=xs.length∧∀k,s.blk=some k→w.heap.size≤k:=by
 cases a with
 | none =>
  have hc:=h.nil rfl;(have h0:len=0:=by have:=h.le;omega);subst hc;subst h0;have hx:xs=[]:=List.eq_nil_of_length_eq_zero h.bs.1;subst hx;clear h;have HN:=hide (Own.nil 5 1 w);have HB:=hide (Below.refl w.heap.size w);have he:∀w:World,(binOp .eql 32 (.slice none 0 0) (.slice none 0 0)).run Tryz.prog w=.ok (.bool true) w:=fun _=>rfl;go_enter Tryz.func72,Tryz.ntmps72;go_wp2_with fail;go_ret;exact⟨HB.out,Sl.nil,rfl,HN.out,rfl,fun k hk=>by cases hk⟩
 | some ad =>
  have HO:Hid (Owns (w.alloc (.cells #[] 5)) w.heap.size (.slice (some ⟨w.heap.size,0,none⟩) 0 0) []):=Zf9 w;have HA:=hide (Zaa w (.cells #[] 5));have HV:=hide (h.bs.keep (Zaa w (.cells #[] 5)) (Nat.le_refl _));(have HN:Hid (some ad=none→cap=0):=fun e=>by cases e);(have HL:Hid (([]:List Nat).length+len≤1000000):=by show _≤_;simp;omega);have he:∀w:World,(binOp .eql 32 (.slice (some ad) len cap) (.slice none 0 0)).run Tryz.prog w=.ok (.bool false) w:=fun _=>rfl;clear h;go_enter Tryz.func72,Tryz.ntmps72;go_wp2_with (at_builtin;refine Zak _ rfl (.tmp 5) (.tmp 6) rfl w.heap.size _ [] rfl HO.out _ _ _ _ rfl HV.out HN.out HL.out HA.out.size ?_);intro v1 w1 ab aa _;have ae:=hide ab;have ac:=hide (HA.out.trans aa);clear ab aa HO HA HV HN HL;go_wp2_with fail;go_ret;obtain⟨s,hv,h1,h2,h3⟩:=ae.out.own;exact⟨ac.out,s,congrArg Ending.returned hv,h1,h2,h3⟩
theorem Zfw:∀args w,(callFunc 72 args).run Tryz.prog w=.ok (.enter 72 args) w:=Pl.ql Tryz.func72
theorem Zfz:∀args w,(callFunc 76 args).run Tryz.prog w=.ok (.enter 76 args) w:=Pl.ql Tryz.func76
theorem Zh8:∀args w,(callFunc 86 args).run Tryz.prog w=.ok (.enter 86 args) w:=Pl.ql Tryz.func86
theorem ZmG:∀args w,(callFunc 92 args).run Tryz.prog w=.ok (.enter 92 args) w:=Pl.ql Tryz.func92
theorem DevM.came {D:Ds}{L:Dl}(h:DevM w p D L)(f:Fld):Came w (L.s f).a (L.s f).len (L.s f).cap (D.b f):=(h.own f).came (h.byt f)
theorem Zad (w:World):Below w.heap.size w w.drew:=(Below.refl _ _).drew
theorem ZnA (w:World)(p:Nat)(D:Ds)(L:Dl)(h:DevM w p D L)(hm:L.ss.len≤1000000)
    {Q:Exit→Act→World→Prop}(af:A.tmps.size=18)(ab:A.defers=[])(s0:A.tmps.getD 0 undef=.pointer (some ⟨p,0,none⟩))
    (hend:∀(u:Nat→Value) w' s,Below w.heap.size w w'→Own 5 1 w' s (vals D.ss)→s.len=D.ss.length→(∀k,s.blk=some k→w.heap.size≤k)→Q .normal ((((((((((((((A).put (some 7) (u 7)).put (some 8) (u 8)).put (some 9) (u 9)).put (some 10) (u 10)).put (some 11) (u 11)).put (some 12) (u 12)).put (some 13) (u 13)).put (some 14) (u 14)).put (some 15) (u 15)).put (some 16) (u 16)).put (some 17) (u 17)).put (some 2) (.int .i64 (D.sb:Int))).put (some 3) (s.val)) w') :
    (Code.region 3 (Pl.find 3 ((Tryz.f29.body).getD .skip)) true).wp Tryz.prog Q A w:=by
  have hA:=Pl.At.same (v:=.pointer (some ⟨p,0,none⟩)) (d:=0) (Pl.At.here af ab) s0;refine Pl.qa (S:=fun w'=>DevM w' p D L) hA h.drew ?_;rw [show (Pl.find 3 ((Tryz.f29.body).getD .skip)).size=13 by kernel_rfl];refine Pl.q1 0 7 (.pointer (some ⟨p,0,none⟩)) (Pl.q0) (Pl.q2 (.tmp 0)) h.drew ?_;refine Pl.q1 1 8 (.pointer (some ⟨p,0,none⟩)) (Pl.q0) (Pl.qg (.tmp 7)) h.drew ?_;refine Pl.q1 2 9 (.pointer (some ⟨p,0,none⟩)) (Pl.q0) (Pl.q4 91 (.tmp 8) 0 (Zdf p)) h.drew ?_;refine Pl.q1 3 10 (.pointer (some ⟨p,1,none⟩)) (Pl.q0) (Pl.q4 87 (.tmp 9) 1 (Zf0 p)) h.drew ?_;refine Pl.q1 4 11 (.int .i64 (D.sb:Int)) (Pl.q0) (Pl.q6 3 (.tmp 10) (fun w' hS=>ldInt p 1 _ w' hS.c1)) h.drew ?_;refine Pl.q1 5 12 (.pointer (some ⟨p,0,none⟩)) (Pl.q0) (Pl.q2 (.tmp 0)) h.drew ?_;refine Pl.q1 6 13 (.pointer (some ⟨p,0,none⟩)) (Pl.q0) (Pl.qg (.tmp 12)) h.drew ?_;refine Pl.q1 7 14 (.pointer (some ⟨p,0,none⟩)) (Pl.q0) (Pl.q4 91 (.tmp 13) 0 (Zdf p)) h.drew ?_;refine Pl.q1 8 15 (.pointer (some ⟨p,2,none⟩)) (Pl.q0) (Pl.q4 87 (.tmp 14) 2 (Zee p)) h.drew ?_;refine Pl.q1 9 16 (.slice L.ss.a L.ss.len L.ss.cap) (Pl.q0) (Pl.q6 32 (.tmp 15) (fun w' hS=>ldBs p 2 _ _ _ w' hS.c2)) h.drew ?_;refine Pl.qc 10 17 72 [(.tmp 16)] #[32] (Pl.q0) Zfw (Calls.mono (Zcc w.drew _ _ _ _ (h.drew.came .ss) hm) ?_);rintro e w2 ⟨aa,s2,rfl,ae,ad,ac⟩;refine⟨s2.val,rfl,(h.drew.keep aa),?_⟩;refine Pl.q1 11 2 (.int .i64 (D.sb:Int)) (Pl.q0) (Pl.qm (.tmp 11)) (h.drew.keep aa) ?_;refine Pl.q1 12 3 (s2.val) (Pl.q0) (Pl.qm (.tmp 17)) (h.drew.keep aa) ?_;refine Pl.q7 (fun A' hA'=>?_);rw [Pl.At.ext hA' (((((((((((((hA.put 7 _).put 8 _).put 9 _).put 10 _).put 11 _).put 12 _).put 13 _).put 14 _).put 15 _).put 16 _).put 17 _).put 2 _).put 3 _)];exact hend hA'.fn w2 s2 ((Zad w).trans aa) ae ad ac
theorem ZlR (w:World)(p:Nat)(D:Ds)(L:Dl)(h:DevM w p D L)(hu:D.units≤1000000000)
    {Q:Exit→Act→World→Prop}(ac:A.tmps.size=14)(ab:A.defers=[])(s0:A.tmps.getD 0 undef=.pointer (some ⟨p,0,none⟩))
    (hend:∀(u:Nat→Value) w',Below w.heap.size w w'→Q .normal ((((((((((A).put (some 7) (u 7)).put (some 8) (u 8)).put (some 9) (u 9)).put (some 10) (u 10)).put (some 11) (u 11)).put (some 12) (u 12)).put (some 13) (u 13)).put (some 2) (.int .i64 (L.wr.len:Int))).put (some 3) (.int .i64 (D.units:Int))) w') :
    (Code.region 3 (Pl.find 3 ((Tryz.f30.body).getD .skip)) true).wp Tryz.prog Q A w:=by
  have hA:=Pl.At.same (v:=.pointer (some ⟨p,0,none⟩)) (d:=0) (Pl.At.here ac ab) s0;refine Pl.qa (S:=fun w'=>DevM w' p D L) hA h.drew ?_;rw [show (Pl.find 3 ((Tryz.f30.body).getD .skip)).size=9 by kernel_rfl];refine Pl.q1 0 7 (.pointer (some ⟨p,0,none⟩)) (Pl.q0) (Pl.q2 (.tmp 0)) h.drew ?_;refine Pl.q1 1 8 (.pointer (some ⟨p,0,none⟩)) (Pl.q0) (Pl.qg (.tmp 7)) h.drew ?_;refine Pl.q1 2 9 (.pointer (some ⟨p,6,none⟩)) (Pl.q0) (Pl.q4 91 (.tmp 8) 2 (ZdK p)) h.drew ?_;refine Pl.q1 3 10 (.slice L.wr.a L.wr.len L.wr.cap) (Pl.q0) (Pl.q6 88 (.tmp 9) (fun w' hS=>ldWs p 6 _ _ _ w' hS.c6)) h.drew ?_;refine Pl.q1 4 11 (.int .i64 (L.wr.len:Int)) (Pl.q0) (Pl.qx 88 (.tmp 10) (fun _ _=>rfl)) h.drew ?_;refine Pl.q1 5 12 (.pointer (some ⟨p,0,none⟩)) (Pl.q0) (Pl.q2 (.tmp 0)) h.drew ?_;refine Pl.qc 6 13 76 [(.tmp 12)] #[23] (Pl.q0) Zfz (Calls.mono (Zc8 w.drew p D L h.drew hu) ?_);rintro e w2 ⟨rfl,aa⟩;refine⟨.int .i64 (D.units:Int),rfl,(h.drew.keep aa),?_⟩;refine Pl.q1 7 2 (.int .i64 (L.wr.len:Int)) (Pl.q0) (Pl.qm (.tmp 11)) (h.drew.keep aa) ?_;refine Pl.q1 8 3 (.int .i64 (D.units:Int)) (Pl.q0) (Pl.qm (.tmp 13)) (h.drew.keep aa) ?_;refine Pl.q7 (fun A' hA'=>?_);rw [Pl.At.ext hA' (((((((((hA.put 7 _).put 8 _).put 9 _).put 10 _).put 11 _).put 12 _).put 13 _).put 2 _).put 3 _)];exact hend hA'.fn w2 ((Zad w).trans aa)
theorem Sw.cells_length (x:Sw)(h:x.b.length=128):x.cells.length=129:=by simp [Sw.cells,Zao,h]
theorem ZcM:∀l:List Sw,(∀x∈l,x.b.length=128)→(ZaS l).length=l.length*129
 | [],_=>rfl
 | x :: r,h=>by
  have:=ZcM r (fun y hy=>h y (by simp [hy]))
  simp only [ZaS,List.flatMap_cons,List.length_append,List.length_cons] at *
  rw [this,x.cells_length (h x (by simp))]
  omega
theorem DevM.lenW {D:Ds}{L:Dl}(h:DevM w p D L)(hw:∀x∈D.wr,x.b.length=128):D.wr.length=L.wr.len:=by have:=h.wr.1;rw [ZcM _ hw] at this;omega
theorem ZbM (w:World)(p:Nat)(D:Ds)(L:Dl)(h:DevM w p D L)(n:Nat)(hn:D.sp.length=512*n)(ab:n≤64)(aa:1≤n)(hm:D.ss.length≤1000000):Calls Tryz.prog 29 #[at0 p] w fun e w'=>Below w.heap.size w w'∧∃s:Sl,e=.returned (.tuple #[.int .i64 (D.sb:Int),s.val])∧Own 5 1 w' s (vals D.ss)∧s.len=D.ss.length∧∀k,s.blk=some k→w.heap.size≤k:=by
 have HG:=hide (Zb7 w p D L h n hn ab aa);(have hm':L.ss.len≤1000000:=by have:D.ss.length=L.ss.len:=h.len .ss;omega);have HR:Hid (∀{Q:Exit→Act→World→Prop} {A:Act},_):=fun {Q A}=>ZnA w p D L h hm' (Q:=Q) (A:=A);clear h hn hm hm';unfold at0 at *;go_enter Tryz.func29,Tryz.ntmps29;go_wp2_with fail;refine HG.out.mono ?_;rintro e w' ⟨rfl,hw⟩;obtain rfl:=hw.symm;go_wp2_with fail;refine Pl.q8 (ops:=Pl.find 3 ((Tryz.f29.body).getD .skip)) ?_;refine HR.out (by rfl) rfl (by rfl) ?_;intro u w' s hb ho hl hk;simp only [Act.put,List.setIfInBounds_toArray,List.set_cons_zero,List.set_cons_succ];have HB:=hide hb;have HO:=hide ho;have HL:=hide hl;have HK:=hide hk;clear hb ho hl hk;go_wp2_with fail;go_ret2;exact⟨HB.out,s,rfl,HO.out,HL.out,HK.out⟩
theorem Zha (w:World)(p:Nat)(D:Ds)(L:Dl)(h:DevM w p D L)(n:Nat)(hn:D.sp.length=512*n)(ab:n≤64)(aa:1≤n)(hu:D.units≤1000000000)(hw:∀x∈D.wr,x.b.length=128):Calls Tryz.prog 30 #[at0 p] w fun e w'=>Below w.heap.size w w'∧e=.returned (.tuple #[.int .i64 (D.wr.length:Int),.int .i64 (D.units:Int)]):=by
 have HG:=hide (Zb7 w p D L h n hn ab aa);have HR:Hid (∀{Q:Exit→Act→World→Prop} {A:Act},_):=fun {Q A}=>ZlR w p D L h hu (Q:=Q) (A:=A);rw [h.lenW hw];clear h hn hu;unfold at0 at *;go_enter Tryz.func30,Tryz.ntmps30;go_wp2_with fail;refine HG.out.mono ?_;rintro e w' ⟨rfl,hw⟩;obtain rfl:=hw.symm;go_wp2_with fail;refine Pl.q8 (ops:=Pl.find 3 ((Tryz.f30.body).getD .skip)) ?_;refine HR.out (by rfl) rfl (by rfl) ?_;intro u w' hb;simp only [Act.put,List.setIfInBounds_toArray,List.set_cons_zero,List.set_cons_succ];have HB:=hide hb;clear hb;go_wp2_with fail;go_ret2;exact⟨HB.out,rfl⟩
def Sl.mid (s:Sl) (k l:Nat):Sl:=⟨fromA s.a s.cap k,l-k,s.cap-k⟩
theorem Ze2 (a:Option Addr)(len cap k l:Nat)(hk:k≤l)(hl:l≤cap)(w:World):(Instr.sliceAt 32 (.slice a len cap) (some (.int .i64 (k:Nat))) (some (.int .i64 (l:Nat))) none).run Tryz.prog w=.ok (.slice (fromA a cap k) (l-k) (cap-k)) w:=by
 (have aa:Tryz.prog.underlying 32=some (.slice (Tryz.prog.elem 32)):=by kernel_rfl);rw [run_sliceAt_slice w 32 _ _ _ _ aa,run_slice_lh w 32 a len cap aa .i64 .i64 (k:Nat) (l:Nat) (by omega) (by omega) (by omega),Zh4,sz5];simp [Result.andThen,sliced,fromA]
theorem Came.mid {s:Sl}(h:Came w s.a s.len s.cap xs)(k l:Nat)(hk:k≤l)(hl:l≤s.len):Came w (s.mid k l).a (s.mid k l).len (s.mid k l).cap ((xs.drop k).take (l-k)):=by
 have aa:=h.le;have h1:=h.bs.from (cap:=s.cap) (k:=k) (by omega) h.le;refine⟨⟨?_,fun x hx=>h1.2.1 x (List.mem_of_mem_take hx),fun i hi=>?_⟩,?_,?_,?_⟩
 · have:=h.bs.1;show ((xs.drop k).take (l-k)).length=l-k;simp only [List.length_take,List.length_drop];omega
 · have hi':i<l-k:=hi;obtain⟨b,off,e,hc⟩:=h1.2.2 i (by omega);refine⟨b,off,e,?_⟩;rw [hc];simp [List.getD,hi']
 · intro e;have e':fromA s.a s.cap k=none:=e;show s.cap-k=0;unfold fromA at e';split at e'
   · omega
   · cases hs:s.a with
     | none=>have:=h.nil hs;omega
     | some x=>rw [hs] at e';cases e'
 · show l-k≤s.cap-k;omega
 · have:=h.big;show l-k≤_;omega
theorem ZhP (w:World)(p:Nat)(D:Ds)(L:Dl)(h:DevM w p D L)(n:Nat)(hn:D.sp.length=512*n)(af:n≤64)(k:Nat)(hk:k<n):Calls Tryz.prog 34 #[at0 p,.int .i64 (k:Int)] w fun e w'=>Below w.heap.size w w'∧∃s:Sl,e=.returned (.tuple #[s.val,.int .i64 0])∧Own 5 1 w' s (vals ((D.sp.drop (512*k)).take 512))∧s.len=512∧∀k,s.blk=some k→w.heap.size≤k:=by
 have HG:=hide (ZjI w p D L h n hn af (k:Int));rw [decide_eq_true (show 0≤(k:Int)∧(k:Int)<(n:Int) by omega)] at HG;(have ag:L.sp.len=512*n:=by have:D.sp.length=L.sp.len:=h.len .sp;omega);have ae:=(h.own .sp).lecap;have ac:L.sp.len≤L.sp.cap:=ae;have ab:=Ze2 L.sp.a L.sp.len L.sp.cap (512*k) (512*k+512) (by omega) (by omega);(have e0:512*k+512-512*k=512:=by omega);have HC:=hide (Zcc w _ _ _ _ ((h.came .sp).mid (512*k) (512*k+512) (by omega) (by show _≤L.sp.len;omega)) (by show 512*k+512-512*k≤_;omega));have c0:=h.c0;rw [e0] at ab HC;(have aa:((D.sp.drop (512*k)).take 512).length=512:=by simp only [List.length_take,List.length_drop];omega);unfold Sl.mid Dl.s Ds.b at HC;simp only at HC;rw [e0,aa] at HC;clear aa e0;rw [show (((512*k:Nat)):Int)=512*(k:Int) by omega,show (((512*k+512:Nat)):Int)=512*(k:Int)+512 by omega] at ab;(have ah:IntKind.i64.wrap ((k:Int)*512)=512*(k:Int):=by rw [IntKind.wrap_i64];omega);(have ai:IntKind.i64.wrap (512*(k:Int)+512)=512*(k:Int)+512:=by rw [IntKind.wrap_i64];omega);clear h hn ae ac ag;unfold at0 at *;go_enter Tryz.func34,Tryz.ntmps34;go_wp2_with fail;refine HG.out.mono ?_;rintro e w' ⟨rfl,hw⟩;obtain rfl:=hw.symm;go_wp2_with fail;refine HC.out.mono ?_;rintro e w' ⟨hb,s,rfl,ho,hl,ad⟩;have HB:=hide hb;have HO:=hide ho;have HL:=hide hl;have HK:=hide ad;clear hb ho hl ad;go_wp2_with fail;go_ret2;exact⟨HB.out,s,rfl,HO.out,HL.out,HK.out⟩
end Go.Proofs.YtpnlebpnhmibfaaGreat
