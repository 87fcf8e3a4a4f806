/-
  Lemmas.
-/
import Derived.Test.YtpnlebpnhmibfaaGreatSa
import Derived.Test.YtpnlebpnhmibfaaGreatMtL
namespace Go.Proofs.YtpnlebpnhmibfaaGreat
open Go.RowKit
set_option linter.unusedVariables false
set_option maxRecDepth 100000
set_option maxHeartbeats 4000000
variable {n c m p gb:Nat}{w:World}{P:Po}{L:Dl}
theorem Zoq (x:ByteArray)(w:World):(binOp .neq 9 (.string x) (.string x)).run Tryz.prog w=.ok (.bool false) w:=by simp [go_sem]
theorem ZnG {a:Option Addr}{len cap j:Nat}{xs:List Nat}(h:Bs w a len xs)(hj:512*j+512≤len)(hc:len≤cap):Bs w (fromA a cap (512*j)) (512*j+512-512*j) ((xs.drop (512*j)).take 512):=by
 obtain⟨h1,h2,h3⟩:=h;refine⟨by rw [List.length_take,List.length_drop];omega,(h2.drop _).take _,fun i hi=>?_⟩;obtain⟨b,off,ha,aa⟩:=h3 (512*j+i) (by omega);refine⟨b,off+512*j,?_,?_⟩
 · rw [ha];unfold fromA;rw [if_neg (by omega),Nat.mul_one,Option.map_some,Addr.add_lit]
 · rw [Nat.add_assoc,aa];simp only [List.getD,List.getElem?_take,List.getElem?_drop];rw [if_pos (by omega)]
section
variable {ops : Array Oper} {rest : List Oper} {o : Oper} {a : Act} {Q : Exit → Act → World → Prop}
theorem Zhs (w:World)(hw:Region.wanted o (yielded ops a.tmps)=true)(v:Value)(w':World)(aa:(execOp a.eval o).run Tryz.prog w=.ok (.value v) w')(hK:wpList Tryz.prog ops Q rest (a.put o.dst v) w'):wpList Tryz.prog ops Q (o :: rest) a w:=by
 refine BigFrame.wpList_want hw fun K hK'=>?_;unfold Oper.wp;rw [aa];exact hK' _ _ hK
theorem Zbr (w:World)(hw:Region.wanted o (yielded ops a.tmps)=true)(s d:TypeId)(x:Operand)(ho:o.op=.convert s d x)(u v:Value)(hu:a.eval x=u)(w':World)(aa:(convert s d u).run Tryz.prog w=.ok v w')(hK:wpList Tryz.prog ops Q rest (a.put o.dst v) w'):wpList Tryz.prog ops Q (o :: rest) a w:=by
 refine Zhs w hw v w' ?_ hK;have e:execOp a.eval o=(do pure (.value (← convert s d (a.eval x)))):=by
  unfold execOp;rw [ho]
 rw [e,hu];simp [aa]
end
theorem Zln (p:Nat)(w:World):(Instr.fieldAt 34 (.pointer (some ⟨p,0,none⟩)) 0).run Tryz.prog w=.ok (.pointer (some ⟨p,0,none⟩)) w:=by simp [go_sem,Instr.fieldAt]
theorem Znd (w:World)(sa:Option Addr)(sl sc:Nat)(xa:Option Addr)(xl xc:Nat)(xs:List Nat)(q7 j:Nat)(h1:Bs w sa sl ((xs.drop (512*j)).take 512))(h2:Bs w xa xl xs)(h3:w.cell? ⟨q7,0,none⟩=some (.slice xa xl xc))(hj:512*j+512≤xl)(hc:xl≤xc)(ab:IntKind.i64.wrap (512*(j:Int))=512*(j:Int))(ad:IntKind.i64.wrap (512*(j:Int)+512)=512*(j:Int)+512)
    {Q:Exit→Act→World→Prop}{A:Act}(ae:A.tmps.size=268)(ac:A.defers=[])(s20:A.tmps.getD 20 undef=.pointer (some ⟨q7,0,none⟩))(s27:A.tmps.getD 27 undef=.int .i64 (j:Int))(s28:A.tmps.getD 28 undef=.slice sa sl sc)(s29:A.tmps.getD 29 undef=.int .i64 0)
    (hend:∀(u:Nat→Value) w',w'=w.drew→Q .normal (((((((((((((((((A).put (some 251) (u 251)).put (some 252) (u 252)).put (some 253) (u 253)).put (some 254) (u 254)).put (some 255) (u 255)).put (some 256) (u 256)).put (some 257) (u 257)).put (some 258) (u 258)).put (some 259) (u 259)).put (some 260) (u 260)).put (some 261) (u 261)).put (some 262) (u 262)).put (some 263) (u 263)).put (some 264) (u 264)).put (some 265) (u 265)).put (some 266) (.bool false)) w') :
    (Code.region 51 (Pl.find 51 ((Tryz.f3.body).getD .skip)) true).wp Tryz.prog Q A w:=by
  have aa:=(show (fun (w':World)=>Bs w' sa sl ((xs.drop (512*j)).take 512)∧Bs w' xa xl xs∧w'.cell? ⟨q7,0,none⟩=some (.slice xa xl xc)) w.drew from ⟨h1,h2,h3⟩);have hA:=Pl.At.same (v:=.int .i64 0) (d:=29) (Pl.At.same (v:=.slice sa sl sc) (d:=28) (Pl.At.same (v:=.int .i64 (j:Int)) (d:=27) (Pl.At.same (v:=.pointer (some ⟨q7,0,none⟩)) (d:=20) (Pl.At.here ae ac) s20) s27) s28) s29;refine Pl.qa (S:=fun (w':World)=>Bs w' sa sl ((xs.drop (512*j)).take 512)∧Bs w' xa xl xs∧w'.cell? ⟨q7,0,none⟩=some (.slice xa xl xc)) hA aa ?_;rw [show (Pl.find 51 ((Tryz.f3.body).getD .skip)).size=16 by kernel_rfl];refine Pl.q1 0 251 (.int .i64 0) (Pl.q0) (Pl.q2 (.tmp 29)) aa ?_;refine Pl.q1 1 252 (.bool false) (Pl.q0) (Pl.q9 .neq 24 24 (.tmp 251) (.const (.int .i64 0)) (.int .i64 0) (.int .i64 0) (fun w=>by simp only [eqGuard];simp [go_sem])) aa ?_;refine Pl.q1 2 253 (.bool false) (Pl.q0) (Pl.q2 (.tmp 252)) aa ?_;refine Pl.q1 3 254 (.slice sa sl sc) (Pl.q3 2 253 false) (Pl.q2 (.tmp 28)) aa ?_;refine Pl.q1 4 255 (.string (bstr ((xs.drop (512*j)).take 512))) (Pl.q3 2 253 false) (Pl.qw 32 9 (.tmp 254) (.slice sa sl sc) (fun w' hS=>Zat _ hS.1)) aa ?_;refine Pl.q1 5 256 (.pointer (some ⟨q7,0,none⟩)) (Pl.q3 2 253 false) (Pl.q4 34 (.tmp 20) 0 (Zln q7)) aa ?_;refine Pl.q1 6 257 (.slice xa xl xc) (Pl.q3 2 253 false) (Pl.q6 32 (.tmp 256) (fun w' hS=>ldBs q7 0 _ _ _ w' hS.2.2)) aa ?_;refine Pl.q1 7 258 (.int .i64 (j:Int)) (Pl.q3 2 253 false) (Pl.q2 (.tmp 27)) aa ?_;refine Pl.q1 8 259 (.int .i64 ((512*j:Nat):Int)) (Pl.q3 2 253 false) (Pl.q9 .mul 3 3 (.const (.int .i64 512)) (.tmp 258) (.int .i64 512) (.int .i64 (j:Int)) (fun w=>by simp [go_sem,eqGuard,ab])) aa ?_;refine Pl.q1 9 260 (.int .i64 (j:Int)) (Pl.q3 2 253 false) (Pl.q2 (.tmp 27)) aa ?_;refine Pl.q1 10 261 (.int .i64 ((512*j:Nat):Int)) (Pl.q3 2 253 false) (Pl.q9 .mul 3 3 (.const (.int .i64 512)) (.tmp 260) (.int .i64 512) (.int .i64 (j:Int)) (fun w=>by simp [go_sem,eqGuard,ab])) aa ?_;refine Pl.q1 11 262 (.int .i64 ((512*j+512:Nat):Int)) (Pl.q3 2 253 false) (Pl.q9 .add 3 3 (.tmp 261) (.const (.int .i64 512)) (.int .i64 ((512*j:Nat):Int)) (.int .i64 512) (fun w=>by simp [go_sem,eqGuard,ad])) aa ?_;refine Pl.q1 12 263 (.slice (fromA xa xc (512*j)) (512*j+512-512*j) (xc-512*j)) (Pl.q3 2 253 false) (Pl.qo 32 (.tmp 257) (some (.tmp 259)) (some (.tmp 262)) (Ze2 xa xl xc (512*j) (512*j+512) (by omega) (by omega))) aa ?_;refine Pl.q1 13 264 (.string (bstr ((xs.drop (512*j)).take 512))) (Pl.q3 2 253 false) (Pl.qw 32 9 (.tmp 263) (.slice (fromA xa xc (512*j)) (512*j+512-512*j) (xc-512*j)) (fun w' hS=>Zat _ (ZnG (cap:=xc) hS.2.1 hj hc))) aa ?_;refine Pl.q1 14 265 (.bool false) (Pl.q3 2 253 false) (Pl.q9 .neq 9 9 (.tmp 255) (.tmp 264) (.string (bstr ((xs.drop (512*j)).take 512))) (.string (bstr ((xs.drop (512*j)).take 512))) (fun w=>by simp only [eqGuard];exact Zoq _ w)) aa ?_;refine Pl.q1 15 266 (.bool false) (Pl.q0) (Pl.qs (.tmp 253) (.const (.bool true)) (.tmp 265)) aa ?_;refine Pl.q7 (fun A' hA'=>?_);rw [Pl.At.ext hA' ((((((((((((((((hA.put 251 _).put 252 _).put 253 _).put 254 _).put 255 _).put 256 _).put 257 _).put 258 _).put 259 _).put 260 _).put 261 _).put 262 _).put 263 _).put 264 _).put 265 _).put 266 _)];exact hend hA'.fn _ rfl
def AgB (w:World) (g:Nat) (x:Ag):Prop:=w.heap[g]? = some (.cells x.cells 50 (0,0))
section
variable {w w' : World} {g : Nat} {x : Ag}
theorem AgB.c0 (h:AgB w g x):w.cell? ⟨g,0,none⟩=some (.int .i64 x.do_):=(Addr.cell0 h).trans rfl
theorem AgB.c1 (h:AgB w g x):w.cell? ⟨g,1,none⟩=some x.p.val:=(Addr.cell0 h).trans rfl
theorem AgB.c2 (h:AgB w g x):w.cell? ⟨g,2,none⟩=some x.b.val:=(Addr.cell0 h).trans rfl
theorem AgB.c3 (h:AgB w g x):w.cell? ⟨g,3,none⟩=some (.int .i64 x.n):=(Addr.cell0 h).trans rfl
theorem AgB.c4 (h:AgB w g x):w.cell? ⟨g,4,none⟩=some x.q.val:=(Addr.cell0 h).trans rfl
theorem AgB.lt (h:AgB w g x):g<w.heap.size:=(Array.getElem?_eq_some_iff.1 h).1
theorem AgB.keep (h:AgB w g x)(hb:Below w.heap.size w w'):AgB w' g x:=(hb.block g h.lt).trans h
theorem AgB.keepG {A:Nat→Prop}(h:AgB w g x)(hk:ZaD A w w')(ha:A g):AgB w' g x:=(hk g ha h.lt).trans h
theorem ldAg (h:AgB w g x):(Instr.loadAt 50 (.pointer (some ⟨g,0,none⟩))).run Tryz.prog w=.ok (.agg x.cells) w:=by
 have c0:=h.c0;have c1:=h.c1;have c2:=h.c2;have c3:=h.c3;have c4:=h.c4;unfold Ag.cells;simp [go_sem,Instr.loadAt,c0,c1,c2,c3,c4]
end
theorem Zjv:∀args w,(callFunc 14 args).run Tryz.prog w=.ok (.enter 14 args) w:=Pl.ql Tryz.func14
theorem Zjy:∀args w,(callFunc 15 args).run Tryz.prog w=.ok (.enter 15 args) w:=Pl.ql Tryz.func15
theorem Znc (w:World)(gb g:Nat)(x:Ag)(r:Int)(dd:Dv)(Ld:DvL)(v:Sl)(h:Int)(s:Sl)(sy:Int)(R1:Value→World→Prop)(R2:Value→World→Prop)(R3:World→Prop)(h0:AgB w g x)(am:RBlk w.drew gb dd Ld v h s sy)(ag:Calls Tryz.prog 14 #[.agg x.cells] w.drew fun e w2=>∃y,e=.returned y∧R1 y w2)(ad:∀y w2,R1 y w2→(fun (w':World)=>AgB w' g x) w2)(ai:∀y w2,R1 y w2→RBlk w2 gb dd Ld v h s sy)(ah:∀y w2,R1 y w2→Calls Tryz.prog 15 #[rV dd Ld v h s sy,y] w2 fun e w3=>∃z,e=.returned (.tuple #[z,.int .i64 r])∧R2 z w3)(aa:∀z w3,R2 z w3→(fun (w':World)=>AgB w' g x) w3)(ac:∀z w3,R2 z w3→∃W,(Instr.storeAt 43 (.pointer (some ⟨gb,0,none⟩)) z).run Tryz.prog w3=.ok () W∧(fun (w':World)=>AgB w' g x) W∧R3 W)
    {Q:Exit→Act→World→Prop}{A:Act}(ao:A.tmps.size=268)(an:A.defers=[])(s13:A.tmps.getD 13 undef=.pointer (some ⟨gb,0,none⟩))(s17:A.tmps.getD 17 undef=.pointer (some ⟨g,0,none⟩))
    (hend:∀(u:Nat→Value) w',R3 w'→Q .normal (((((((((A).put (some 114) (u 114)).put (some 113) (u 113)).put (some 115) (u 115)).put (some 116) (u 116)).put (some 112) (u 112)).put (some 117) (u 117)).put (some 118) (u 118)).put (some 16) (.int .i64 r)) w') :
    (Code.region 22 (Pl.find 22 ((Tryz.f3.body).getD .skip)) true).wp Tryz.prog Q A w:=by
  have aj:=(show (fun w'=>AgB w' g x) w.drew from h0);have hA:=Pl.At.same (v:=.pointer (some ⟨g,0,none⟩)) (d:=17) (Pl.At.same (v:=.pointer (some ⟨gb,0,none⟩)) (d:=13) (Pl.At.here ao an) s13) s17;refine Pl.qa (S:=fun w'=>AgB w' g x) hA aj ?_;rw [show (Pl.find 22 ((Tryz.f3.body).getD .skip)).size=9 by kernel_rfl];refine Pl.q1 1 114 (.agg x.cells) (Pl.q0) (Pl.q6 50 (.tmp 17) (fun w' hS=>ldAg hS)) aj ?_;refine Pl.qr 0 2 ?_ ?_
  · refine Pl.qe 0 113 (rV dd Ld v h s sy) w.drew (Pl.q_36 43 (.tmp 13) (ldR am)) aj ?_;refine Pl.qc 2 115 14 [(.tmp 114)] #[50] (Pl.q0) Zjv (Calls.mono (ag) ?_);rintro e w2 ⟨y,rfl,ae⟩;refine⟨y,rfl,(ad y w2 ae),?_⟩;refine Pl.qc 3 116 15 [(.tmp 113),(.tmp 115)] #[43,52] (Pl.q0) Zjy (Calls.mono (ah y w2 ae) ?_);rintro e w3 ⟨z,rfl,ab⟩;obtain⟨W4,al,af,ak⟩:=ac z w3 ab;refine⟨.tuple #[z,.int .i64 r],rfl,(aa z w3 ab),?_⟩;refine Pl.q1 4 112 (.tuple #[z,.int .i64 r]) (Pl.q0) (Pl.q2 (.tmp 116)) (aa z w3 ab) ?_;refine Pl.q1 5 117 (z) (Pl.q0) (Pl.qq (.tmp 112) 0 (fun w=>rfl)) (aa z w3 ab) ?_;refine Pl.q1 6 118 (.int .i64 r) (Pl.q0) (Pl.qq (.tmp 112) 1 (fun w=>rfl)) (aa z w3 ab) ?_;refine Pl.qd 7 W4 (Pl.q0) (Pl.qh 43 (.tmp 13) (.tmp 117) W4 al) af ?_;refine Pl.q1 8 16 (.int .i64 r) (Pl.q0) (Pl.qm (.tmp 118)) af ?_;refine Pl.q7 (fun A' hA'=>?_);rw [Pl.At.ext hA' ((((((((hA.put 114 _).put 113 _).put 115 _).put 116 _).put 112 _).put 117 _).put 118 _).put 16 _)];exact hend hA'.fn _ ak
  · refine Pl.q_37 2 115 14 [(.tmp 114)] #[50] Zjv (Calls.mono (ag) ?_);rintro e w2 ⟨y,rfl,ae⟩;refine⟨y,rfl,(ad y w2 ae),?_⟩;refine Pl.qf 0 113 (rV dd Ld v h s sy) w2 (Pl.q0) (Pl.q_36 43 (.tmp 13) (ldR (ai y w2 ae))) (ad y w2 ae) ?_;rw [Pl.qi 115 113];refine Pl.qc 3 116 15 [(.tmp 113),(.tmp 115)] #[43,52] (Pl.q0) Zjy (Calls.mono (ah y w2 ae) ?_);rintro e w3 ⟨z,rfl,ab⟩;obtain⟨W4,al,af,ak⟩:=ac z w3 ab;refine⟨.tuple #[z,.int .i64 r],rfl,(aa z w3 ab),?_⟩;refine Pl.q1 4 112 (.tuple #[z,.int .i64 r]) (Pl.q0) (Pl.q2 (.tmp 116)) (aa z w3 ab) ?_;refine Pl.q1 5 117 (z) (Pl.q0) (Pl.qq (.tmp 112) 0 (fun w=>rfl)) (aa z w3 ab) ?_;refine Pl.q1 6 118 (.int .i64 r) (Pl.q0) (Pl.qq (.tmp 112) 1 (fun w=>rfl)) (aa z w3 ab) ?_;refine Pl.qd 7 W4 (Pl.q0) (Pl.qh 43 (.tmp 13) (.tmp 117) W4 al) af ?_;refine Pl.q1 8 16 (.int .i64 r) (Pl.q0) (Pl.qm (.tmp 118)) af ?_;refine Pl.q7 (fun A' hA'=>?_);rw [Pl.At.ext hA' ((((((((hA.put 114 _).put 113 _).put 115 _).put 116 _).put 112 _).put 117 _).put 118 _).put 16 _)];exact hend hA'.fn _ ak
theorem ZiH {M:PoM}(S:Zb5 M){d:Nat}{X:Nat→Prop}(h:Mt M w m p d P L X)(hF:P.Fine n c)(k:Int)(hk:¬(0≤k∧k<(n:Int))):Calls Tryz.prog 22 #[at0 m,.int .i64 k] w fun e w'=>Below w.heap.size w w'∧e=.returned (.tuple #[.slice none 0 0,.int .i64 3]):=by
 have HG:=hide (ZaX h.blk);have HS:=hide (S.readNone w p d P L X n c k h.pool hF hk);have c1:=h.blk.c1;clear h hF hk;unfold at0 at *;go_enter Tryz.func22,Tryz.ntmps22;go_wp2_with fail;refine HG.out.mono ?_;rintro e w' ⟨rfl,hw⟩;obtain rfl:=hw.symm;clear hw;go_wp2_with fail;refine HS.out.mono ?_;rintro e w1 ⟨hb,rfl⟩;have HE:=hide hb;clear hb c1;go_wp2_with fail;go_ret2;exact⟨HE.out,rfl⟩
section
variable {w0 w w' : World} {mp p dp gb n tot m c : Nat} {P Q : Po} {A : Nat → Prop}
theorem Zl6 (h:Ma w0 w mp p dp gb n tot m P Q A)(hF:P.Fine n c)(k:Int)(hk:¬(0≤k∧k<(n:Int))):Calls Tryz.prog 22 #[at0 mp,.int .i64 k] w fun e w'=>(Ma w0 w' mp p dp gb n tot m P Q A∧ZaD A w w')∧e=.returned (.tuple #[.slice none 0 0,.int .i64 3]):=by
 have h':=h;obtain⟨L,X,hm,hp⟩:=h;refine(ZiH Zai hm hF k hk).mono ?_;rintro e w' ⟨hb,r⟩;exact⟨⟨h'.keep hb,fun j _ hl=>hb.block j hl⟩,r⟩
theorem Zjb {w2 w3:World}{K:Home}{X:Nat→Prop}(hm:Mt poM w2 mp p dp P L X)(aa:∀k,X k∨L.F dp k→w.heap.size≤k)(ac:Below w.heap.size w w2)(hK:∀k,K.G k↔¬(X k∨L.F dp k))(hb:Below w2.heap.size w2 w3){x:Value}(hs:Zay K n tot m P x w3) :
    ∃W,(Instr.storeAt 43 (.pointer (some ⟨w3.heap.size,0,none⟩)) x).run Tryz.prog (w3.alloc (.cells (Zah dv0 dvl0 Sl.nil 0 Sl.nil 0) 43))=.ok () W∧Ma w W mp p dp w3.heap.size n tot m P P (fun _=>False):=by
  obtain⟨d2,Ld2,v2,s2,rfl,hI⟩:=hs;have hA:=Zaa w3 (.cells (Zah dv0 dvl0 Sl.nil 0 Sl.nil 0) 43);have hk:=ZaZ w3 dv0 dvl0 Sl.nil 0 Sl.nil 0;obtain⟨W,ah,hB,hf,ai⟩:=stR hk d2 Ld2 v2 P.h s2 P.sy;have af:=((hm.same Zai hb).mt.same Zai hA).mt;have ad:w.heap.size≤w3.heap.size:=Nat.le_trans ac.size hb.size;have ag:¬(X w3.heap.size∨L.F dp w3.heap.size):=ZhM af.pool hk (.inr (.inr rfl));have ab:=Zkb af hk hf ag;have ae:Below w.heap.size w (w3.alloc (.cells (Zah dv0 dvl0 Sl.nil 0 Sl.nil 0) 43)):=(ac.trans (hb.mono ac.size)).trans (hA.mono ad);exact⟨W,ah,L,X,ab,K,d2,Ld2,v2,s2,fun k hk=>hk.elim (Zai.lt ab.pool k) (fun e=>(Zai.dev ab.pool).lt e),fun b C t fz hc ht=>ZhM ab.pool hc ht,aa,hK,(hI.keep hA).box hf ⟨_,_,_,_,_,_,hk⟩,hB,ad,fun _ e=>e.elim,ae.trans (hf.below ae.size (fun k e=>by rw [e];exact ad))⟩
theorem ZjK {w2:World}{X:Nat→Prop}(hm:Mt poM w2 mp p dp P L X):∃K:Home,(∀k,K.G k↔¬(X k∨L.F dp k))∧K.low=w2.heap.size:=
 ⟨⟨fun k=>¬(X k∨L.F dp k),w2.heap.size,fun k hk e=>by
  rcases e with e | e
  · have:=Zai.lt hm.pool k e;omega
  · have:=(Zai.dev hm.pool).lt e;omega⟩,fun k=>Iff.rfl,rfl⟩
end
theorem Zi4 {w0:World}{mp dp tot:Nat}{A:Nat→Prop}(h:Ma w0 w mp p dp gb n tot m P P A)(hE:P.D.Easy n c)(bs:List Bool)(u:Int):(P.D.crash bs (P.D.count u) 0).ss.length≤65536∧(tot≤40000→(P.D.crash bs (P.D.count u) 0).sb+65536≤900000000000):=by
 (have ab:(P.D.crash bs (P.D.count u) 0).ss=P.D.ks ++ P.D.ap.take (P.D.count u):=by rw [Ds.crash_is]);(have aa:(P.D.crash bs (P.D.count u) 0).sb=P.D.kb:=by rw [Ds.crash_is]);obtain⟨L,X,hm,K,d,Ld,v,s,h⟩:=h;refine⟨?_,fun ht=>?_⟩
 · rw [ab,List.length_append,List.length_take];have:=hE.kl;omega
 · rw [aa,h.rp.rel.kb];have:=h.rp.good.kt;omega
theorem Md.bytes {w0:World}{dp tot:Nat}{D:Ds}{Q:Po}{A:Nat→Prop}(h:Md w0 w dp gb n tot m D Q A):Bytes D.ss:=by
 obtain⟨L,hd,_⟩:=h;exact hd.byt .ss
def MaI (w:World) (mp p d gb n j:Nat) (wr:World):Prop:=∃(P:Po) (tot m:Nat),Ma w wr mp p d gb n tot m P P (fun _=>False)∧P.Fine n (600+60*j)∧tot≤3085*j∧m≤310+25*j
section
variable {w wr w' : World} {mp p d gb n j : Nat}
theorem MaI.below (h:MaI w mp p d gb n j wr):Below w.heap.size w wr:=by
 obtain⟨P,tot,m,h,_⟩:=h;exact h.below
theorem MaI.keep (h:MaI w mp p d gb n j wr)(hb:Below wr.heap.size wr w'):MaI w mp p d gb n j w':=by
 obtain⟨P,tot,m,h,r⟩:=h;exact⟨P,tot,m,h.keep hb,r⟩
end
theorem Zm9 (w:World):Bs w none 0 []:=⟨rfl,(fun x hx=>by cases hx),fun i hi=>absurd hi (Nat.not_lt_zero _)⟩
theorem Zji (h:P.Fine n c)(hb:Bytes P.D.sp)(k:Nat):Bytes (P.con k):=by
 unfold Po.con;cases e:P.m k with
 | none=>exact (hb.drop _).take _
 | some s=>exact (h.wet.sh k s e).2.2
theorem Ziy (h:P.Fine n c)(hc:c+24≤9000){g:List Im}(hb:ImB g):(if P.applyE n g=0 then P.apply n g else P).Fine n (c+24):=by
 by_cases hr:P.applyE n g=0
 · rw [if_pos hr];obtain⟨hm,ab,aa⟩:=ZgG hr;exact(h.apply hc hm hb aa).1
 · rw [if_neg hr];exact h.more (by omega) hc
theorem ZiZ (D:Ds)(k:Int):(D.arm k).sp=D.sp∧(D.arm k).ss=D.ss∧(D.arm k).sb=D.sb∧(D.arm k).gone=D.gone:=by
 unfold Ds.arm;split <;> exact ⟨rfl,rfl,rfl,rfl⟩
theorem ZoL {k:Int}(hw:(Lit.int .i64 k).wf=true):k≤9223372036854775807:=by
 simp only [Lit.wf,show IntKind.i64.min = -9223372036854775808 by decide,show IntKind.i64.max=9223372036854775807 by decide,Bool.and_eq_true,decide_eq_true_eq] at hw;exact hw.2
theorem Zlr (h:P.Fine n c)(k:Int)(hk:k≤9223372036854775807):({ P with D:=P.D.arm k }:Po).Fine n c:=by
 obtain⟨a1,a2,a3,a4⟩:=ZiZ P.D k;exact⟨h.ok.dev a1 _,⟨h.wet.dev.arm k hk,h.wet.sh⟩,h.cap,by show (P.D.arm k).ss.length≤_;rw [a2];exact h.ss⟩
structure Tl (w:World) (wc:World) (mp p d gb n:Nat) (dv:Dv) (Ld:DvL) (B:Int) (XS XP:List Nat) (na nu:Nat):Prop where
  ld:(Instr.loadAt 37 (.pointer (some ⟨gb,0,none⟩))).run Tryz.prog wc=.ok (dv.val Ld) wc
  st:∀w',Below wc.heap.size wc w'→Calls Tryz.prog 29 #[at0 d] w' fun e w2=>Below w'.heap.size w' w2∧∃s:Sl,e=.returned (.tuple #[.int .i64 B,s.val])∧Own 5 1 w2 s (vals XS)∧s.len=XS.length∧∀k,s.blk=some k→w'.heap.size≤k
  pe:∀w',Below wc.heap.size wc w'→Calls Tryz.prog 30 #[at0 d] w' fun e w2=>Below w'.heap.size w' w2∧e=.returned (.tuple #[.int .i64 ((na:Nat):Int),.int .i64 ((nu:Nat):Int)])
  pa:∀w',Below wc.heap.size wc w'→Calls Tryz.prog 33 #[at0 mp] w' fun e w2=>e=.returned (.int .i64 ((n:Nat):Int))∧w2=w'
  le:∀w',Below wc.heap.size wc w'→Calls Tryz.prog 32 #[at0 mp] w' fun e w2=>e=.returned (.int .i64 (65536-((XS.length:Nat):Int)))∧Below w'.heap.size w' w2
  re:∀w',Below wc.heap.size wc w'→∀k,k<n→Calls Tryz.prog 34 #[at0 d,.int .i64 ((k:Nat):Int)] w' fun e w2=>Below w'.heap.size w' w2∧∃s:Sl,e=.returned (.tuple #[s.val,.int .i64 0])∧Own 5 1 w2 s (vals ((XP.drop (512*k)).take 512))∧s.len=512∧∀k,s.blk=some k→w'.heap.size≤k
  rp:∀w',Below wc.heap.size wc w'→Calls Tryz.prog 31 #[dv.val Ld] w' fun e w2=>Below w'.heap.size w' w2∧e=.returned (.tuple #[.int .i64 ((na:Nat):Int),.int .i64 ((nu:Nat):Int)])
  lp:∀w',Below wc.heap.size wc w'→(Instr.loadAt 37 (.pointer (some ⟨gb,0,none⟩))).run Tryz.prog w'=.ok (dv.val Ld) w'
  xs:Bs wc Ld.ns.a Ld.ns.len XS
  xp:Bs wc Ld.np.a Ld.np.len XP
  le1:Ld.np.len≤Ld.np.cap
  ln:Ld.np.len=512*n
  bys:Bytes XS
  byp:Bytes XP
  ba:dv.now.base=B
  sl:XS.length≤40000
theorem MaI.tl {wc:World}{mp d j:Nat}(h:MaI w mp p d gb n (j+1) wc)(hj:j<12):∃dv Ld B XS XP na nu,Tl w wc mp p d gb n dv Ld B XS XP na nu:=by
 obtain⟨P,tot,m,⟨L,X,ae,K,dv,Ld,v,s,hp⟩,hF,ak,hm⟩:=h;(have ht:tot≤40000:=by omega);(have ao:m≤900:=by omega);have S:=Zai;have af:=hF.wet.dev.n1;have ac:=hF.wet.dev.n2;have hI:=hp.rp;have hr:=hI.rel;have g:=hI.good;have hd:=hI.dv;have aa:=hr.sane g ht (by omega) af ac;have ad:=aa.sp;have ah:dv.done.length≤1000:=by
  have h1:=g.len;(have e:dv.abs.done.length=dv.done.length:=by show (dv.done.map _).length=_;rw [List.length_map]);omega
 have al:P.D.units=pendB (dv.done.map (·.u)):=by
  (have:P.D.units=pendB dv.abs.done:=by unfold Ds.units;rw [hr.ap,hr.tr,ZdN]);exact this
 have am:P.D.wr.length=pendA (dv.done.map (·.u)):=by
  (have:P.D.wr.length=pendA dv.abs.done:=by rw [hr.wr,ZfC]);exact this
 have aq:P.D.units≤1000000:=by
  have h1:=aa.ks;have h2:=aa.tl;have h3:=g.kt;(have h4:P.D.ap.length≤40000:=by rw [hr.ap];omega);unfold Ds.units;omega
 (have ai:P.D.ss.length≤40000:=by rw [hr.ss];have:=g.nt;omega);(have ab:dv.now.base=(P.D.sb:Int):=by have h1:=hr.sb;have h2:=g.nb0;have e:dv.abs.now.base=dv.now.base:=rfl;rw [e] at h1 h2;omega);have aj:dv.now.st=P.D.ss:=hr.ss.symm;have ag:dv.now.pg=P.D.sp:=hr.sp.symm;have an:∀x∈P.D.wr,x.b.length=128:=fun x hx=>(aa.wr x hx).len;have hM:∀w',Below wc.heap.size wc w'→Mt poM w' mp p d P L X:=fun w' hb=>(ae.same Zai hb).mt;refine⟨dv,Ld,(P.D.sb:Int),P.D.ss,P.D.sp,P.D.wr.length,P.D.units,ldRD hp.box,fun w' hb=>ZbM w' d P.D L (S.dev (hM w' hb).pool) n ad ac af (by omega),fun w' hb=>Zha w' d P.D L (S.dev (hM w' hb).pool) n ad ac af (by omega) an,fun w' hb=>Zd2 Zai (hM w' hb) ad ac,fun w' hb=>ZjR Zai (hM w' hb) hF,fun w' hb k hk=>ZhP w' d P.D L (S.dev (hM w' hb).pool) n ad ac k hk,fun w' hb=>?_,fun w' hb=>ldRD (hp.box.below hb),by rw [← aj];exact hd.now.st.bs,by rw [← ag];exact hd.now.pg.bs,hd.now.pg.le,?_,(S.dev ae.pool).byt .ss,(S.dev ae.pool).byt .sp,ab,ai⟩
 · have:=ZeL dv Ld w' (hd.keep hb (Nat.le_refl _)) ah (by omega);rw [← al,← am] at this;exact this
 · rw [← hd.now.pg.len,ag,ad]
end Go.Proofs.YtpnlebpnhmibfaaGreat
