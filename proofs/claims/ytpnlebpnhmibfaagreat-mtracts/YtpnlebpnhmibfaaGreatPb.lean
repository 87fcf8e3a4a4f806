/-
  Lemmas.
-/
import Derived.Test.YtpnlebpnhmibfaaGreatPa
namespace Go.Proofs.YtpnlebpnhmibfaaGreat
open Go.RowKit
set_option linter.unusedVariables false
set_option maxRecDepth 100000
set_option maxHeartbeats 4000000
variable {w W wr:World}{g n tot m:Nat}{s v t:Sl}{x z:SS}{d:Dv}{Ld L:DvL}{h sy:Int}{A:Act}{l:List SS}{P:Po}
variable {K : Home}
theorem ZmM (g:Nat)(w:World):(Instr.fieldAt 43 (.pointer (some ⟨g,0,none⟩)) 2).run Tryz.prog w=.ok (.pointer (some ⟨g,11,none⟩)) w:=by simp [go_sem,Instr.fieldAt]
theorem Zlo (p o:Nat)(w:World):(Instr.fieldAt 115 (.pointer (some ⟨p,o,none⟩)) 0).run Tryz.prog w=.ok (.pointer (some ⟨p,o,none⟩)) w:=by simp [go_sem,Instr.fieldAt]
theorem ixSh (b o len cap k:Nat)(hk:k<len)(w:World):(Instr.indexAt 41 (.slice (some ⟨b,o,none⟩) len cap) (.int .i64 (k:Int))).run Tryz.prog w=.ok (.pointer (some ⟨b,o+k*4,none⟩)) w:=by
 (have h1:¬((k:Int)<0):=by omega);(have h2:(k:Int).toNat=k:=by omega);simp [go_sem,Instr.indexAt,Int.toNat_natCast,hk]
theorem ldSh (b o:Nat)(a:Option Addr)(l c:Nat)(w:World)(h:w.cell? ⟨b,o,none⟩=some (.slice a l c)):(Instr.loadAt 41 (.pointer (some ⟨b,o,none⟩))).run Tryz.prog w=.ok (.slice a l c) w:=by simp [go_sem,h]
theorem geqI (a b:Int)(x y:Operand)(w:World):(do eqGuard .geq 3 x y (.int .i64 a) (.int .i64 b);binOp .geq 3 (.int .i64 a) (.int .i64 b):Sem Value).run Tryz.prog w=.ok (.bool (decide (b≤a))) w:=by simp [go_sem,eqGuard]
theorem neqI (a b:Int)(x y:Operand)(w:World):(do eqGuard .neq 3 x y (.int .i64 a) (.int .i64 b);binOp .neq 3 (.int .i64 a) (.int .i64 b):Sem Value).run Tryz.prog w=.ok (.bool (a != b)) w:=by simp [go_sem,eqGuard]
theorem Zpr (w:World)(g gx b off sl sc j:Nat)(x y:Int)(hj:j<sl)(h0:(fun (w':World)=>w'.cell? ⟨g,11,none⟩=some (.slice (some ⟨b,off,none⟩) sl sc)∧w'.cell? ⟨b,off+j*4,none⟩=some (.int .i64 y)∧w'.cell? ⟨gx,0,none⟩=some (.int .i64 x)) w)
    {Q:Exit→Act→World→Prop}(ac:A.tmps.size=59)(ab:A.defers=[])(s2:A.tmps.getD 2 undef=.pointer (some ⟨g,0,none⟩))(s3:A.tmps.getD 3 undef=.pointer (some ⟨gx,0,none⟩))(s6:A.tmps.getD 6 undef=.bool false)(s7:A.tmps.getD 7 undef=.int .i64 (j:Int))
    (hend:∀(u:Nat→Value) w',w'=w.drew→Q .normal ((((((((((((((A).put (some 16) (u 16)).put (some 17) (u 17)).put (some 18) (u 18)).put (some 19) (u 19)).put (some 20) (u 20)).put (some 21) (u 21)).put (some 22) (u 22)).put (some 23) (u 23)).put (some 24) (u 24)).put (some 25) (u 25)).put (some 26) (u 26)).put (some 27) (u 27)).put (some 28) (.bool (decide (x≤y)))) w') :
    (Code.region 6 (Pl.find 6 ((Tryz.f96.body).getD .skip)) true).wp Tryz.prog Q A w:=by
  have aa:=(show (fun w'=>w'.cell? ⟨g,11,none⟩=some (.slice (some ⟨b,off,none⟩) sl sc)∧w'.cell? ⟨b,off+j*4,none⟩=some (.int .i64 y)∧w'.cell? ⟨gx,0,none⟩=some (.int .i64 x)) w.drew from h0);have hA:=Pl.At.same (v:=.int .i64 (j:Int)) (d:=7) (Pl.At.same (v:=.bool false) (d:=6) (Pl.At.same (v:=.pointer (some ⟨gx,0,none⟩)) (d:=3) (Pl.At.same (v:=.pointer (some ⟨g,0,none⟩)) (d:=2) (Pl.At.here ac ab) s2) s3) s6) s7;refine Pl.qa (S:=fun w'=>w'.cell? ⟨g,11,none⟩=some (.slice (some ⟨b,off,none⟩) sl sc)∧w'.cell? ⟨b,off+j*4,none⟩=some (.int .i64 y)∧w'.cell? ⟨gx,0,none⟩=some (.int .i64 x)) hA aa ?_;rw [show (Pl.find 6 ((Tryz.f96.body).getD .skip)).size=13 by kernel_rfl];refine Pl.q1 0 16 (.bool false) (Pl.q0) (Pl.q2 (.tmp 6)) aa ?_;refine Pl.q1 1 17 (.bool true) (Pl.q0) (Pl.q_40 4 (.tmp 16) false) aa ?_;refine Pl.q1 2 18 (.bool true) (Pl.q0) (Pl.q2 (.tmp 17)) aa ?_;refine Pl.q1 3 19 (.pointer (some ⟨g,11,none⟩)) (Pl.q3 2 18 true) (Pl.q4 43 (.tmp 2) 2 (ZmM g)) aa ?_;refine Pl.q1 4 20 (.slice (some ⟨b,off,none⟩) sl sc) (Pl.q3 2 18 true) (Pl.q6 41 (.tmp 19) (fun w' hS=>ldSh g 11 _ _ _ w' hS.1)) aa ?_;refine Pl.q1 5 21 (.int .i64 (j:Int)) (Pl.q3 2 18 true) (Pl.q2 (.tmp 7)) aa ?_;refine Pl.q1 6 22 (.pointer (some ⟨b,off+j*4,none⟩)) (Pl.q3 2 18 true) (Pl.qj 41 (.tmp 20) (.tmp 21) (ixSh b off sl sc j hj)) aa ?_;refine Pl.q1 7 23 (.pointer (some ⟨b,off+j*4,none⟩)) (Pl.q3 2 18 true) (Pl.q4 115 (.tmp 22) 0 (Zlo b (off+j*4))) aa ?_;refine Pl.q1 8 24 (.int .i64 y) (Pl.q3 2 18 true) (Pl.q6 3 (.tmp 23) (fun w' hS=>ldInt b _ _ w' hS.2.1)) aa ?_;refine Pl.q1 9 25 (.pointer (some ⟨gx,0,none⟩)) (Pl.q3 2 18 true) (Pl.q4 115 (.tmp 3) 0 (Zlo gx 0)) aa ?_;refine Pl.q1 10 26 (.int .i64 x) (Pl.q3 2 18 true) (Pl.q6 3 (.tmp 25) (fun w' hS=>ldInt gx 0 _ w' hS.2.2)) aa ?_;refine Pl.q1 11 27 (.bool (decide (x≤y))) (Pl.q3 2 18 true) (Pl.q9 .geq 3 3 (.tmp 24) (.tmp 26) (.int .i64 y) (.int .i64 x) (fun w=>geqI y x _ _ w)) aa ?_;refine Pl.q1 12 28 (.bool (decide (x≤y))) (Pl.q0) (Pl.qy (.tmp 18) (.tmp 27) (.const (.bool false))) aa ?_;refine Pl.q7 (fun A' hA'=>?_);rw [Pl.At.ext hA' (((((((((((((hA.put 16 _).put 17 _).put 18 _).put 19 _).put 20 _).put 21 _).put 22 _).put 23 _).put 24 _).put 25 _).put 26 _).put 27 _).put 28 _)];exact hend hA'.fn _ rfl
theorem Zo5 (w:World)
    {Q:Exit→Act→World→Prop}(ab:A.tmps.size=59)(aa:A.defers=[])(s6:A.tmps.getD 6 undef=.bool true)
    (hend:∀(u:Nat→Value) w',w'=w.drew→Q .normal ((((((((((((((A).put (some 16) (u 16)).put (some 17) (u 17)).put (some 18) (u 18)).put (some 19) (u 19)).put (some 20) (u 20)).put (some 21) (u 21)).put (some 22) (u 22)).put (some 23) (u 23)).put (some 24) (u 24)).put (some 25) (u 25)).put (some 26) (u 26)).put (some 27) (u 27)).put (some 28) (.bool false)) w') :
    (Code.region 6 (Pl.find 6 ((Tryz.f96.body).getD .skip)) true).wp Tryz.prog Q A w:=by
  have hA:=Pl.At.same (v:=.bool true) (d:=6) (Pl.At.here ab aa) s6;refine Pl.qa (S:=fun _=>True) hA trivial ?_;rw [show (Pl.find 6 ((Tryz.f96.body).getD .skip)).size=13 by kernel_rfl];refine Pl.q1 0 16 (.bool true) (Pl.q0) (Pl.q2 (.tmp 6)) trivial ?_;refine Pl.q1 1 17 (.bool false) (Pl.q0) (Pl.q_40 4 (.tmp 16) true) trivial ?_;refine Pl.q1 2 18 (.bool false) (Pl.q0) (Pl.q2 (.tmp 17)) trivial ?_;refine Pl.q5 3 19 (Pl.qb 2 18 true) trivial ?_;refine Pl.q5 4 20 (Pl.qb 2 18 true) trivial ?_;refine Pl.q5 5 21 (Pl.qb 2 18 true) trivial ?_;refine Pl.q5 6 22 (Pl.qb 2 18 true) trivial ?_;refine Pl.q5 7 23 (Pl.qb 2 18 true) trivial ?_;refine Pl.q5 8 24 (Pl.qb 2 18 true) trivial ?_;refine Pl.q5 9 25 (Pl.qb 2 18 true) trivial ?_;refine Pl.q5 10 26 (Pl.qb 2 18 true) trivial ?_;refine Pl.q5 11 27 (Pl.qb 2 18 true) trivial ?_;refine Pl.q1 12 28 (.bool false) (Pl.q0) (Pl.qs (.tmp 18) (.tmp 27) (.const (.bool false))) trivial ?_;refine Pl.q7 (fun A' hA'=>?_);rw [Pl.At.ext hA' (((((((((((((hA.put 16 _).put 17 _).put 18 _).put 19 _).put 20 _).put 21 _).put 22 _).put 23 _).put 24 _).put 25 _).put 26 _).put 27 _).put 28 _)];exact hend hA'.fn _ rfl
theorem set9 (w:World)(g gx b off sl sc j:Nat)(x y:Int)(hj:j<sl)(h0:(fun (w':World)=>w'.cell? ⟨g,11,none⟩=some (.slice (some ⟨b,off,none⟩) sl sc)∧w'.cell? ⟨b,off+j*4,none⟩=some (.int .i64 y)∧w'.cell? ⟨gx,0,none⟩=some (.int .i64 x)) w)
    {Q:Exit→Act→World→Prop}(ac:A.tmps.size=59)(ab:A.defers=[])(s2:A.tmps.getD 2 undef=.pointer (some ⟨g,0,none⟩))(s3:A.tmps.getD 3 undef=.pointer (some ⟨gx,0,none⟩))(s7:A.tmps.getD 7 undef=.int .i64 (j:Int))
    (hend:∀(u:Nat→Value) w',w'=w.drew→Q .normal ((((((((((A).put (some 33) (u 33)).put (some 34) (u 34)).put (some 35) (u 35)).put (some 36) (u 36)).put (some 37) (u 37)).put (some 38) (u 38)).put (some 39) (u 39)).put (some 40) (u 40)).put (some 41) (.bool (y != x))) w') :
    (Code.region 9 (Pl.find 9 ((Tryz.f96.body).getD .skip)) true).wp Tryz.prog Q A w:=by
  have aa:=(show (fun w'=>w'.cell? ⟨g,11,none⟩=some (.slice (some ⟨b,off,none⟩) sl sc)∧w'.cell? ⟨b,off+j*4,none⟩=some (.int .i64 y)∧w'.cell? ⟨gx,0,none⟩=some (.int .i64 x)) w.drew from h0);have hA:=Pl.At.same (v:=.int .i64 (j:Int)) (d:=7) (Pl.At.same (v:=.pointer (some ⟨gx,0,none⟩)) (d:=3) (Pl.At.same (v:=.pointer (some ⟨g,0,none⟩)) (d:=2) (Pl.At.here ac ab) s2) s3) s7;refine Pl.qa (S:=fun w'=>w'.cell? ⟨g,11,none⟩=some (.slice (some ⟨b,off,none⟩) sl sc)∧w'.cell? ⟨b,off+j*4,none⟩=some (.int .i64 y)∧w'.cell? ⟨gx,0,none⟩=some (.int .i64 x)) hA aa ?_;rw [show (Pl.find 9 ((Tryz.f96.body).getD .skip)).size=9 by kernel_rfl];refine Pl.q1 0 33 (.pointer (some ⟨g,11,none⟩)) (Pl.q0) (Pl.q4 43 (.tmp 2) 2 (ZmM g)) aa ?_;refine Pl.q1 1 34 (.slice (some ⟨b,off,none⟩) sl sc) (Pl.q0) (Pl.q6 41 (.tmp 33) (fun w' hS=>ldSh g 11 _ _ _ w' hS.1)) aa ?_;refine Pl.q1 2 35 (.int .i64 (j:Int)) (Pl.q0) (Pl.q2 (.tmp 7)) aa ?_;refine Pl.q1 3 36 (.pointer (some ⟨b,off+j*4,none⟩)) (Pl.q0) (Pl.qj 41 (.tmp 34) (.tmp 35) (ixSh b off sl sc j hj)) aa ?_;refine Pl.q1 4 37 (.pointer (some ⟨b,off+j*4,none⟩)) (Pl.q0) (Pl.q4 115 (.tmp 36) 0 (Zlo b (off+j*4))) aa ?_;refine Pl.q1 5 38 (.int .i64 y) (Pl.q0) (Pl.q6 3 (.tmp 37) (fun w' hS=>ldInt b _ _ w' hS.2.1)) aa ?_;refine Pl.q1 6 39 (.pointer (some ⟨gx,0,none⟩)) (Pl.q0) (Pl.q4 115 (.tmp 3) 0 (Zlo gx 0)) aa ?_;refine Pl.q1 7 40 (.int .i64 x) (Pl.q0) (Pl.q6 3 (.tmp 39) (fun w' hS=>ldInt gx 0 _ w' hS.2.2)) aa ?_;refine Pl.q1 8 41 (.bool (y != x)) (Pl.q0) (Pl.q9 .neq 3 3 (.tmp 38) (.tmp 40) (.int .i64 y) (.int .i64 x) (fun w=>neqI y x _ _ w)) aa ?_;refine Pl.q7 (fun A' hA'=>?_);rw [Pl.At.ext hA' (((((((((hA.put 33 _).put 34 _).put 35 _).put 36 _).put 37 _).put 38 _).put 39 _).put 40 _).put 41 _)];exact hend hA'.fn _ rfl
def stS (x:SS) (a:List SS × Bool) (y:SS):List SS × Bool:=(fun (b:List SS × Bool)=>if y.1.1≠x.1.1 then (b.1 ++ [y],b.2) else b) (if a.2=false∧x.1.1≤y.1.1 then (a.1 ++ [x],true) else a)
def finS (x:SS) (a:List SS × Bool):List SS:=if a.2=false then a.1 ++ [x] else a.1
theorem Zdr (x:SS):∀(ls:List SS)(acc:List SS),(ls.foldl (stS x) (acc,true)).2=true∧(ls.foldl (stS x) (acc,true)).1.map Prod.fst=acc.map Prod.fst ++ (ls.map Prod.fst).filter (fun z=>decide (z.1≠x.1.1))
 | [],acc=>⟨rfl,by simp⟩
 | y :: r,acc=>by
  rw [List.foldl_cons]
  have e:stS x (acc,true) y=if y.1.1≠x.1.1 then (acc ++ [y],true) else (acc,true):=by simp [stS]
  rw [e]
  by_cases h:y.1.1≠x.1.1
  · rw [if_pos h]
    obtain⟨h1,h2⟩:=Zdr x r (acc ++ [y])
    refine⟨h1,?_⟩
    rw [h2]
    simp [h]
  · rw [if_neg h]
    obtain⟨h1,h2⟩:=Zdr x r acc
    refine⟨h1,?_⟩
    rw [h2]
    simp at h
    simp [h]
theorem Zk6 (x:SS):∀(ls:List SS)(acc:List SS),(finS x (ls.foldl (stS x) (acc,false))).map Prod.fst=acc.map Prod.fst ++ setL (ls.map Prod.fst) x.1
 | [],acc=>by simp [finS,setL]
 | y :: r,acc=>by
  rw [List.foldl_cons]
  by_cases h:x.1.1≤y.1.1
  · have e:stS x (acc,false) y=if y.1.1≠x.1.1 then (acc ++ [x] ++ [y],true) else (acc ++ [x],true):=by simp [stS,h]
    rw [e]
    have hs:setL ((y :: r).map Prod.fst) x.1=x.1 :: ((y :: r).map Prod.fst).filter (fun z=>decide (z.1≠x.1.1)):=by
     show (if x.1.1≤y.1.1 then _ else _)=_;rw [if_pos h];rfl
    rw [hs];by_cases h2:y.1.1≠x.1.1
    · rw [if_pos h2];obtain⟨q1,q2⟩:=Zdr x r (acc ++ [x] ++ [y]);unfold finS;rw [if_neg (by rw [q1];decide),q2];simp [h2]
    · rw [if_neg h2];obtain⟨q1,q2⟩:=Zdr x r (acc ++ [x]);unfold finS;rw [if_neg (by rw [q1];decide),q2];simp at h2;simp [h2]
  · (have aa:y.1.1≠x.1.1:=by omega);(have e:stS x (acc,false) y=(acc ++ [y],false):=by simp [stS,h,aa]);rw [e,Zk6 x r (acc ++ [y])];have hs:setL ((y :: r).map Prod.fst) x.1=y.1 :: setL (r.map Prod.fst) x.1:=by
     show (if x.1.1≤y.1.1 then _ else _)=_;rw [if_neg h]
    rw [hs];simp
theorem Zn8 (x y:SS)(a:List SS × Bool)(z:SS)(h:z∈(stS x a y).1):z∈a.1∨z=x∨z=y:=by
 unfold stS at h;by_cases h1:a.2=false∧x.1.1≤y.1.1
 · rw [if_pos h1] at h;by_cases h2:y.1.1≠x.1.1
   · simp only at h;rw [if_pos h2] at h;simp at h;first | exact .inl h | (rcases h with h | h | h <;> first | exact .inl h | exact .inr (.inl h) | exact .inr (.inr h)) | (rcases h with h | h <;> first | exact .inl h | exact .inr (.inl h) | exact .inr (.inr h))
   · simp only at h;rw [if_neg h2] at h;simp at h;first | exact .inl h | (rcases h with h | h | h <;> first | exact .inl h | exact .inr (.inl h) | exact .inr (.inr h)) | (rcases h with h | h <;> first | exact .inl h | exact .inr (.inl h) | exact .inr (.inr h))
 · rw [if_neg h1] at h;by_cases h2:y.1.1≠x.1.1
   · simp only at h;rw [if_pos h2] at h;simp at h;first | exact .inl h | (rcases h with h | h | h <;> first | exact .inl h | exact .inr (.inl h) | exact .inr (.inr h)) | (rcases h with h | h <;> first | exact .inl h | exact .inr (.inl h) | exact .inr (.inr h))
   · simp only at h;rw [if_neg h2] at h;first | exact .inl h | (rcases h with h | h | h <;> first | exact .inl h | exact .inr (.inl h) | exact .inr (.inr h)) | (rcases h with h | h <;> first | exact .inl h | exact .inr (.inl h) | exact .inr (.inr h))
theorem ZhW (x:SS):∀(ls:List SS)(a:List SS × Bool)(z:SS),z∈(ls.foldl (stS x) a).1→z∈a.1∨z=x∨z∈ls
 | [],a,z,h=>.inl h
 | y :: r,a,z,h=>by
  rw [List.foldl_cons] at h
  rcases ZhW x r _ z h with h | h | h
  · rcases Zn8 x y a z h with h | h | h
    · exact .inl h
    · exact .inr (.inl h)
    · exact .inr (.inr (by simp [h]))
  · exact .inr (.inl h)
  · exact .inr (.inr (by simp [h]))
theorem Zn7 (x y:SS)(a:List SS × Bool):(stS x a y).1.length≤a.1.length+2:=by
 unfold stS;by_cases h1:a.2=false∧x.1.1≤y.1.1
 · rw [if_pos h1];simp only;split <;> simp
 · rw [if_neg h1];simp only;split <;> simp
theorem ZfH (x:SS):∀(ls:List SS)(a:List SS × Bool),(ls.foldl (stS x) a).1.length≤a.1.length+2*ls.length
 | [],a=>by simp
 | y :: r,a=>by
  rw [List.foldl_cons,List.length_cons]
  have:=ZfH x r (stS x a y)
  have:=Zn7 x y a
  omega
def XBlk (w:World) (g:Nat) (x:SS):Prop:=w.heap[g]? = some (.cells (SS.cells x).toArray 115 (0,0))
theorem XBlk.c0 (h:XBlk w g x):w.cell? ⟨g,0,none⟩=some (.int .i64 (x.1.1:Int)):=(Addr.cell0 h).trans rfl
theorem XBlk.c1 (h:XBlk w g x):w.cell? ⟨g,1,none⟩=some (.slice x.2.a x.2.len x.2.cap):=(Addr.cell0 h).trans rfl
theorem XBlk.c2 (h:XBlk w g x):w.cell? ⟨g,2,none⟩=some (.bool x.1.2.dirty):=(Addr.cell0 h).trans rfl
theorem XBlk.c3 (h:XBlk w g x):w.cell? ⟨g,3,none⟩=some (.int .i64 x.1.2.place):=(Addr.cell0 h).trans rfl
theorem XBlk.fz (h:XBlk w g x)(o:Nat):w.frozen? ⟨g,o,none⟩=false:=frozen_of_row w g _ _ 115 h
theorem XBlk.lt (h:XBlk w g x):g<w.heap.size:=(Array.getElem?_eq_some_iff.1 h).1
theorem XBlk.frm {w':World}{F:Nat→Prop}(h:XBlk w g x)(hf:Frm F w w')(hF:¬F g):XBlk w' g x:=(hf.block g h.lt hF).trans h
structure St (w wr:World) (x:SS) (t:Sl) (l:List SS) (d:Dv) (Ld:DvL) (v:Sl) (h:Int) (s:Sl) (sy:Int):Prop where
  o:Bd4 w wr (w.heap.size+2) t l
  rx:Rx w wr (w.heap.size+2) d Ld v h s sy
  b:XBlk wr (w.heap.size+1) x
theorem St.room (st:St w wr x t l d Ld v h s sy):w.heap.size+2<wr.heap.size:=by
 obtain⟨_,_,_,_,_,_,k⟩:=st.rx.ans;exact k.lt
theorem St.app (st:St w wr x t l d Ld v h s sy)(z:SS)(hl:l.length+1≤1000000) :
    ∃t' W',(∀ty,(Builtin.append_ #[41,41] ty #[t.val,.slice (some ⟨wr.heap.size,0,none⟩) 1 1]).run Tryz.prog (wr.alloc (.cells (SS.cells z).toArray 115))=.ok t'.val W')∧St w W' x t' (l ++ [z]) d Ld v h s sy:=by
  obtain⟨t',W',aa,hB,ab⟩:=st.o.app st.room z hl;exact⟨t',W',aa,hB,st.rx.other ab (fun k hk=>st.o.far k hk),st.b.frm ab (fun e=>by have:=st.o.far _ e;omega)⟩
theorem St.drew (st:St w wr x t l d Ld v h s sy):St w wr.drew x t l d Ld v h s sy:=
 ⟨st.o.keep (fun _ _=>rfl),st.rx.keep (Zad wr),st.b⟩
theorem Zdp {l : List (Nat × Sh)} (hs : ShRow K w s l) (hl : l.length ≤ 1000) (d : Dv) (Ld : DvL) (v : Sl) (h : Int) (sy : Int) (x : SS) (hx : BsS K w x.2 x.1.2.b) (hx2 : x.2.len = 512) : Calls Tryz.prog 96 #[rV d Ld v h s sy, SS.val x] w fun e w' => Below w.heap.size w w' ∧ ∃ s', e = .returned (rV d Ld v h s' sy) ∧ ShRow K w' s' (setL l x.1) := by
  obtain ⟨ls, rfl, hc, hz⟩ := hs;obtain ⟨W0, hW0⟩ : ∃ W, W = (((w.alloc (.cells (Zah d Ld v h s sy) 43)).alloc (.cells (SS.cells x).toArray 115)).alloc (.cells (Zah dv0 dvl0 Sl.nil 0 Sl.nil 0) 43)) := ⟨_, rfl⟩;(have hX : Rx w W0 (w.heap.size + 2) d Ld v h s sy := by rw [hW0]; exact Zn1 w _ d Ld v h s sy);(have hs0 : W0.heap.size = w.heap.size + 3 := by rw [hW0]; simp);have hXB0 : XBlk W0 (w.heap.size + 1) x := by
    rw [hW0];have h1 := heap_alloc_new (w.alloc (.cells (Zah d Ld v h s sy) 43)) (.cells (SS.cells x).toArray 115);rw [show (w.alloc (.cells (Zah d Ld v h s sy) 43)).heap.size = w.heap.size + 1 by simp] at h1;exact ((Zaa _ _).block _ (by simp)).trans h1
  obtain ⟨W1, hW1⟩ : ∃ W, W = W0.alloc (.cells #[] 115) := ⟨_, rfl⟩;(have hA1 : Below W0.heap.size W0 W1 := by rw [hW1]; exact Zaa W0 _);have hST : St w W1 x ⟨some ⟨w.heap.size + 3, 0, none⟩, 0, 0⟩ [] d Ld v h s sy := by
    refine ⟨⟨?_, fun k hk => ?_⟩, hX.keep hA1, (hA1.block _ (by omega)).trans hXB0⟩
    · rw [hW1, ← hs0]; exact OwnT.new W0
    · (have : w.heap.size + 3 = k := by simpa [Sl.blk] using hk);omega
  have HST := hide hST;have HZ := hide hz;have HC := hide hc;have HX := hide hx;have HX2 := hide hx2;have hlen := hc.len;rw [List.length_map] at hl;have HLS := hide hl;rw [hW0, Zb9] at hW1;have HW1 := hide hW1;clear hX hA1 hST hz hc hW0 hW1 hXB0 hx hx2 hs0;obtain ⟨sa, sl, sc⟩ := s;simp only at hlen;have HL : Hid (ls.length = sl) := hlen;(have hsb : sl ≤ 1000 := by omega);clear hlen hl;obtain ⟨⟨xk, xs⟩, ⟨xa, xl, xc⟩⟩ := x;simp only [SS.cells, Sl.val] at HW1;unfold rV;simp only [SS.val, SS.cells, Sl.val];go_enter Tryz.func96, Tryz.ntmps96;go_wp2_with fail;rw [← HW1.out];go_loopw [5, 6, 7] (fun t5 t6 i wr => ∃ (j : Nat) (t : Sl), j ≤ sl ∧ i = .int .i64 j ∧ t5 = .slice t.a t.len t.cap ∧ t6 = .bool ((ls.take j).foldl (stS ((xk, xs), ⟨xa, xl, xc⟩)) ([], false)).2 ∧ Hid (St w wr ((xk, xs), ⟨xa, xl, xc⟩) t ((ls.take j).foldl (stS ((xk, xs), ⟨xa, xl, xc⟩)) ([], false)).1 d Ld v h ⟨sa, sl, sc⟩ sy)) (fun _ _ i _ => sl - (intOf i).toNat)
  case atStart => exact ⟨0, ⟨some ⟨w.heap.size + 3, 0, none⟩, 0, 0⟩, by omega, rfl, rfl, rfl, HST⟩
  case round =>
    obtain ⟨j, ⟨ta, tl, tc⟩, hj, rfl, rfl, rfl, hS⟩ := hrel;simp only at *;by_cases hlt : j < sl
    · (have hjl : j < ls.length := by rw [HL.out]; exact hlt);have c11 := hS.out.rx.b.c11;simp only [Sl.val] at c11;(have i1 : (j : Int) < (sl : Int) := by omega);have hcr := HC.out.keep hS.out.rx.e;obtain ⟨b, off, ha, k0, k1, k2, k3, _⟩ := hcr.at_ j ls[j] (List.getElem?_eq_getElem hjl);simp only at ha;subst ha;have htk : (ls.take (j + 1)).foldl (stS ((xk, xs), ⟨xa, xl, xc⟩)) ([], false) = stS ((xk, xs), ⟨xa, xl, xc⟩) ((ls.take j).foldl (stS ((xk, xs), ⟨xa, xl, xc⟩)) ([], false)) ls[j] := by
        rw [List.take_succ_eq_append_getElem hjl, List.foldl_append];rfl
      have hal := ZfH ((xk, xs), ⟨xa, xl, xc⟩) (ls.take j) ([], false);rw [List.length_take] at hal;simp only [List.length_nil, Nat.zero_add] at hal;(have hroom : ((ls.take j).foldl (stS ((xk, xs), ⟨xa, xl, xc⟩)) ([], false)).1.length + 2 ≤ 1000000 := by have := HLS.out; omega);have HF : Hid (∀ U t' l', St w U ((xk, xs), ⟨xa, xl, xc⟩) t' l' d Ld v h ⟨some ⟨b, off, none⟩, sl, sc⟩ sy → (U.cell? ⟨w.heap.size, 11, none⟩ = some (.slice (some ⟨b, off, none⟩) sl sc) ∧ U.cell? ⟨b, off + j * 4, none⟩ = some (.int .i64 ((ls[j].1.1 : Nat) : Int)) ∧ U.cell? ⟨w.heap.size + 1, 0, none⟩ = some (.int .i64 (xk : Int))) ∧ (U.cell? ⟨b, off + j * 4 + 1, none⟩ = some (.slice ls[j].2.a ls[j].2.len ls[j].2.cap) ∧ U.cell? ⟨b, off + j * 4 + 2, none⟩ = some (.bool ls[j].1.2.dirty) ∧ U.cell? ⟨b, off + j * 4 + 3, none⟩ = some (.int .i64 ls[j].1.2.place)) ∧ (U.cell? ⟨w.heap.size + 1, 1, none⟩ = some (.slice xa xl xc) ∧ U.cell? ⟨w.heap.size + 1, 2, none⟩ = some (.bool xs.dirty) ∧ U.cell? ⟨w.heap.size + 1, 3, none⟩ = some (.int .i64 xs.place))) := by
        intro U t' l' st;obtain ⟨b', off', ha', q0, q1, q2, q3, _⟩ := (HC.out.keep st.rx.e).at_ j ls[j] (List.getElem?_eq_getElem hjl);cases ha';exact ⟨⟨st.rx.b.c11, q0, st.b.c0⟩, ⟨q1, q2, q3⟩, ⟨st.b.c1, st.b.c2, st.b.c3⟩⟩
      have HTK := hide htk;have HROOM := hide hroom;clear htk hroom hal k0 k1 k2 k3 hcr c11;generalize hst : (ls.take j).foldl (stS ((xk, xs), ⟨xa, xl, xc⟩)) ([], false) = st at *;clear hst;obtain ⟨acc, p⟩ := st;have hzn : ∃ z, z = ls[j] := ⟨_, rfl⟩;obtain ⟨z, hzz⟩ := hzn;rw [← hzz] at HF HTK;obtain ⟨⟨yk, ys⟩, ⟨ya, yl, yc⟩⟩ := z;clear hzz;simp only at *;have hFr := HF.out wr _ _ hS.out;obtain ⟨f1, f2, f3⟩ := hFr;have F1 := hide f1;clear f1 f2 f3;cases p with
      | true =>
        by_cases he : yk = xk
        · have he2 := he;have e11 := F1.out.1;go_wp2_with fail;clear e11;refine Pl.q8 (ops := Pl.find 6 ((Tryz.f96.body).getD .skip)) ?_;refine Zo5 wr (by rfl) rfl (by rfl) ?_;intro u6 w6 hw6;simp only [Act.put, List.setIfInBounds_toArray, List.set_cons_zero, List.set_cons_succ];(have S6 : Hid (St w w6 ((xk, xs), ⟨xa, xl, xc⟩) ⟨ta, tl, tc⟩ acc d Ld v h ⟨some ⟨b, off, none⟩, sl, sc⟩ sy) := by rw [hw6]; exact hS.out.drew);clear hw6

          have F9 := (HF.out w6 _ _ S6.out).1;have H9 : Hid (∀ {Q : Exit → Act → World → Prop} {A : Act}, _) := fun {Q A} => set9 w6 w.heap.size (w.heap.size + 1) b off sl sc j (xk : Int) (yk : Int) hlt F9 (Q := Q) (A := A);rw [show ((yk : Int) != (xk : Int)) = false by simp; omega] at H9;clear F9;go_wp2_with fail;refine Pl.q8 (ops := Pl.find 9 ((Tryz.f96.body).getD .skip)) ?_;refine H9.out (by rfl) rfl (by rfl) (by rfl) (by rfl) ?_;intro u9 w9 hw9;simp only [Act.put, List.setIfInBounds_toArray, List.set_cons_zero, List.set_cons_succ];(have S9 : Hid (St w w9 ((xk, xs), ⟨xa, xl, xc⟩) ⟨ta, tl, tc⟩ (acc) d Ld v h ⟨some ⟨b, off, none⟩, sl, sc⟩ sy) := by rw [hw9]; exact S6.out.drew);clear hw9 H9

          go_wp2_with fail

          go_roundw
          case rel =>
            (have hres : stS ((xk, xs), ⟨xa, xl, xc⟩) (acc, true) ((yk, ys), ⟨ya, yl, yc⟩) = (acc, true) := by simp [stS, he2]);refine ⟨j + 1, ⟨ta, tl, tc⟩, by omega, by go_num, rfl, ?_, ?_⟩
            · rw [HTK.out, hres]
            · rw [HTK.out, hres];exact S9
          case measure => simp only [intOf]; omega
        ·
          have e11 := F1.out.1;go_wp2_with fail;clear e11;refine Pl.q8 (ops := Pl.find 6 ((Tryz.f96.body).getD .skip)) ?_;refine Zo5 wr (by rfl) rfl (by rfl) ?_;intro u6 w6 hw6;simp only [Act.put, List.setIfInBounds_toArray, List.set_cons_zero, List.set_cons_succ];(have S6 : Hid (St w w6 ((xk, xs), ⟨xa, xl, xc⟩) ⟨ta, tl, tc⟩ acc d Ld v h ⟨some ⟨b, off, none⟩, sl, sc⟩ sy) := by rw [hw6]; exact hS.out.drew);clear hw6

          have F9 := (HF.out w6 _ _ S6.out).1;have H9 : Hid (∀ {Q : Exit → Act → World → Prop} {A : Act}, _) := fun {Q A} => set9 w6 w.heap.size (w.heap.size + 1) b off sl sc j (xk : Int) (yk : Int) hlt F9 (Q := Q) (A := A);rw [show ((yk : Int) != (xk : Int)) = true by simp; omega] at H9;clear F9;go_wp2_with fail;refine Pl.q8 (ops := Pl.find 9 ((Tryz.f96.body).getD .skip)) ?_;refine H9.out (by rfl) rfl (by rfl) (by rfl) (by rfl) ?_;intro u9 w9 hw9;simp only [Act.put, List.setIfInBounds_toArray, List.set_cons_zero, List.set_cons_succ];(have S9 : Hid (St w w9 ((xk, xs), ⟨xa, xl, xc⟩) ⟨ta, tl, tc⟩ (acc) d Ld v h ⟨some ⟨b, off, none⟩, sl, sc⟩ sy) := by rw [hw9]; exact S6.out.drew);clear hw9 H9

          obtain ⟨⟨na, nl, nc⟩, WN, hrunN, hSN⟩ := S9.out.app ((yk, ys), ⟨ya, yl, yc⟩) (by have := HROOM.out; (try simp only [List.length_append, List.length_cons, List.length_nil] at *); omega);have HRUNN := hide hrunN;have SN := hide hSN;simp only [SS.cells, Sl.val] at HRUNN;clear hrunN hSN

          obtain ⟨f1, f2, f3⟩ := HF.out w9 _ _ S9.out;have F1 := hide f1;obtain ⟨g1, g2, g3⟩ := f1;obtain ⟨g4, g5, g6⟩ := f2;obtain ⟨g7, g8, g9⟩ := f3

          go_wp2_with (refine Zbq _ rfl 41 (.tmp 42) (.tmp 48) rfl (.slice ta tl tc) (.slice (some ⟨w9.heap.size, 0, none⟩) 1 1) rfl rfl (.slice na nl nc) WN HRUNN.out ?_)

          go_roundw
          case rel =>
            (have hres : stS ((xk, xs), ⟨xa, xl, xc⟩) (acc, true) ((yk, ys), ⟨ya, yl, yc⟩) = (acc ++ [((yk, ys), ⟨ya, yl, yc⟩)], true) := by simp [stS, he]);refine ⟨j + 1, ⟨na, nl, nc⟩, by omega, by go_num, rfl, ?_, ?_⟩
            · rw [HTK.out, hres]
            · rw [HTK.out, hres];exact SN
          case measure => simp only [intOf]; omega
      | false =>
        have H6 : Hid (∀ {Q : Exit → Act → World → Prop} {A : Act}, _) := fun {Q A} => Zpr wr w.heap.size (w.heap.size + 1) b off sl sc j (xk : Int) (yk : Int) hlt F1.out (Q := Q) (A := A);by_cases hle : xk ≤ yk
        · rw [decide_eq_true (show (xk : Int) ≤ (yk : Int) by omega)] at H6;by_cases he : yk = xk
          ·
            have e11 := F1.out.1;go_wp2_with fail;clear e11;refine Pl.q8 (ops := Pl.find 6 ((Tryz.f96.body).getD .skip)) ?_;refine H6.out (by rfl) rfl (by rfl) (by rfl) (by rfl) (by rfl) ?_;intro u6 w6 hw6;simp only [Act.put, List.setIfInBounds_toArray, List.set_cons_zero, List.set_cons_succ];(have S6 : Hid (St w w6 ((xk, xs), ⟨xa, xl, xc⟩) ⟨ta, tl, tc⟩ acc d Ld v h ⟨some ⟨b, off, none⟩, sl, sc⟩ sy) := by rw [hw6]; exact hS.out.drew);clear hw6

            obtain ⟨⟨ma, ml, mc⟩, WM, hrunM, hSM⟩ := S6.out.app ((xk, xs), ⟨xa, xl, xc⟩) (by have := HROOM.out; omega);have HRUNM := hide hrunM;have SM := hide hSM;simp only [SS.cells, Sl.val] at HRUNM;clear hrunM hSM

            obtain ⟨f1, f2, f3⟩ := HF.out w6 _ _ S6.out;have F1 := hide f1;obtain ⟨g1, g2, g3⟩ := f1;obtain ⟨g4, g5, g6⟩ := f2;obtain ⟨g7, g8, g9⟩ := f3

            go_wp2_with (refine Zbq _ rfl 41 (.tmp 29) (.tmp 31) rfl (.slice ta tl tc) (.slice (some ⟨w6.heap.size, 0, none⟩) 1 1) rfl rfl (.slice ma ml mc) WM HRUNM.out ?_);clear F1 g1 g2 g3 g4 g5 g6 g7 g8 g9

            have F9 := (HF.out WM _ _ SM.out).1;have H9 : Hid (∀ {Q : Exit → Act → World → Prop} {A : Act}, _) := fun {Q A} => set9 WM w.heap.size (w.heap.size + 1) b off sl sc j (xk : Int) (yk : Int) hlt F9 (Q := Q) (A := A);rw [show ((yk : Int) != (xk : Int)) = false by simp; omega] at H9;clear F9;go_wp2_with fail;refine Pl.q8 (ops := Pl.find 9 ((Tryz.f96.body).getD .skip)) ?_;refine H9.out (by rfl) rfl (by rfl) (by rfl) (by rfl) ?_;intro u9 w9 hw9;simp only [Act.put, List.setIfInBounds_toArray, List.set_cons_zero, List.set_cons_succ];(have S9 : Hid (St w w9 ((xk, xs), ⟨xa, xl, xc⟩) ⟨ma, ml, mc⟩ (acc ++ [((xk, xs), ⟨xa, xl, xc⟩)]) d Ld v h ⟨some ⟨b, off, none⟩, sl, sc⟩ sy) := by rw [hw9]; exact SM.out.drew);clear hw9 H9

            go_wp2_with fail

            go_roundw
            case rel =>
              (have hres : stS ((xk, xs), ⟨xa, xl, xc⟩) (acc, false) ((yk, ys), ⟨ya, yl, yc⟩) = (acc ++ [((xk, xs), ⟨xa, xl, xc⟩)], true) := by simp [stS, he]);refine ⟨j + 1, ⟨ma, ml, mc⟩, by omega, by go_num, rfl, ?_, ?_⟩
              · rw [HTK.out, hres]
              · rw [HTK.out, hres];exact S9
            case measure => simp only [intOf]; omega
          ·
            have e11 := F1.out.1;go_wp2_with fail;clear e11;refine Pl.q8 (ops := Pl.find 6 ((Tryz.f96.body).getD .skip)) ?_;refine H6.out (by rfl) rfl (by rfl) (by rfl) (by rfl) (by rfl) ?_;intro u6 w6 hw6;simp only [Act.put, List.setIfInBounds_toArray, List.set_cons_zero, List.set_cons_succ];(have S6 : Hid (St w w6 ((xk, xs), ⟨xa, xl, xc⟩) ⟨ta, tl, tc⟩ acc d Ld v h ⟨some ⟨b, off, none⟩, sl, sc⟩ sy) := by rw [hw6]; exact hS.out.drew);clear hw6

            obtain ⟨⟨ma, ml, mc⟩, WM, hrunM, hSM⟩ := S6.out.app ((xk, xs), ⟨xa, xl, xc⟩) (by have := HROOM.out; omega);have HRUNM := hide hrunM;have SM := hide hSM;simp only [SS.cells, Sl.val] at HRUNM;clear hrunM hSM

            obtain ⟨f1, f2, f3⟩ := HF.out w6 _ _ S6.out;have F1 := hide f1;obtain ⟨g1, g2, g3⟩ := f1;obtain ⟨g4, g5, g6⟩ := f2;obtain ⟨g7, g8, g9⟩ := f3

            go_wp2_with (refine Zbq _ rfl 41 (.tmp 29) (.tmp 31) rfl (.slice ta tl tc) (.slice (some ⟨w6.heap.size, 0, none⟩) 1 1) rfl rfl (.slice ma ml mc) WM HRUNM.out ?_);clear F1 g1 g2 g3 g4 g5 g6 g7 g8 g9

            have F9 := (HF.out WM _ _ SM.out).1;have H9 : Hid (∀ {Q : Exit → Act → World → Prop} {A : Act}, _) := fun {Q A} => set9 WM w.heap.size (w.heap.size + 1) b off sl sc j (xk : Int) (yk : Int) hlt F9 (Q := Q) (A := A);rw [show ((yk : Int) != (xk : Int)) = true by simp; omega] at H9;clear F9;go_wp2_with fail;refine Pl.q8 (ops := Pl.find 9 ((Tryz.f96.body).getD .skip)) ?_;refine H9.out (by rfl) rfl (by rfl) (by rfl) (by rfl) ?_;intro u9 w9 hw9;simp only [Act.put, List.setIfInBounds_toArray, List.set_cons_zero, List.set_cons_succ];(have S9 : Hid (St w w9 ((xk, xs), ⟨xa, xl, xc⟩) ⟨ma, ml, mc⟩ (acc ++ [((xk, xs), ⟨xa, xl, xc⟩)]) d Ld v h ⟨some ⟨b, off, none⟩, sl, sc⟩ sy) := by rw [hw9]; exact SM.out.drew);clear hw9 H9

            obtain ⟨⟨na, nl, nc⟩, WN, hrunN, hSN⟩ := S9.out.app ((yk, ys), ⟨ya, yl, yc⟩) (by have := HROOM.out; (try simp only [List.length_append, List.length_cons, List.length_nil] at *); omega);have HRUNN := hide hrunN;have SN := hide hSN;simp only [SS.cells, Sl.val] at HRUNN;clear hrunN hSN

            obtain ⟨f1, f2, f3⟩ := HF.out w9 _ _ S9.out;have F1 := hide f1;obtain ⟨g1, g2, g3⟩ := f1;obtain ⟨g4, g5, g6⟩ := f2;obtain ⟨g7, g8, g9⟩ := f3

            go_wp2_with (refine Zbq _ rfl 41 (.tmp 42) (.tmp 48) rfl (.slice ma ml mc) (.slice (some ⟨w9.heap.size, 0, none⟩) 1 1) rfl rfl (.slice na nl nc) WN HRUNN.out ?_)

            go_roundw
            case rel =>
              (have hres : stS ((xk, xs), ⟨xa, xl, xc⟩) (acc, false) ((yk, ys), ⟨ya, yl, yc⟩) = (acc ++ [((xk, xs), ⟨xa, xl, xc⟩)] ++ [((yk, ys), ⟨ya, yl, yc⟩)], true) := by simp [stS, he, hle]);refine ⟨j + 1, ⟨na, nl, nc⟩, by omega, by go_num, rfl, ?_, ?_⟩
              · rw [HTK.out, hres]
              · rw [HTK.out, hres];exact SN
            case measure => simp only [intOf]; omega
        · rw [decide_eq_false (show ¬ (xk : Int) ≤ (yk : Int) by omega)] at H6;(have he : ¬ yk = xk := by omega);have e11 := F1.out.1;go_wp2_with fail;clear e11;refine Pl.q8 (ops := Pl.find 6 ((Tryz.f96.body).getD .skip)) ?_;refine H6.out (by rfl) rfl (by rfl) (by rfl) (by rfl) (by rfl) ?_;intro u6 w6 hw6;simp only [Act.put, List.setIfInBounds_toArray, List.set_cons_zero, List.set_cons_succ];(have S6 : Hid (St w w6 ((xk, xs), ⟨xa, xl, xc⟩) ⟨ta, tl, tc⟩ acc d Ld v h ⟨some ⟨b, off, none⟩, sl, sc⟩ sy) := by rw [hw6]; exact hS.out.drew);clear hw6

          have F9 := (HF.out w6 _ _ S6.out).1;have H9 : Hid (∀ {Q : Exit → Act → World → Prop} {A : Act}, _) := fun {Q A} => set9 w6 w.heap.size (w.heap.size + 1) b off sl sc j (xk : Int) (yk : Int) hlt F9 (Q := Q) (A := A);rw [show ((yk : Int) != (xk : Int)) = true by simp; omega] at H9;clear F9;go_wp2_with fail;refine Pl.q8 (ops := Pl.find 9 ((Tryz.f96.body).getD .skip)) ?_;refine H9.out (by rfl) rfl (by rfl) (by rfl) (by rfl) ?_;intro u9 w9 hw9;simp only [Act.put, List.setIfInBounds_toArray, List.set_cons_zero, List.set_cons_succ];(have S9 : Hid (St w w9 ((xk, xs), ⟨xa, xl, xc⟩) ⟨ta, tl, tc⟩ (acc) d Ld v h ⟨some ⟨b, off, none⟩, sl, sc⟩ sy) := by rw [hw9]; exact S6.out.drew);clear hw9 H9

          obtain ⟨⟨na, nl, nc⟩, WN, hrunN, hSN⟩ := S9.out.app ((yk, ys), ⟨ya, yl, yc⟩) (by have := HROOM.out; (try simp only [List.length_append, List.length_cons, List.length_nil] at *); omega);have HRUNN := hide hrunN;have SN := hide hSN;simp only [SS.cells, Sl.val] at HRUNN;clear hrunN hSN

          obtain ⟨f1, f2, f3⟩ := HF.out w9 _ _ S9.out;have F1 := hide f1;obtain ⟨g1, g2, g3⟩ := f1;obtain ⟨g4, g5, g6⟩ := f2;obtain ⟨g7, g8, g9⟩ := f3

          go_wp2_with (refine Zbq _ rfl 41 (.tmp 42) (.tmp 48) rfl (.slice ta tl tc) (.slice (some ⟨w9.heap.size, 0, none⟩) 1 1) rfl rfl (.slice na nl nc) WN HRUNN.out ?_)

          go_roundw
          case rel =>
            (have hres : stS ((xk, xs), ⟨xa, xl, xc⟩) (acc, false) ((yk, ys), ⟨ya, yl, yc⟩) = (acc ++ [((yk, ys), ⟨ya, yl, yc⟩)], false) := by simp [stS, he, hle]);refine ⟨j + 1, ⟨na, nl, nc⟩, by omega, by go_num, rfl, ?_, ?_⟩
            · rw [HTK.out, hres]
            · rw [HTK.out, hres];exact SN
          case measure => simp only [intOf]; omega
    · (have i1 : ¬ (j : Int) < (sl : Int) := by omega);have hje : (ls.take j) = ls := List.take_of_length_le (by rw [HL.out]; omega);rw [hje] at hS;rw [hje];have e11 := hS.out.rx.b.c11;simp only [Sl.val] at e11;have hset := Zk6 ((xk, xs), ⟨xa, xl, xc⟩) ls [];simp only [List.map_nil, List.nil_append] at hset;have hmem := ZhW ((xk, xs), ⟨xa, xl, xc⟩) ls ([], false);have hlen := ZfH ((xk, xs), ⟨xa, xl, xc⟩) ls ([], false);simp only [List.length_nil, Nat.zero_add] at hlen;(have hl2000 : (ls.foldl (stS ((xk, xs), ⟨xa, xl, xc⟩)) ([], false)).1.length ≤ 2000 := by have := HLS.out; omega);have HEND : Hid (∀ (U : World) (t : Sl) (l : List SS), St w U ((xk, xs), ⟨xa, xl, xc⟩) t l d Ld v h ⟨sa, sl, sc⟩ sy → l.length ≤ 3000 → l.map Prod.fst = setL (ls.map Prod.fst) (xk, xs) → (∀ z ∈ l, z = ((xk, xs), ⟨xa, xl, xc⟩) ∨ z ∈ ls) → ∃ W2 W3, (Instr.storeAt 41 (.pointer (some ⟨w.heap.size, 11, none⟩)) (.slice t.a t.len t.cap)).run Tryz.prog U = .ok () W2 ∧ (Instr.loadAt 43 (.pointer (some ⟨w.heap.size, 0, none⟩))).run Tryz.prog W2 = .ok (.agg (Zah d Ld v h t sy)) W2 ∧ (Instr.storeAt 43 (.pointer (some ⟨w.heap.size + 2, 0, none⟩)) (.agg (Zah d Ld v h t sy))).run Tryz.prog W2 = .ok () W3 ∧ RBlk W3 (w.heap.size + 2) d Ld v h t sy ∧ Below w.heap.size w W3 ∧ ShRow K W3 t (setL (ls.map Prod.fst) (xk, xs))) := by
        intro U t l st h3 hmap hm;obtain ⟨W2, hst2, hb2, hf2, _⟩ := stRI st.rx.b t;have hX2 := st.rx.turn hb2 hf2;obtain ⟨W3, hst3, hb3, hB3, hf3⟩ := hX2.tell d Ld v h t sy;have hO3 := (st.o.keep (W' := W2) (fun q hq => hf2.block q (Own.lt st.o.own hq) (by have := st.o.far q hq; omega))).keep (W' := W3) (fun q hq => hf3.block q (by have := Own.lt st.o.own hq; have := hf2.size; omega) (by have := st.o.far q hq; omega));have hrow : ShRow K W3 t (l.map Prod.fst) := ⟨l, rfl, hO3.own.sh (by rw [← hO3.own.len]; omega), fun z hz => by
          rcases hm z hz with e | e
          · subst e;exact ⟨HX.out.keep hB3 (Nat.le_refl _), HX2.out⟩
          · exact ⟨(HZ.out z e).1.keep hB3 (Nat.le_refl _), (HZ.out z e).2⟩⟩
        rw [hmap] at hrow;exact ⟨W2, W3, hst2, ldR hb2, hst3, hb3, hB3, hrow⟩
      generalize hfs : ls.foldl (stS ((xk, xs), ⟨xa, xl, xc⟩)) ([], false) = st at *;obtain ⟨acc, p⟩ := st;simp only at *;have HMEM : Hid (∀ z ∈ acc, z = ((xk, xs), ⟨xa, xl, xc⟩) ∨ z ∈ ls) := fun z hz => by
        rcases hmem z hz with e | e | e
        · cases e
        · exact .inl e
        · exact .inr e
      have HSET := hide hset;have H2 := hide hl2000;clear hje hset hmem hlen hl2000 hfs;cases p with
      | true =>
        have hset2 := HSET.out;simp only [finS] at hset2;obtain ⟨W2, W3, hst2, hld, hst3, hb3, hB3, hrow⟩ := HEND.out wr ⟨ta, tl, tc⟩ acc hS.out (by have := H2.out; omega) (by simpa using hset2) HMEM.out;have HS2 := hide hst2;have HLD := hide hld;have HS3 := hide hst3;have HB3 := hide hb3;have HBB := hide hB3;have HROW := hide hrow;clear hset2 hst2 hld hst3 hb3 hB3 hrow;go_wp2_with (first | refine Zab _ rfl rfl 41 (.tmp 57) (.tmp 56) rfl (.pointer (some ⟨w.heap.size, 11, none⟩)) (.slice ta tl tc) rfl rfl W2 HS2.out ?_ | refine Zac _ rfl 43 (.tmp 2) rfl (.pointer (some ⟨w.heap.size, 0, none⟩)) _ rfl HLD.out ?_ | refine Zab _ rfl rfl 43 (.tmp 4) (.tmp 58) rfl (.pointer (some ⟨w.heap.size + 2, 0, none⟩)) _ rfl rfl W3 HS3.out ?_);refine bodyPost_ret (Zaw rfl HB3.out _ rfl) rfl ?_;exact ⟨HBB.out, ⟨ta, tl, tc⟩, rfl, HROW.out⟩
      | false =>
        obtain ⟨⟨na, nl, nc⟩, WN, hrunN, hSN⟩ := hS.out.app ((xk, xs), ⟨xa, xl, xc⟩) (by have := H2.out; omega);have HRUNN := hide hrunN;simp only [SS.cells, Sl.val] at HRUNN;have hset2 := HSET.out;simp only [finS, if_true] at hset2;obtain ⟨W2, W3, hst2, hld, hst3, hb3, hB3, hrow⟩ := HEND.out WN ⟨na, nl, nc⟩ (acc ++ [((xk, xs), ⟨xa, xl, xc⟩)]) hSN (by have := H2.out; simp; omega) (by simpa using hset2) (fun z hz => by
          rcases List.mem_append.1 hz with e | e
          · exact HMEM.out z e
          · exact .inl (by simpa using e))
        have HS2 := hide hst2;have HLD := hide hld;have HS3 := hide hst3;have HB3 := hide hb3;have HBB := hide hB3;have HROW := hide hrow;have x0 := hS.out.b.c0;have x1 := hS.out.b.c1;have x2 := hS.out.b.c2;have x3 := hS.out.b.c3;simp only at x0 x1 x2 x3;clear hset2 hst2 hld hst3 hb3 hB3 hrow hrunN hSN;go_wp2_with (first | refine Zbq _ rfl 41 (.tmp 52) (.tmp 54) rfl (.slice ta tl tc) (.slice (some ⟨wr.heap.size, 0, none⟩) 1 1) rfl rfl (.slice na nl nc) WN HRUNN.out ?_ | refine Zab _ rfl rfl 41 (.tmp 57) (.tmp 56) rfl (.pointer (some ⟨w.heap.size, 11, none⟩)) (.slice na nl nc) rfl rfl W2 HS2.out ?_ | refine Zac _ rfl 43 (.tmp 2) rfl (.pointer (some ⟨w.heap.size, 0, none⟩)) _ rfl HLD.out ?_ | refine Zab _ rfl rfl 43 (.tmp 4) (.tmp 58) rfl (.pointer (some ⟨w.heap.size + 2, 0, none⟩)) _ rfl rfl W3 HS3.out ?_);refine bodyPost_ret (Zaw rfl HB3.out _ rfl) rfl ?_;exact ⟨HBB.out, ⟨na, nl, nc⟩, rfl, HROW.out⟩
theorem Zes (hI:RpIn K w n tot m P d Ld v s)(ht:tot≤40000):Calls Tryz.prog 58 #[rV d Ld v P.h s P.sy] w fun e w'=>Below w.heap.size w w'∧e=.returned (rV d Ld v P.h s P.D.fin):=by
 have ac:P.D.fin=d.now.base+(Ld.ns.len:Int):=by
  unfold Ds.fin;rw [hI.rel.sb,hI.rel.ss,← hI.dv.now.st.len];have:=hI.good.nb0;show ((d.now.base.toNat+d.now.st.length:Nat):Int)=_;have:0≤d.now.base:=this;omega
 have bc:0≤d.now.base∧d.now.base≤40000∧Ld.ns.len≤40000:=by
  have h1:0≤d.now.base:=hI.good.nb0;have h2:d.now.base.toNat+d.now.st.length≤tot:=hI.good.nt;have h3:=hI.dv.now.st.len;omega
 obtain⟨W0,ab⟩:∃W,W=((w.alloc (.cells (Zah d Ld v P.h s P.sy) 43)).alloc (.cells (Zah dv0 dvl0 Sl.nil 0 Sl.nil 0) 43)):=⟨_,rfl⟩;(have hX:Rx w W0 (w.heap.size+1) d Ld v P.h s P.sy:=by rw [ab];exact ZbA w d Ld v P.h s P.sy);have HX:=hide hX;have aw:=hide (ldRD hX.b);have aj:=hide (Zbk d Ld W0);rw [Zb9] at ab;have aa:=aw;rw [ab] at aa;have ay:=hide ab;rw [ac];(have bb:IntKind.i64.wrap (d.now.base+(Ld.ns.len:Int))=d.now.base+(Ld.ns.len:Int):=by rw [IntKind.wrap_i64];omega);clear hI hX ab ac;unfold rV;unfold Dk.val Sl.val at aj;generalize az:Ld.ns.len=nl at *;clear az;generalize ar:d.now.base=B at *;have ba:=hide ar;clear ar;go_enter Tryz.func58,Tryz.ntmps58;go_wp2_with (refine Zac _ rfl 37 (.tmp 4) rfl (.pointer (some ⟨w.heap.size,0,none⟩)) _ rfl aa.out ?_);rw [← ay.out];refine aj.out.mono ?_;rintro e w1 ⟨ao,rfl⟩;have am:=HX.out.keep ao;have ak:=Zaa w1 (.cells #[.slice Ld.np.a Ld.np.len Ld.np.cap,.int .i64 B,.slice Ld.ns.a nl Ld.ns.cap] 34);have af:=am.keep ak;obtain⟨W3,ad,ag,aq,_⟩:=stRS af.b (B+(nl:Int));have an:=af.turn ag aq;obtain⟨W4,ae,ap,al,_⟩:=an.tell d Ld v P.h s (B+(nl:Int));have ax:=hide ad;have ah:=hide (ldR ag);have ai:=hide ae;have au:=hide ap;have av:=hide al;unfold rV at ah ai;clear ao am ak af ad ag aq an ae ap al;go_wp2_with (first | refine Zab _ rfl rfl 3 (.tmp 13) (.tmp 12) rfl (.pointer (some ⟨w.heap.size,12,none⟩)) (.int .i64 (B+(nl:Int))) rfl rfl W3 ax.out ?_ | refine Zac _ rfl 43 (.tmp 1) rfl (.pointer (some ⟨w.heap.size,0,none⟩)) _ rfl ah.out ?_ | refine Zab _ rfl rfl 43 (.tmp 2) (.tmp 14) rfl (.pointer (some ⟨w.heap.size+1,0,none⟩)) _ rfl rfl W4 ai.out ?_);refine bodyPost_ret (Zaw rfl au.out _ rfl) rfl ?_;exact⟨av.out,rfl⟩
theorem Good.more {m':Nat}{A:Da}(g:Good n tot m A)(h:m≤m'):Good n tot m' A:=⟨g.np,g.kp,g.nb0,g.kb0,g.nt,g.kt,g.valid,g.fold1,g.fold2,g.parts,Nat.le_trans g.len h,g.mx⟩
theorem Zb8 {Q:Po}(h:∀k,P.m k=Q.m k):P.inl n=Q.inl n:=Zcf (fun k _ _=>h k)
theorem Zc4 (P:Po)(n:Nat):(P.inl n).length≤n:=by
 have h1:=Zch P n;(have h2:(P.inl n).length=(P.inn n).length:=by rw [← h1,List.length_map]);rw [h2];exact Nat.le_trans (List.length_filter_le _ _) (by simp)
theorem stXd (h:XBlk w g z)(b:Bool):∃W,(Instr.storeAt 4 (.pointer (some ⟨g,2,none⟩)) (.bool b)).run Tryz.prog w=.ok () W∧XBlk W g ((z.1.1,{ z.1.2 with dirty:=b }),z.2)∧Frm (fun i=>i=g) w W∧W.heap.size=w.heap.size:=by
 have c2:=h.c2;have f2:=h.fz 2;refine⟨w.setCell ⟨g,2,none⟩ (.bool b),by simp [go_sem,Instr.storeAt,c2,f2],?_,(Frm.refl (fun i=>i=g) w).setCell (p:=⟨g,2,none⟩) rfl _,by simp only [Zag]⟩;have s2:=heap_setCell_same w g 2 _ 115 (.bool b) h;unfold XBlk;rw [s2];simp [SS.cells]
def No8 (C:Array Value):Prop:=∀(o:Nat) (k:Int),C[o]? ≠ some (Value.int .u8 k)
theorem Zh0 {a:Option Addr}{len cap:Nat}{xs:List Nat}(h:Came w a len cap xs){F:Nat→Prop}(hb:∀i,¬F i→i<w.heap.size→W.heap[i]? = w.heap[i]?)(hF:∀i,F i→∃C t fz,w.heap[i]? = some (.cells C t fz)∧No8 C):Came W a len cap xs:=by
 refine⟨⟨h.bs.1,h.bs.2.1,fun i hi=>?_⟩,h.nil,h.le,h.big⟩;obtain⟨b,off,ha,hc⟩:=h.bs.2.2 i hi;refine⟨b,off,ha,?_⟩;by_cases e:F b
 · obtain⟨C,t,fz,hh,hn⟩:=hF b e;exfalso;simp only [World.cell?,hh] at hc;simp at hc;exact hn _ _ hc
 · have:=hb b e (World.block_lt_of_cell? w _ hc);simp only [World.cell?,this] at hc ⊢;exact hc
theorem no8R {w : World} {g : Nat} {d : Dv} {Ld : DvL} {v : Sl} {h : Int} {s : Sl} {sy : Int} : ∀ (o : Nat) (k : Int), (Zah d Ld v h s sy)[o]? ≠ some (Value.int .u8 k) := by
  intro o k
  unfold Zah Sl.val
  match o with
  | 0 | 1 | 2 | 3 | 4 | 5 | 6 | 7 | 8 | 9 | 10 | 11 | 12 => simp
  | o + 13 => simp
theorem no8X :∀(o:Nat)(k:Int),(SS.cells z).toArray[o]? ≠ some (Value.int .u8 k):=by
 intro o k;unfold SS.cells Sl.val
 match o with
 | 0 | 1 | 2 | 3=>simp
 | o+4=>simp
structure Bxs (w W:World) (F:Nat→Prop):Prop where
  same:∀i,¬F i→i<w.heap.size→W.heap[i]? = w.heap[i]?
  box:∀i,F i→∃C t fz,w.heap[i]? = some (.cells C t fz)∧No8 C∧t≠117
  size:w.heap.size≤W.heap.size
theorem Bxs.bs {F:Nat→Prop}(b:Bxs w W F){xs:List Nat}(h:BsS K w s xs):BsS K W s xs:=
 ⟨Zh0 h.came b.same (fun i hi=>by obtain ⟨C,t,fz,h1,h2,_⟩:=b.box i hi;exact ⟨C,t,fz,h1,h2⟩),Nat.le_trans h.low b.size,h.home⟩
theorem Bxs.dv {F:Nat→Prop}(b:Bxs w W F)(h:DvIn K w d L):DvIn K W d L:=by
 refine⟨⟨b.bs h.kept.pg,b.bs h.kept.st⟩,⟨b.bs h.now.pg,b.bs h.now.st⟩,⟨h.done.1,fun i hi=>⟨b.bs (h.done.2.1 i hi).1,(h.done.2.1 i hi).2⟩,fun j hj=>?_⟩,h.nil,h.le⟩;obtain⟨q,off,ha,c0,c1,c2,c3,C,fr,hc⟩:=h.done.2.2 j hj;have ab:¬F q:=fun e=>by
  obtain⟨C',t,fz,h1,_,h3⟩:=b.box q e;rw [hc] at h1;simp only [Option.some.injEq,Obj.cells.injEq] at h1;exact h3 h1.2.1.symm
 have e:=b.same q ab (Array.getElem?_eq_some_iff.1 hc).1;(have aa:∀o,W.cell? ⟨q,o,none⟩=w.cell? ⟨q,o,none⟩:=fun o=>by simp only [World.cell?,e]);exact⟨q,off,ha,(aa _).trans c0,(aa _).trans c1,(aa _).trans c2,(aa _).trans c3,C,fr,e.trans hc⟩
theorem RBlk.box (k:RBlk w g d Ld v h s sy):∃C t fz,w.heap[g]? = some (.cells C t fz)∧No8 C∧t≠117:=⟨_,_,_,k,no8R (w:=w) (g:=g),by decide⟩
theorem XBlk.box (k:XBlk w g z):∃C t fz,w.heap[g]? = some (.cells C t fz)∧No8 C∧t≠117:=⟨_,_,_,k,no8X,by decide⟩
theorem ZeZ {g2:Nat}{d':Dv}(hd:DvIn K w d L)(hs:∀i,i≠g∧i≠g2→i<w.heap.size→W.heap[i]? = w.heap[i]?)(k:RBlk w g d' Ld v h s sy)(x:XBlk w g2 z)(aa:w.heap.size≤W.heap.size):DvIn K W d L:=
 Bxs.dv (F:=fun i=>i=g∨i=g2) ⟨fun i hi hl=>hs i ⟨fun e=>hi (.inl e),fun e=>hi (.inr e)⟩ hl,fun i hi=>by rcases hi with rfl | rfl;exact k.box;exact x.box,aa⟩ hd
theorem ZaH (hd:DvIn K w d L)(hf:Frm (fun i=>i=g) w W)(k:∃d' Ld' v' h' s' sy',RBlk w g d' Ld' v' h' s' sy'):DvIn K W d L:=by
 obtain⟨_,_,_,_,_,_,k⟩:=k;exact Bxs.dv (F:=fun i=>i=g) ⟨fun i hi hl=>hf.block i hl hi,fun i hi=>by rw [hi];exact k.box,hf.size⟩ hd
theorem ZaJ {l:List (Nat × Sh)}(hs:ShRow K w s l)(hf:Frm (fun i=>i=g) w W)(k:∃d' Ld' v' h' s' sy',RBlk w g d' Ld' v' h' s' sy'):ShRow K W s l:=by
 obtain⟨_,_,_,_,_,_,k⟩:=k;obtain⟨ls,e,hc,hz⟩:=hs;have b:Bxs w W (fun i=>i=g):=⟨fun i hi hl=>hf.block i hl hi,fun i hi=>by rw [hi];exact k.box,hf.size⟩;refine⟨ls,e,hc.frm (fun q hr=>hf.block q hr.lt (fun e=>?_)),fun z hm=>⟨b.bs (hz z hm).1,(hz z hm).2⟩⟩;subst e;obtain⟨C,fz,hC⟩:=hr;unfold RBlk at k;rw [hC] at k;simp only [Option.some.injEq,Obj.cells.injEq] at k;exact absurd k.2.1 (by decide)
theorem Zd8 (hI : RpIn K w n tot m P d Ld v s) (hn : n ≤ 64) (ht : tot ≤ 40000) (hm : m ≤ 890) (hW : ∀ k sh, P.m k = some sh → k < n ∧ sh.b.length = 512 ∧ Bytes sh.b) (i k : Nat) (sh : Sh) (hi : (P.inl n)[i]? = some (k, sh)) : Calls Tryz.prog 66 #[rV d Ld v P.h s P.sy, .int .i64 (i : Int)] w fun e w' => Below w.heap.size w w' ∧ ∃ x, e = .returned x ∧ Zay K n tot (m + 4) (P.write k) x w' := by
  obtain ⟨ls, hls, hc, hz⟩ := hI.sh;have hmem := ZaW (List.mem_of_getElem? hi);have hkm : P.m k = some sh := hmem.2.2;obtain ⟨hkn, hsb, hsx⟩ := hW k sh hkm;obtain ⟨z, hzi, hzk⟩ : ∃ z, ls[i]? = some z ∧ z.1 = (k, sh) := by
    rw [← hls, List.getElem?_map] at hi;cases e : ls[i]? with
    | none => rw [e] at hi; cases hi
    | some z => rw [e] at hi; exact ⟨z, rfl, by simpa using hi⟩
  obtain ⟨hq, hql⟩ := hz z (List.mem_of_getElem? hzi);obtain ⟨W0, hW0⟩ : ∃ W, W = ((w.alloc (.cells (Zah d Ld v P.h s P.sy) 43)).alloc (.cells (Zah dv0 dvl0 Sl.nil 0 Sl.nil 0) 43)) := ⟨_, rfl⟩;(have hX : Rx w W0 (w.heap.size + 1) d Ld v P.h s P.sy := by rw [hW0]; exact ZbA w d Ld v P.h s P.sy);(have hs0 : W0.heap.size = w.heap.size + 2 := by rw [hW0]; simp);obtain ⟨⟨zk, zs⟩, ⟨qa, ql, qc⟩⟩ := z;simp only [Prod.mk.injEq] at hzk;obtain ⟨rfl, rfl⟩ := hzk;obtain ⟨W1, hW1⟩ : ∃ W, W = W0.alloc (.cells (SS.cells ((zk, zs), ⟨qa, ql, qc⟩)).toArray 115) := ⟨_, rfl⟩;(have hA1 : Below W0.heap.size W0 W1 := by rw [hW1]; exact Zaa W0 _);have hX1 := hX.keep hA1;(have hXB1 : XBlk W1 (w.heap.size + 2) ((zk, zs), ⟨qa, ql, qc⟩) := by rw [hW1, ← hs0]; exact heap_alloc_new W0 _);obtain ⟨b, off, ha, k0, k1, k2, k3, _⟩ := (hc.keep hX.e).at_ i _ hzi;(have hil : i < s.len := by rw [← hc.len]; exact (List.getElem?_eq_some_iff.1 hzi).1);have e11 := hX.b.c11;rw [hW0, Zb9] at k0 k1 k2 k3 e11;rw [hW0, Zb9] at hW1;simp only [SS.cells, Sl.val] at hW1 k0 k1 k2 k3 e11;have HW1 := hide hW1;obtain ⟨sa, sl, sc⟩ := s;simp only at ha hil e11;subst ha;have HX1 := hide hX1;have HXB1 := hide hXB1;have HI := hide hI;have HQ : Hid (BsS K w ⟨qa, ql, qc⟩ zs.b) := hq;have HQL : Hid (ql = 512) := hql;have HSB := hide hsb;have HSX := hide hsx;have HKN := hide hkn;have HN := hide hn;have HT := hide ht;have HM := hide hm;have HCK := hide hI.ck;have HSH := hide hI.sh;have HLOW := hide hI.low;have HKM := hide hkm;(have i1 : (i : Int) < (sl : Int) := by omega);have HHH : Hid ((P.wrote zk zs).h = P.h) := (ZcG P zk zs).2;clear hls hc hz hmem hkm hkn hsb hsx hzi hq hql hW0 hX hs0 hW1 hA1 hX1 hXB1 hI hi hn ht hm hW;unfold rV;have x2 := HXB1.out.c2;have x3 := HXB1.out.c3;have y12 := HX1.out.b.c12;simp only at x2 x3;cases hd : zs.dirty with
  | false =>
    rw [hd] at x2 k2;rw [ZeJ P zk (fun s hs => by have := HKM.out; rw [hs] at this; rw [Option.some.inj this]; exact hd)];rw [hd] at HW1;obtain ⟨W2, hst, hb2, hB2, hf2⟩ := HX1.out.tell d Ld v P.h ⟨some ⟨b, off, none⟩, sl, sc⟩ P.sy;have HLD := hide (ldR HX1.out.b);have HST := hide hst;have HB2 := hide hb2;have HBB := hide hB2;have HI2 := hide (HI.out.keep hB2);unfold rV at HLD HST;clear hst hb2 hB2 hf2 hd;rw [HW1.out] at HLD HST;go_enter Tryz.func66, Tryz.ntmps66;go_wp2_with (first | refine Zac _ rfl 43 (.tmp 2) rfl (.pointer (some ⟨w.heap.size, 0, none⟩)) _ rfl HLD.out ?_ | refine Zab _ rfl rfl 43 (.tmp 4) (.tmp 14) rfl (.pointer (some ⟨w.heap.size + 1, 0, none⟩)) _ rfl rfl W2 HST.out ?_);refine bodyPost_ret (Zaw rfl HB2.out _ rfl) rfl ?_;exact ⟨HBB.out, _, rfl, d, Ld, v, _, rfl, ⟨HI2.out.dv, HI2.out.rel, HI2.out.good.more (by omega), HI2.out.ck, HI2.out.sh, HI2.out.low⟩⟩
  | true =>
    rw [hd] at x2 k2 HW1;rw [ZcX P zk zs HKM.out hd];have y12L := y12;rw [HW1.out] at y12L;clear x2 x3 y12;by_cases hzs : P.sy < zs.place
    · have hAh : P.ahead zs.place = { P with D := P.D.sync, sy := P.D.fin } := if_pos hzs;obtain ⟨hs1, hrel, hgood⟩ := HI.out.rel.sync HI.out.good HT.out;have HSY := hide (Zet d Ld W1 (HI.out.dv.keep HX1.out.e (Nat.le_refl _)));have HLD1 := hide (ldRD HX1.out.b);rw [HW1.out] at HLD1;have HREL := hide hrel;have HGOOD := hide hgood;have hgt : decide (P.sy < zs.place) = true := decide_eq_true hzs;clear hs1 hrel hgood hd;go_enter Tryz.func66, Tryz.ntmps66;go_wp2_with (refine Zac _ rfl 37 (.tmp 20) rfl (.pointer (some ⟨w.heap.size, 0, none⟩)) _ rfl HLD1.out ?_);rw [← HW1.out];refine HSY.out.mono ?_;rintro e w2 ⟨hb2, L1, rfl, hD1⟩;have hX2 := HX1.out.keep hb2;have hXB2 : XBlk w2 (w.heap.size + 2) ((zk, zs), ⟨qa, ql, qc⟩) := (hb2.block _ HXB1.out.lt).trans HXB1.out;obtain ⟨W2, hst2, hblk2, hf2, hs2⟩ := stRD hX2.b d.sync L1;have hX2' := hX2.turn hblk2 hf2;have hXB2' : XBlk W2 (w.heap.size + 2) ((zk, zs), ⟨qa, ql, qc⟩) := hXB2.frm hf2 (by omega);have hw2 : Below w.heap.size w W2 := hX2'.e;have hI2 : RpIn K W2 n tot m { P with D := P.D.sync } d.sync L1 v ⟨some ⟨b, off, none⟩, sl, sc⟩ := by
        refine ⟨ZaH hD1 hf2 ⟨_, _, _, _, _, _, hX2.b⟩, ?_, ?_, HCK.out.below hw2 (Nat.le_refl _), ?_, Nat.le_trans HLOW.out hw2.size⟩
        · rw [d.sync_abs]; exact HREL.out
        · rw [d.sync_abs]; exact HGOOD.out
        · rw [show ({ P with D := P.D.sync } : Po).inl n = P.inl n from Zb8 (fun _ => rfl)];exact HSH.out.keep hw2
      have HSN := hide (Zes hI2 HT.out);have HS2 := hide hst2;have HL2 := hide (ldR hX2'.b);have HX2 := hide hX2';have HXB2 := hide hXB2';have HI2 := hide hI2;unfold rV at HSN HL2;clear hb2 hD1 hX2 hXB2 hst2 hblk2 hf2 hs2 hX2' hXB2' hw2 hI2 k0 k1 k2 k3 e11 y12L HLD1;go_wp2_with (first | refine Zab _ rfl rfl 37 (.tmp 23) (.tmp 22) rfl (.pointer (some ⟨w.heap.size, 0, none⟩)) (d.sync.val L1) rfl rfl W2 HS2.out ?_ | refine Zac _ rfl 43 (.tmp 2) rfl (.pointer (some ⟨w.heap.size, 0, none⟩)) _ rfl HL2.out ?_);refine HSN.out.mono ?_;rintro e w3 ⟨hb3, rfl⟩;have hX3 := HX2.out.keep hb3;have hXB3 : XBlk w3 (w.heap.size + 2) ((zk, zs), ⟨qa, ql, qc⟩) := (hb3.block _ HXB2.out.lt).trans HXB2.out;obtain ⟨W3, hst3, hblk3, hf3, hs3⟩ := stR hX3.b d.sync L1 v P.h ⟨some ⟨b, off, none⟩, sl, sc⟩ P.D.sync.fin;have hX3' := hX3.turn hblk3 hf3;have HXB3 : Hid (XBlk W3 (w.heap.size + 2) ((zk, zs), ⟨qa, ql, qc⟩)) := hXB3.frm hf3 (by omega);have hw3 : Below w.heap.size w W3 := hX3'.e;have hI3' := HI2.out.keep hb3;have HI3 : Hid (RpIn K W3 n tot m (P.ahead zs.place) d.sync L1 v ⟨some ⟨b, off, none⟩, sl, sc⟩) := by
        rw [hAh];refine ⟨ZaH hI3'.dv hf3 ⟨_, _, _, _, _, _, hX3.b⟩, hI3'.rel, hI3'.good, HCK.out.below hw3 (Nat.le_refl _), ?_, Nat.le_trans HLOW.out hw3.size⟩;rw [show ({ P with D := P.D.sync, sy := P.D.fin } : Po).inl n = P.inl n from Zb8 (fun _ => rfl)];exact HSH.out.keep hw3
      (have hsy : (P.ahead zs.place).sy = P.D.sync.fin := by rw [hAh]; exact P.D.sync_fin.symm);(have HX3 : Hid (Rx w W3 (w.heap.size + 1) d.sync L1 v P.h ⟨some ⟨b, off, none⟩, sl, sc⟩ (P.ahead zs.place).sy) := by rw [hsy]; exact hX3');have HS3 := hide hst3;unfold rV at HS3;clear hb3 hX3 hXB3 hst3 hblk3 hf3 hs3 hX3' hw3 hI3' hsy hAh HS2 HL2;have hE3 := HI3.out;obtain ⟨ls3, hls3, hc3, hz3⟩ := hE3.sh;have hbq3 : BsS K W3 ⟨qa, ql, qc⟩ zs.b := HQ.out.keep (HX3.out.e) (Nat.le_refl _);have hWR := Zeu d.sync L1 W3 hE3.dv n zk hE3.good.kp hE3.good.np (by have := HN.out; omega) HKN.out ⟨qa, ql, qc⟩ zs.b hbq3 HQL.out (by have := hE3.good.nt; have := HT.out; have h1 : d.sync.now.base.toNat + d.sync.now.st.length ≤ tot := hE3.good.nt; omega) hE3.good.mx (by have h1 : d.sync.done.length ≤ m := by { have := hE3.good.len; simpa [Dv.abs] using this }; have := HM.out; omega);have HWR := hide hWR;have HLD3 := hide (ldRD HX3.out.b);have x0 := HXB3.out.c0;have x1 := HXB3.out.c1;simp only [Sl.val] at HWR x0 x1;clear hE3 hls3 hc3 hz3 hbq3 hWR

      go_wp2_with (first | refine Zab _ rfl rfl 43 (.tmp 2) (.tmp 25) rfl (.pointer (some ⟨w.heap.size, 0, none⟩)) _ rfl rfl W3 HS3.out ?_ | refine Zac _ rfl 37 (.tmp 27) rfl (.pointer (some ⟨w.heap.size, 0, none⟩)) _ rfl HLD3.out ?_)

      refine HWR.out.mono ?_;rintro e w4 ⟨hb4, d2, L2, rfl, hD2, habs⟩;clear x0 x1;have hX4 := HX3.out.keep hb4;have hXB4 : XBlk w4 (w.heap.size + 2) ((zk, zs), ⟨qa, ql, qc⟩) := (hb4.block _ HXB3.out.lt).trans HXB3.out;obtain ⟨W5, hst5, hblk5, hf5, hs5⟩ := stRD hX4.b d2 L2;have hX5 := hX4.turn hblk5 hf5;have hXB5 : XBlk W5 (w.heap.size + 2) ((zk, zs), ⟨qa, ql, qc⟩) := hXB4.frm hf5 (by omega);obtain ⟨W6, hst6, hXB6, hf6, hs6⟩ := stXd hXB5 false;have hX6 := hX5.other hf6 (fun q e => by omega);have hB36 : Below W3.heap.size W3 W6 ∨ True := .inr trivial;have hw6 : Below w.heap.size w W6 := hX6.e;have hD6 : DvIn K W6 d2 L2 := ZeZ hD2 (show ∀ i, i ≠ w.heap.size ∧ i ≠ w.heap.size + 2 → i < w4.heap.size → W6.heap[i]? = w4.heap[i]? from fun i hi hl => by rw [hf6.block i (by omega) hi.2, hf5.block i hl hi.1]) hX4.b hXB4 (by rw [hs6, hs5]; exact Nat.le_refl _);have hI6 : RpIn K W6 n tot (m + 4) { P.ahead zs.place with D := (P.ahead zs.place).D.write zk zs.b } d2 L2 v ⟨some ⟨b, off, none⟩, sl, sc⟩ := by
        refine ⟨hD6, ?_, ?_, ?_, ?_, ?_⟩
        · rw [habs];exact HI3.out.rel.write zk zs.b HSB.out (by have h1 : d.sync.now.pg.length = 512 * n := HI3.out.good.np; show 512 * zk + 512 ≤ d.sync.now.pg.length; have := HKN.out; omega)
        · rw [habs];exact HI3.out.good.write HT.out zk HKN.out zs.b HSB.out HSX.out 4 (Nat.le_refl _)
        · show Gs K.G W6 v (P.ahead zs.place).l;rw [(ZaE P zs.place).2.1];exact HCK.out.below hw6 (Nat.le_refl _)
        · show ShRow K W6 ⟨some ⟨b, off, none⟩, sl, sc⟩ (({ P.ahead zs.place with D := (P.ahead zs.place).D.write zk zs.b } : Po).inl n);rw [show ({ P.ahead zs.place with D := (P.ahead zs.place).D.write zk zs.b } : Po).inl n = P.inl n from Zb8 (fun i => congrFun (ZaE P zs.place).1 i)];exact HSH.out.keep hw6
        · exact Nat.le_trans HLOW.out hw6.size
      have hSET := Zdp hI6.sh (by
        have h1 : (({ P.ahead zs.place with D := (P.ahead zs.place).D.write zk zs.b } : Po).inl n).length ≤ n := Zc4 _ n;have := HN.out;omega) d2 L2 v P.h (P.ahead zs.place).sy ((zk, { zs with dirty := false }), ⟨qa, ql, qc⟩) (HQ.out.keep hw6 (Nat.le_refl _)) HQL.out
      have HSET := hide hSET;have HL6 := hide (ldR hX6.b);have HS5 := hide hst5;have HS6 := hide hst6;have HX6 := hide hX6;have HI6 := hide hI6;have y0 := hXB6.c0;have y1 := hXB6.c1;have y2 := hXB6.c2;have y3 := hXB6.c3;simp only [SS.val, SS.cells, Sl.val] at HSET y0 y1 y2 y3;clear hb4 hX4 hXB4 hst5 hblk5 hf5 hs5 hX5 hXB5 hst6 hXB6 hf6 hs6 hX6 hw6 hD6 hI6 hSET hB36 hD2;go_wp2_with (first | refine Zab _ rfl rfl 37 (.tmp 36) (.tmp 34) rfl (.pointer (some ⟨w.heap.size, 0, none⟩)) (d2.val L2) rfl rfl W5 HS5.out ?_ | refine Zab _ rfl rfl 4 (.tmp 37) (.const (.bool false)) rfl (.pointer (some ⟨w.heap.size + 2, 2, none⟩)) (.bool false) rfl rfl W6 HS6.out ?_ | refine Zac _ rfl 43 (.tmp 2) rfl (.pointer (some ⟨w.heap.size, 0, none⟩)) _ rfl HL6.out ?_);refine HSET.out.mono ?_;rintro e w7 ⟨hb7, s7, rfl, hrow7⟩;have hX7 := HX6.out.keep hb7;obtain ⟨W8, hst8, hb8, hB8, hf8⟩ := hX7.tell d2 L2 v P.h s7 (P.ahead zs.place).sy;have hI8 : RpIn K W8 n tot (m + 4) (P.wrote zk zs) d2 L2 v s7 := by
        have hI7 := HI6.out.keep hb7;refine ⟨ZaH hI7.dv hf8 hX7.ans, hI7.rel, hI7.good, ?_, ?_, Nat.le_trans HLOW.out hB8.size⟩
        · show Gs K.G W8 v (P.ahead zs.place).l;rw [(ZaE P zs.place).2.1];exact HCK.out.below hB8 (Nat.le_refl _)
        · have e : setL (({ P.ahead zs.place with D := (P.ahead zs.place).D.write zk zs.b } : Po).inl n) (zk, { zs with dirty := false }) = (P.wrote zk zs).inl n := ZdO _ HKN.out _;rw [e] at hrow7;exact ZaJ hrow7 hf8 hX7.ans
      have HS8 := hide hst8;have HB8 := hide hb8;have HBB := hide hB8;have HSAY : Hid (Zay K n tot (m + 4) (P.wrote zk zs) (rV d2 L2 v P.h s7 (P.ahead zs.place).sy) W8) := ⟨d2, L2, v, s7, by rw [HHH.out, show (P.wrote zk zs).sy = (P.ahead zs.place).sy from rfl], hI8⟩;clear hb7 hrow7 hX7 hst8 hb8 hB8 hf8 hI8 y0 y1 y2 y3;unfold rV at HS8;go_wp2_with (refine Zab _ rfl rfl 43 (.tmp 4) (.tmp 40) rfl (.pointer (some ⟨w.heap.size + 1, 0, none⟩)) _ rfl rfl W8 HS8.out ?_);refine bodyPost_ret (Zaw rfl HB8.out _ rfl) rfl ?_;exact ⟨HBB.out, _, rfl, HSAY.out⟩
    · have hAh : P.ahead zs.place = P := if_neg hzs;have hgt : decide (P.sy < zs.place) = false := decide_eq_false hzs;(have HI3 : Hid (RpIn K W1 n tot m (P.ahead zs.place) d Ld v ⟨some ⟨b, off, none⟩, sl, sc⟩) := by rw [hAh]; exact HI.out.keep HX1.out.e);(have HX3 : Hid (Rx w W1 (w.heap.size + 1) d Ld v P.h ⟨some ⟨b, off, none⟩, sl, sc⟩ (P.ahead zs.place).sy) := by rw [hAh]; exact HX1);have HXB3 := HXB1;clear hAh hd;go_enter Tryz.func66, Tryz.ntmps66;have hE3 := HI3.out;obtain ⟨ls3, hls3, hc3, hz3⟩ := hE3.sh;have hbq3 : BsS K W1 ⟨qa, ql, qc⟩ zs.b := HQ.out.keep (HX3.out.e) (Nat.le_refl _);have hWR := Zeu d Ld W1 hE3.dv n zk hE3.good.kp hE3.good.np (by have := HN.out; omega) HKN.out ⟨qa, ql, qc⟩ zs.b hbq3 HQL.out (by have := hE3.good.nt; have := HT.out; have h1 : d.now.base.toNat + d.now.st.length ≤ tot := hE3.good.nt; omega) hE3.good.mx (by have h1 : d.done.length ≤ m := by { have := hE3.good.len; simpa [Dv.abs] using this }; have := HM.out; omega);have HWR := hide hWR;have HLD3 := hide (ldRD HX3.out.b);have x0 := HXB3.out.c0;have x1 := HXB3.out.c1;simp only [Sl.val] at HWR x0 x1;clear hE3 hls3 hc3 hz3 hbq3 hWR;rw [HW1.out] at HLD3 x0 x1;go_wp2_with (first | refine Zac _ rfl 37 (.tmp 27) rfl (.pointer (some ⟨w.heap.size, 0, none⟩)) _ rfl HLD3.out ?_);rw [← HW1.out];refine HWR.out.mono ?_;rintro e w4 ⟨hb4, d2, L2, rfl, hD2, habs⟩;clear x0 x1;have hX4 := HX3.out.keep hb4;have hXB4 : XBlk w4 (w.heap.size + 2) ((zk, zs), ⟨qa, ql, qc⟩) := (hb4.block _ HXB3.out.lt).trans HXB3.out;obtain ⟨W5, hst5, hblk5, hf5, hs5⟩ := stRD hX4.b d2 L2;have hX5 := hX4.turn hblk5 hf5;have hXB5 : XBlk W5 (w.heap.size + 2) ((zk, zs), ⟨qa, ql, qc⟩) := hXB4.frm hf5 (by omega);obtain ⟨W6, hst6, hXB6, hf6, hs6⟩ := stXd hXB5 false;have hX6 := hX5.other hf6 (fun q e => by omega);have hB36 : Below W1.heap.size W1 W6 ∨ True := .inr trivial;have hw6 : Below w.heap.size w W6 := hX6.e;have hD6 : DvIn K W6 d2 L2 := ZeZ hD2 (show ∀ i, i ≠ w.heap.size ∧ i ≠ w.heap.size + 2 → i < w4.heap.size → W6.heap[i]? = w4.heap[i]? from fun i hi hl => by rw [hf6.block i (by omega) hi.2, hf5.block i hl hi.1]) hX4.b hXB4 (by rw [hs6, hs5]; exact Nat.le_refl _);have hI6 : RpIn K W6 n tot (m + 4) { P.ahead zs.place with D := (P.ahead zs.place).D.write zk zs.b } d2 L2 v ⟨some ⟨b, off, none⟩, sl, sc⟩ := by
        refine ⟨hD6, ?_, ?_, ?_, ?_, ?_⟩
        · rw [habs];exact HI3.out.rel.write zk zs.b HSB.out (by have h1 : d.now.pg.length = 512 * n := HI3.out.good.np; show 512 * zk + 512 ≤ d.now.pg.length; have := HKN.out; omega)
        · rw [habs];exact HI3.out.good.write HT.out zk HKN.out zs.b HSB.out HSX.out 4 (Nat.le_refl _)
        · show Gs K.G W6 v (P.ahead zs.place).l;rw [(ZaE P zs.place).2.1];exact HCK.out.below hw6 (Nat.le_refl _)
        · show ShRow K W6 ⟨some ⟨b, off, none⟩, sl, sc⟩ (({ P.ahead zs.place with D := (P.ahead zs.place).D.write zk zs.b } : Po).inl n);rw [show ({ P.ahead zs.place with D := (P.ahead zs.place).D.write zk zs.b } : Po).inl n = P.inl n from Zb8 (fun i => congrFun (ZaE P zs.place).1 i)];exact HSH.out.keep hw6
        · exact Nat.le_trans HLOW.out hw6.size
      have hSET := Zdp hI6.sh (by
        have h1 : (({ P.ahead zs.place with D := (P.ahead zs.place).D.write zk zs.b } : Po).inl n).length ≤ n := Zc4 _ n;have := HN.out;omega) d2 L2 v P.h (P.ahead zs.place).sy ((zk, { zs with dirty := false }), ⟨qa, ql, qc⟩) (HQ.out.keep hw6 (Nat.le_refl _)) HQL.out
      have HSET := hide hSET;have HL6 := hide (ldR hX6.b);have HS5 := hide hst5;have HS6 := hide hst6;have HX6 := hide hX6;have HI6 := hide hI6;have y0 := hXB6.c0;have y1 := hXB6.c1;have y2 := hXB6.c2;have y3 := hXB6.c3;simp only [SS.val, SS.cells, Sl.val] at HSET y0 y1 y2 y3;clear hb4 hX4 hXB4 hst5 hblk5 hf5 hs5 hX5 hXB5 hst6 hXB6 hf6 hs6 hX6 hw6 hD6 hI6 hSET hB36 hD2;go_wp2_with (first | refine Zab _ rfl rfl 37 (.tmp 36) (.tmp 34) rfl (.pointer (some ⟨w.heap.size, 0, none⟩)) (d2.val L2) rfl rfl W5 HS5.out ?_ | refine Zab _ rfl rfl 4 (.tmp 37) (.const (.bool false)) rfl (.pointer (some ⟨w.heap.size + 2, 2, none⟩)) (.bool false) rfl rfl W6 HS6.out ?_ | refine Zac _ rfl 43 (.tmp 2) rfl (.pointer (some ⟨w.heap.size, 0, none⟩)) _ rfl HL6.out ?_);refine HSET.out.mono ?_;rintro e w7 ⟨hb7, s7, rfl, hrow7⟩;have hX7 := HX6.out.keep hb7;obtain ⟨W8, hst8, hb8, hB8, hf8⟩ := hX7.tell d2 L2 v P.h s7 (P.ahead zs.place).sy;have hI8 : RpIn K W8 n tot (m + 4) (P.wrote zk zs) d2 L2 v s7 := by
        have hI7 := HI6.out.keep hb7;refine ⟨ZaH hI7.dv hf8 hX7.ans, hI7.rel, hI7.good, ?_, ?_, Nat.le_trans HLOW.out hB8.size⟩
        · show Gs K.G W8 v (P.ahead zs.place).l;rw [(ZaE P zs.place).2.1];exact HCK.out.below hB8 (Nat.le_refl _)
        · have e : setL (({ P.ahead zs.place with D := (P.ahead zs.place).D.write zk zs.b } : Po).inl n) (zk, { zs with dirty := false }) = (P.wrote zk zs).inl n := ZdO _ HKN.out _;rw [e] at hrow7;exact ZaJ hrow7 hf8 hX7.ans
      have HS8 := hide hst8;have HB8 := hide hb8;have HBB := hide hB8;have HSAY : Hid (Zay K n tot (m + 4) (P.wrote zk zs) (rV d2 L2 v P.h s7 (P.ahead zs.place).sy) W8) := ⟨d2, L2, v, s7, by rw [HHH.out, show (P.wrote zk zs).sy = (P.ahead zs.place).sy from rfl], hI8⟩;clear hb7 hrow7 hX7 hst8 hb8 hB8 hf8 hI8 y0 y1 y2 y3;unfold rV at HS8;go_wp2_with (refine Zab _ rfl rfl 43 (.tmp 4) (.tmp 40) rfl (.pointer (some ⟨w.heap.size + 1, 0, none⟩)) _ rfl rfl W8 HS8.out ?_);refine bodyPost_ret (Zaw rfl HB8.out _ rfl) rfl ?_;exact ⟨HBB.out, _, rfl, HSAY.out⟩
end Go.Proofs.YtpnlebpnhmibfaaGreat
