/-
  Lemmas.
-/
import Derived.Test.YtiecfcjlhldhdaaGreatKeaj
import Derived.Test.YtiecfcjlhldhdaaGreatKeaf
namespace Go.Proofs.YtiecfcjlhldhdaaGreat
open Go.RowKit
set_option linter.unusedVariables false
set_option linter.unusedSimpArgs false
set_option maxRecDepth 100000
set_option maxHeartbeats 4000000
variable {xs:List Nat}{k:Int}
theorem Zlg (a b:Nat)(x y:Operand)(h:a+b≤9223372036854775807)(w:World):(do eqGuard .add 3 x y (.int .i64 (a:Nat)) (.int .i64 (b:Nat));binOp .add 3 (.int .i64 (a:Nat)) (.int .i64 (b:Nat)):Sem Value).run Tryz.prog w=.ok (.int .i64 ((a+b:Nat):Int)) w:=by
 (have e:IntKind.i64.wrap ((a:Int)+(b:Int))=((a+b:Nat):Int):=by rw [IntKind.wrap_i64];omega);simp [go_sem,eqGuard,e]
theorem ZgR:∀args w,(callFunc 163 args).run Tryz.prog w=.ok (.enter 163 args) w:=Pl.qi Tryz.func163
theorem Zlz:∀args w,(callFunc 164 args).run Tryz.prog w=.ok (.enter 164 args) w:=Pl.qi Tryz.func164
theorem Zh0 (x:It)(m:Bool)(hm:x.may=m)(w:World):Calls Tryz.prog 163 #[x.val] w fun e w'=>e=.returned (.bool m)∧Below w.heap.size w w':=by
 have:=Zf9 x w;rw [hm] at this;exact this
def cand (xs:List Nat) (k:Int):It × Nat:=
  if k=4 then (⟨4,0,numB (xs.take 8),noS⟩,8)
  else if k=5 then (⟨5,0,0,bstr ((xs.drop 1).take (numB (xs.take 1)))⟩,1+numB (xs.take 1))
  else (⟨k,numB (xs.take (cntN k)),0,noS⟩,cntN k)
theorem Zg9 (ys:List Nat):(bstr ys).size=ys.length:=by
 show (bstr ys).data.size=_;rw [← Array.length_toList];unfold bstr;rw [strOfNums_data];simp
theorem ZmL {ys:List Nat}(h:Bytes ys):strB (bstr ys)=ys:=by
 apply ZiX (ZfM _) h;rw [ZgA]
theorem Zer:noS.toList=[]:=by unfold noS;rw [ByteArray.toList_eq]
theorem ZhV (hx:Bytes xs)(hk:1≤k∧k≤5)(h1:(if k=4 then 8 else if k=5 then 1 else cntN k)≤xs.length)(h2:(cand xs k).2≤xs.length) :
    ((cand xs k).1.may=false→tk xs k=none)∧((cand xs k).1.may=true→(cand xs k).1.bytes≠xs.take (cand xs k).2→tk xs k=none)∧((cand xs k).1.may=true→(cand xs k).1.bytes=xs.take (cand xs k).2→tk xs k=some (cand xs k)):=by
  have hb:∀m,Bytes (xs.take m):=fun m x hh=>hx x (List.mem_of_mem_take hh);by_cases h4:k=4
  · subst h4;simp only [if_true] at h1;(have e:cand xs 4=(⟨4,0,numB (xs.take 8),noS⟩,8):=by simp [cand]);(have aa:It.may ⟨4,0,numB (xs.take 8),noS⟩=true:=by simp [It.may,Zer]);(have ab:It.bytes ⟨4,0,numB (xs.take 8),noS⟩=bigB (Fl.val (numB (xs.take 8))) 8:=by simp [It.bytes]);(have ag:(xs.take 8).length=8:=by rw [List.length_take];omega);have ae:bigB (numB (xs.take 8)) 8=xs.take 8:=by
     have:=ZcR (hb 8);rw [ag] at this;exact this
    have aj:numB (xs.take 8)<256 ^ 8:=by
     have:=ZbS (hb 8);rw [ag] at this;exact this
    rw [e];simp only;rw [aa,ab];refine⟨fun h=>(by cases h),fun _ ad=>?_,fun _ ah=>?_⟩
    · have:¬Fl.val (numB (xs.take 8))=numB (xs.take 8):=fun h=>ad (by rw [h];exact ae);simp only [tk,if_true];rw [if_pos h1,if_neg this]
    · have:Fl.val (numB (xs.take 8))=numB (xs.take 8):=by
       have h3:=Zdl (Fl.val (numB (xs.take 8))) 8;rw [ah] at h3;have h5:Fl.val (numB (xs.take 8))<256 ^ 8:=by
        (have:numB (xs.take 8)<18446744073709551616:=by simpa using aj);have:=Fl.val_lt this;simpa using this
       rw [Nat.mod_eq_of_lt h5] at h3;exact h3.symm
      simp only [tk,if_true];rw [if_pos h1,if_pos this]
  by_cases h5:k=5
  · subst h5;simp only [show ¬(5:Int)=4 by decide,if_false,if_true] at h1;(have e:cand xs 5=(⟨5,0,0,bstr ((xs.drop 1).take (numB (xs.take 1)))⟩,1+numB (xs.take 1)):=by simp [cand]);rw [e] at h2 ⊢;simp only at h2 ⊢;have hU:numB (xs.take 1)<256:=by
     have h:=ZbS (hb 1);(have h3:(xs.take 1).length≤1:=by rw [List.length_take];omega);have h4:256 ^ (xs.take 1).length≤256 ^ 1:=Nat.pow_le_pow_right (by decide) h3;omega
    (have ac:((xs.drop 1).take (numB (xs.take 1))).length=numB (xs.take 1):=by rw [List.length_take,List.length_drop];omega);have hB:Bytes ((xs.drop 1).take (numB (xs.take 1))):=fun x hh=>hx x (List.mem_of_mem_drop (List.mem_of_mem_take hh));have aa:It.may ⟨5,0,0,bstr ((xs.drop 1).take (numB (xs.take 1)))⟩=true:=by
     (have hs:(bstr ((xs.drop 1).take (numB (xs.take 1)))).size<256:=by rw [Zg9,ac];exact hU);generalize bstr ((xs.drop 1).take (numB (xs.take 1)))=S at hs ⊢;simp [It.may,hs]
    have ab:It.bytes ⟨5,0,0,bstr ((xs.drop 1).take (numB (xs.take 1)))⟩=xs.take (1+numB (xs.take 1)):=by
     have h0:It.bytes ⟨5,0,0,bstr ((xs.drop 1).take (numB (xs.take 1)))⟩=numB (xs.take 1) :: (xs.drop 1).take (numB (xs.take 1)):=by
      (have hs:(bstr ((xs.drop 1).take (numB (xs.take 1)))).size=numB (xs.take 1):=by rw [Zg9,ac]);have h9:It.bytes ⟨5,0,0,bstr ((xs.drop 1).take (numB (xs.take 1)))⟩=(bstr ((xs.drop 1).take (numB (xs.take 1)))).size :: strB (bstr ((xs.drop 1).take (numB (xs.take 1)))):=by
       generalize bstr ((xs.drop 1).take (numB (xs.take 1)))=S;simp [It.bytes]
      rw [h9,hs,ZmL hB]
     rw [h0];cases xs with
     | nil=>simp at h1
     | cons y r =>
      (have:numB ((y :: r).take 1)=y:=by simp [numB]);rw [this];simp [Nat.add_comm 1 y]
    rw [aa,ab];refine⟨fun h=>(by cases h),fun _ ad=>absurd rfl ad,fun _ _=>?_⟩;simp only [tk,show ¬(5:Int)=4 by decide,if_false,if_true];rw [if_pos h1,if_pos h2]
  (have af:k=1∨k=2∨k=3:=by omega);simp only [h4,h5,if_false] at h1;(have e:cand xs k=(⟨k,numB (xs.take (cntN k)),0,noS⟩,cntN k):=by simp [cand,h4,h5]);rw [e];simp only;(have ai:(xs.take (cntN k)).length=cntN k:=by rw [List.length_take];omega);have ab:It.bytes ⟨k,(numB (xs.take (cntN k)):Nat),0,noS⟩=xs.take (cntN k):=by
   rw [Znh af];have:=ZcR (hb (cntN k));rw [ai] at this;exact this
  have aa:It.may ⟨k,(numB (xs.take (cntN k)):Nat),0,noS⟩=decide ((numB (xs.take (cntN k)):Int)≤maxN k):=by
   rw [Zo5 af];simp [Zer]
  rw [aa,ab,Zj7 af,if_pos h1];refine⟨fun h=>?_,fun _ ad=>absurd rfl ad,fun h _=>?_⟩
  · rw [if_neg (of_decide_eq_false h)]
  · rw [if_pos (of_decide_eq_true h)]
theorem Zmu (w0 w:World)(a:Option Addr)(len cap q n g:Nat)(xs:List Nat)(x:It)(hx:ItAt w0 g 0 x)(hb:Bs w0 a len xs)(hc:len≤cap)(hq:q+n≤len)(hl:len≤9223372036854775807)(hW:Below w0.heap.size w0 w)(hm:x.may=false)
    {Q:Exit→Act→World→Prop}{A:Act}(ae:A.tmps.size=136)(ad:A.defers=[])(s0:A.tmps.getD 0 undef=.slice a len cap)(s10:A.tmps.getD 10 undef=.int .i64 (q:Nat))(s12:A.tmps.getD 12 undef=.int .i64 (n:Nat))(s15:A.tmps.getD 15 undef=.pointer (some ⟨g,0,none⟩))
    (hend:∀(u:Nat→Value) w',Below w0.heap.size w0 w'→Q .normal ((Pl.pu A u [111,112,113,114,115,116,117,118,119,120,121,122,123,124,125]).put (some 126) (.bool true)) w') :
    (Code.region 30 (Pl.find 30 ((Tryz.f162.body).getD .skip)) true).wp Tryz.prog Q A w:=by
  have ab:Below w0.heap.size w0 w.drew:=hW.drew;have hA:=Pl.At.same (v:=.pointer (some ⟨g,0,none⟩)) (d:=15) (Pl.At.same (v:=.int .i64 (n:Nat)) (d:=12) (Pl.At.same (v:=.int .i64 (q:Nat)) (d:=10) (Pl.At.same (v:=.slice a len cap) (d:=0) (Pl.At.here ae ad) s0) s10) s12) s15;refine Pl.qa (S:=fun w'=>Below w0.heap.size w0 w') hA ab ?_;rw [show (Pl.find 30 ((Tryz.f162.body).getD .skip)).size=16 by kernel_rfl];refine Pl.q0 0 111 (x.val) (Pl.q1) (Pl.q4 182 (.tmp 15) (fun w' hS=>ZeG g 0 x w' (Zao hx hS))) ab ?_;refine Pl.qd 1 112 163 [(.tmp 111)] #[182] (Pl.q1) ZgR (Calls.mono (Zh0 x false hm w.drew) ?_);rintro e w1 ⟨rfl,ac⟩;have aa:=ab.trans (ac.mono ab.size);refine⟨.bool false,rfl,aa,?_⟩;refine Pl.q0 2 113 (.bool true) (Pl.q1) (Pl.qt 4 (.tmp 112) false) aa ?_;refine Pl.q0 3 114 (.bool true) (Pl.q1) (Pl.q2 (.tmp 113)) aa ?_;refine Pl.q6 4 115 (Pl.q7 3 114 false) aa ?_;refine Pl.q6 5 116 (Pl.q7 3 114 false) aa ?_;refine Pl.q6 6 117 (Pl.q7 3 114 false) aa ?_;refine Pl.q6 7 118 (Pl.q7 3 114 false) aa ?_;refine Pl.q6 8 119 (Pl.q7 3 114 false) aa ?_;refine Pl.q6 9 120 (Pl.q7 3 114 false) aa ?_;refine Pl.q6 10 121 (Pl.q7 3 114 false) aa ?_;refine Pl.q6 11 122 (Pl.q7 3 114 false) aa ?_;refine Pl.q6 12 123 (Pl.q7 3 114 false) aa ?_;refine Pl.q6 13 124 (Pl.q7 3 114 false) aa ?_;refine Pl.q6 14 125 (Pl.q7 3 114 false) aa ?_;refine Pl.q0 15 126 (.bool true) (Pl.q1) (Pl.qq (.tmp 114) (.const (.bool true)) (.tmp 125)) aa ?_;refine Pl.q8 (fun A' hA'=>?_);rw [Pl.At.ext hA' ((((((((((((((((hA.put 111 _).put 112 _).put 113 _).put 114 _).put 115 _).put 116 _).put 117 _).put 118 _).put 119 _).put 120 _).put 121 _).put 122 _).put 123 _).put 124 _).put 125 _).put 126 _)];exact hend hA'.fn _ aa
theorem Zf8 (w0 w:World)(a:Option Addr)(len cap q n g:Nat)(xs:List Nat)(x:It)(hx:ItAt w0 g 0 x)(hb:Bs w0 a len xs)(hc:len≤cap)(hq:q+n≤len)(hl:len≤9223372036854775807)(hW:Below w0.heap.size w0 w)(hm:x.may=true)(aj:x.x<18446744073709551616)
    {Q:Exit→Act→World→Prop}{A:Act}(ai:A.tmps.size=136)(ag:A.defers=[])(s0:A.tmps.getD 0 undef=.slice a len cap)(s10:A.tmps.getD 10 undef=.int .i64 (q:Nat))(s12:A.tmps.getD 12 undef=.int .i64 (n:Nat))(s15:A.tmps.getD 15 undef=.pointer (some ⟨g,0,none⟩))
    (hend:∀(u:Nat→Value) w',Below w0.heap.size w0 w'→Q .normal ((Pl.pu A u [111,112,113,114,115,118,119,120,121,122,123,124,116,117,125]).put (some 126) (.bool (!((bstr x.bytes).toList == (bstr ((xs.drop q).take (q+n-q))).toList)))) w') :
    (Code.region 30 (Pl.find 30 ((Tryz.f162.body).getD .skip)) true).wp Tryz.prog Q A w:=by
  have ac:Below w0.heap.size w0 w.drew:=hW.drew;have hA:=Pl.At.same (v:=.pointer (some ⟨g,0,none⟩)) (d:=15) (Pl.At.same (v:=.int .i64 (n:Nat)) (d:=12) (Pl.At.same (v:=.int .i64 (q:Nat)) (d:=10) (Pl.At.same (v:=.slice a len cap) (d:=0) (Pl.At.here ai ag) s0) s10) s12) s15;refine Pl.qa (S:=fun w'=>Below w0.heap.size w0 w') hA ac ?_;rw [show (Pl.find 30 ((Tryz.f162.body).getD .skip)).size=16 by kernel_rfl];refine Pl.q0 0 111 (x.val) (Pl.q1) (Pl.q4 182 (.tmp 15) (fun w' hS=>ZeG g 0 x w' (Zao hx hS))) ac ?_;refine Pl.qd 1 112 163 [(.tmp 111)] #[182] (Pl.q1) ZgR (Calls.mono (Zh0 x true hm w.drew) ?_);rintro e w1 ⟨rfl,ae⟩;have aa:=ac.trans (ae.mono ac.size);refine⟨.bool true,rfl,aa,?_⟩;refine Pl.q0 2 113 (.bool false) (Pl.q1) (Pl.qt 4 (.tmp 112) true) aa ?_;refine Pl.q0 3 114 (.bool false) (Pl.q1) (Pl.q2 (.tmp 113)) aa ?_;refine Pl.q0 4 115 (x.val) (Pl.q3 3 114 false) (Pl.q4 182 (.tmp 15) (fun w' hS=>ZeG g 0 x w' (Zao hx hS))) aa ?_;refine Pl.q0 7 118 (.slice a len cap) (Pl.q3 3 114 false) (Pl.q2 (.tmp 0)) aa ?_;refine Pl.q0 8 119 (.int .i64 (q:Nat)) (Pl.q3 3 114 false) (Pl.q2 (.tmp 10)) aa ?_;refine Pl.q0 9 120 (.int .i64 (q:Nat)) (Pl.q3 3 114 false) (Pl.q2 (.tmp 10)) aa ?_;refine Pl.q0 10 121 (.int .i64 (n:Nat)) (Pl.q3 3 114 false) (Pl.q2 (.tmp 12)) aa ?_;refine Pl.q0 11 122 (.int .i64 ((q+n:Nat):Int)) (Pl.q3 3 114 false) (Pl.qc .add 3 3 (.tmp 120) (.tmp 121) (.int .i64 (q:Nat)) (.int .i64 (n:Nat)) (Zlg _ _ _ _ (by omega))) aa ?_;refine Pl.q0 12 123 (.slice (fromA a cap q) (q+n-q) (cap-q)) (Pl.q3 3 114 false) (Pl.qu 107 (.tmp 118) (some (.tmp 119)) (some (.tmp 122)) (ZeX a len cap q (q+n) (by omega) hq hc)) aa ?_;refine Pl.q0 13 124 (.string (bstr ((xs.drop q).take (q+n-q)))) (Pl.q3 3 114 false) (Pl.q_46 107 9 (.tmp 123) (.slice (fromA a cap q) (q+n-q) (cap-q)) (fun w' hS=>Zam (cap-q) ((hb.keep hS (Nat.le_refl _)).mid (cap:=cap) (k:=q) (j:=q+n) (by omega) hq hc))) aa ?_;refine Pl.qd 5 116 164 [(.tmp 115)] #[182] (Pl.q3 3 114 false) Zlz (Calls.mono (ZfA x hm aj w1) ?_);rintro e w2 ⟨v2,rfl,ah,af⟩;obtain⟨a2,c2,rfl,ad,_⟩:=ah.bs (ZdD hm).2;have ab:=aa.trans (af.mono aa.size);refine⟨.slice a2 x.bytes.length c2,rfl,ab,?_⟩;refine Pl.qv 6 117 (.string (bstr x.bytes)) (Pl.q3 3 114 false) (Pl.q_47 107 9 (.tmp 116) (Zam c2 ad)) ab ?_;refine Pl.q0 14 125 (.bool (!((bstr x.bytes).toList == (bstr ((xs.drop q).take (q+n-q))).toList))) (Pl.q3 3 114 false) (Pl.neqStrs 14 9 9 (.tmp 117) (.tmp 124) (bstr x.bytes) (bstr ((xs.drop q).take (q+n-q))) (by kernel_rfl) (by decide) (by decide) rfl rfl) ab ?_;refine Pl.q0 15 126 (.bool (!((bstr x.bytes).toList == (bstr ((xs.drop q).take (q+n-q))).toList))) (Pl.q1) (Pl.ql (.tmp 114) (.const (.bool true)) (.tmp 125)) ab ?_;refine Pl.q8 (fun A' hA'=>?_);rw [Pl.At.ext hA' ((((((((((((((((hA.put 111 _).put 112 _).put 113 _).put 114 _).put 115 _).put 118 _).put 119 _).put 120 _).put 121 _).put 122 _).put 123 _).put 124 _).put 116 _).put 117 _).put 125 _).put 126 _)];exact hend hA'.fn _ ab
def szN (k:Int):Nat:=if k=4 then 8 else if k=5 then 1 else cntN k
theorem ZqV (k:Int):szN k≤8:=by
 unfold szN;split
 · omega
 · split
   · omega
   · exact ZhW k
def Sz (w:World) (g:Nat):Prop:=∀k:Nat,1≤k→k≤5→w.cell? ⟨g,k,none⟩=some (.int .i64 (szN k:Nat))
theorem ZqW (w:World):Sz (w.alloc (.cells #[.int .i64 0,.int .i64 1,.int .i64 2,.int .i64 4,.int .i64 8,.int .i64 1] 3)) w.heap.size:=by
 intro k h1 h5;(have:k=1∨k=2∨k=3∨k=4∨k=5:=by omega);rcases this with rfl | rfl | rfl | rfl | rfl <;> simp [go_sem,szN,cntN]
theorem Sz.keep {w w':World}{B g:Nat}(h:Sz w g)(hb:Below B w w')(hg:g<B):Sz w' g:=fun k h1 h5=>(hb.cell (p:=⟨g,k,none⟩) hg).trans (h k h1 h5)
theorem Zol (hk:1≤k∧k≤5)(h:xs.length<szN k):tk xs k=none:=by
 unfold szN at h;by_cases h4:k=4
 · subst h4;simp only [if_true] at h;simp only [tk,if_true];rw [if_neg (by omega)]
 · by_cases h5:k=5
   · subst h5;simp only [h4,if_false,if_true] at h;simp only [tk,h4,if_false,if_true];rw [if_neg (by omega)]
   · simp only [h4,h5,if_false] at h;simp only [tk,h4,h5,if_false];rw [if_neg (by omega)]
theorem OwnsI.lower {w:World}{b b':Nat}{v:Value}{l:List It}(h:OwnsI w b v l)(hb:b'≤b):OwnsI w b' v l:=by
 refine⟨h.1,?_⟩;rcases h.2 with hn | ⟨g,cap,cur,hv,aa,rest⟩
 · exact .inl hn
 · exact .inr ⟨g,cap,cur,hv,Nat.le_trans hb aa,rest⟩
theorem Zpz (w:World)(o:Obj):OwnsI ((w.alloc o).alloc (.cells #[] 182)) (w.heap.size+1) (.slice (some ⟨w.heap.size+1,0,none⟩) 0 0) []:=by
 have:=OwnsI.new (w.alloc o);simpa using this
theorem Zom {ks:List Int}{j q:Nat}{l:List It}(hj:j<ks.length)(hk:k=ks.getD j 0)(h:tks xs ks [] 0=tks xs (ks.drop j) l q) :
    (tk (xs.drop q) k=none→tks xs ks [] 0=none)∧(∀i m,tk (xs.drop q) k=some (i,m)→tks xs ks [] 0=tks xs (ks.drop (j+1)) (l ++ [i]) (q+m)):=by
  have hd:ks.drop j=k :: ks.drop (j+1):=by
   rw [List.drop_eq_getElem_cons hj,hk];simp [List.getD,hj]
  rw [hd] at h;simp only [tks] at h;refine⟨fun e=>?_,fun i m e=>?_⟩
  · rw [h,e]
  · rw [h,e]
theorem Zbz {ks:List Int}{klen:Nat}(aa:ks.length=klen)(hg:∀t,t<klen→1≤ks.getD t 0∧ks.getD t 0≤5)(h:tks xs ks [] 0=none):Zaw xs ks=([],0,4):=by
 rw [ZbT (fun t ht=>hg t (by rw [← aa];exact ht)),h]
theorem Ziz (a:Option Addr)(len cap:Nat)(xs:List Nat)(ka:Option Addr)(klen kcap:Nat)(ks:List Int)(w:World)(hb:Came w a len cap xs)(hk:Ks w ka klen ks)(hl:len≤100000)(df:klen≤1000) :
    Calls Tryz.prog 162 #[.slice a len cap,.slice ka klen kcap] w (ZaM xs ks w):=by
  have HC:=hide hb;have HK:=hide hk;have ao:=hide hk.1;have ck:Hid (Bytes xs):=hb.bs.2.1;have ag:Hid (xs.length=len):=hb.bs.1;clear hb hk;go_enter Tryz.func162,Tryz.ntmps162;go_wp2_with fail;go_loop [7] (fun i=>∃j:Nat,j≤klen∧i=.int .i64 j∧Hid (∀t,t<j→1≤ks.getD t 0∧ks.getD t 0≤5)) (fun i=>klen-(intOf i).toNat)
  case atStart=>exact ⟨0,by omega,rfl,fun t ht=>by omega⟩
  case round =>
   obtain⟨j,hj,rfl,av⟩:=hrel;rcases Nat.lt_or_ge j klen with bq | cr
   · obtain⟨b,off,rfl,ae⟩:=HK.out.2 j bq;obtain⟨k,bg⟩:∃k,k=ks.getD j 0:=⟨_,rfl⟩;rw [← bg] at ae;have an:=hide bg;clear bg;by_cases ce:1≤k∧k≤5
     · (have i1:¬k<1:=by omega);(have i2:¬5<k:=by omega);have cm:=hide ce;clear ce;go_wp2_with fail;go_round
       case rel =>
        refine⟨j+1,by omega,by go_num,?_⟩;intro t ht;by_cases e:t=j
        · rw [e,← an.out];exact cm.out
        · exact av.out t (by omega)
       case measure=>simp only [intOf];omega
     · have HO:Hid (Zaw xs ks=([],0,1)):=Zmk (j:=j) (by rw [ao.out];exact bq) (by rw [← an.out];exact ce);(have ct:k<1∨(¬k<1∧5<k):=by omega);clear ce;rcases ct with h1 | ⟨h1,h2⟩
       · go_wp2_with fail;go_ret3;unfold ZaM;rw [HO.out];exact⟨_,rfl,Below.refl _ _,OwnsI.nil _ _,fun i hi=>by cases hi⟩
       · go_wp2_with fail;go_ret3;unfold ZaM;rw [HO.out];exact⟨_,rfl,Below.refl _ _,OwnsI.nil _ _,fun i hi=>by cases hi⟩
   · have HG:Hid (∀t,t<klen→1≤ks.getD t 0∧ks.getD t 0≤5):=fun t ht=>av.out t (by omega);clear av;go_wp2_with fail;have cd:=ZqW w;have bm:=cd.keep (Zaa _ (.cells #[] 182)) (by simp);have aw:=Zpz w (.cells #[.int .i64 0,.int .i64 1,.int .i64 2,.int .i64 4,.int .i64 8,.int .i64 1] 3);have ch:=ZaE w (.cells #[.int .i64 0,.int .i64 1,.int .i64 2,.int .i64 4,.int .i64 8,.int .i64 1] 3) (.cells #[] 182);(have cc:w.heap.size+1≤((w.alloc (.cells #[.int .i64 0,.int .i64 1,.int .i64 2,.int .i64 4,.int .i64 8,.int .i64 1] 3)).alloc (.cells #[] 182)).heap.size:=by simp);generalize ((w.alloc (.cells #[.int .i64 0,.int .i64 1,.int .i64 2,.int .i64 4,.int .i64 8,.int .i64 1] 3)).alloc (.cells #[] 182))=w2 at bm aw ch cc ⊢;have cp:=hide bm;have cn:=hide aw;have bj:=hide ch;have ap:=hide cc;have dh:∀(w:World) (a:Addr) (m:Mode) (x:Nat),(store a (.float .f64 x) m).run Tryz.prog w=stored Tryz.prog w a (.float .f64 x) m:=fun w a m x=>run_store Tryz.prog w a _ m rfl;clear cd bm aw ch cc;go_loopw [9,10,11] (fun u9 u10 u11 wr=>∃(j q:Nat) (l:List It),j≤klen∧q≤len∧u10=.int .i64 q∧u11=.int .i64 j∧Hid (OwnsI wr (w.heap.size+1) u9 l)∧Hid (∀i∈l,i.fits)∧Hid (Below (w.heap.size+1) w2 wr)∧Hid (tks xs ks [] 0=tks xs (ks.drop j) l q)∧Hid (l.length=j)) (fun _ _ u11 _=>klen-(intOf u11).toNat)
     case atStart=>exact ⟨0,0,[],by omega,by omega,rfl,rfl,cn,hide (fun i hi=>by cases hi),hide (Below.refl _ _),hide (by simp),hide rfl⟩
     case round =>
      obtain⟨j,q,l,hj,hq,rfl,rfl,hO,hF,hB,hT,hL⟩:=hrel;have bn:Below w.heap.size w wr:=bj.out.trans (hB.out.mono (by omega));rcases Nat.lt_or_ge j klen with bq | cr
      · obtain⟨b,off,rfl,ae⟩:=(HK.out.keep bn (Nat.le_refl _)).2 j bq;obtain⟨k,bg⟩:∃k,k=ks.getD j 0:=⟨_,rfl⟩;rw [← bg] at ae;(have an:Hid (1≤k∧k≤5):=by rw [bg];exact HG.out j bq);have ar:=hide (Zom (by rw [ao.out];exact bq) bg hT.out);have ay:Hid (Bytes (xs.drop q)):=fun x hx=>ck.out x (List.mem_of_mem_drop hx);have br:=hide (HC.out.bs.keep bn (Nat.le_refl _));clear bg hT;obtain⟨kn,rfl⟩:=Int.eq_ofNat_of_zero_le (Int.le_trans (by decide) an.out.1);(have cl:1≤kn∧kn≤5:=by have:=an.out;omega);have cv:=(cp.out.keep hB.out (Nat.lt_succ_self _)) kn cl.1 cl.2;(have de:kn<6:=by omega);obtain⟨n,hn⟩:∃n,n=szN (kn:Nat):=⟨_,rfl⟩;(have dg:n≤8:=by rw [hn];exact ZqV _);rw [← hn] at cv;have HN:=hide hn;clear hn;rcases Nat.lt_or_ge (len-q) n with hs | hs
        · have HO:Hid (Zaw xs ks=([],0,4)):=Zbz ao.out HG.out (ar.out.1 (Zol an.out (by rw [← HN.out,List.length_drop,ag.out];exact hs)));(have i1:(len:Int)-(q:Int)<(n:Int):=by omega);go_wp2_with fail;go_ret3;unfold ZaM;rw [HO.out];exact⟨_,rfl,bn,OwnsI.nil _ _,fun i hi=>by cases hi⟩
        · (have i1:¬(len:Int)-(q:Int)<(n:Int):=by omega);go_wp2_with fail;go_loop [13,14] (fun uu ii=>∃t:Nat,t≤n∧ii=.int .i64 t∧uu=.int .u64 (numB ((xs.drop q).take t):Nat)) (fun _ ii=>n-(intOf ii).toNat)
          case atStart=>exact ⟨0,by omega,rfl,by simp [numB]⟩
          case round =>
           obtain⟨t,ht,rfl,rfl⟩:=hrel;obtain⟨U,hU⟩:∃U,U=numB ((xs.drop q).take t):=⟨_,rfl⟩;have ci:Bytes ((xs.drop q).take t):=fun x hx=>ay.out x (List.mem_of_mem_take hx);have cf:numB ((xs.drop q).take t)<256 ^ t:=by
            have h2:=ZbS ci;rw [show ((xs.drop q).take t).length=t by rw [List.length_take,List.length_drop,ag.out];omega] at h2;exact h2
           rw [← hU] at cf ⊢;rcases Nat.lt_or_ge t n with cy | cy
           · obtain⟨bb,bo,ha,cq⟩:=br.out.2.2 (q+t) (by omega);obtain⟨y,hy⟩:∃y,y=xs.getD (q+t) 0:=⟨_,rfl⟩;(have dj:y<256:=by rw [hy];exact Zl4 ck.out _);have db:U<72057594037927936:=by
              have h4:256 ^ t≤256 ^ 7:=Nat.pow_le_pow_right (by decide) (by omega);(have:(256:Nat) ^ 7=72057594037927936:=by decide);omega
             have co:Hid (numB ((xs.drop q).take (t+1))=U*256+y):=by
              (have hl':t<(xs.drop q).length:=by rw [List.length_drop,ag.out];omega);(have cu:q+t<xs.length:=by rw [ag.out];omega);rw [List.take_succ_eq_append_getElem hl',Zhv,← hU,hy];simp [List.getD,cu,hide]
             rw [← hy] at cq;have ca:=hide hU;have cz:=hide hy;subst ha;clear hU hy ci cf;go_wp2_with fail;go_round
             case rel=>exact ⟨t+1,by omega,by go_num,by rw [co.out];simp⟩
             case measure=>simp only [intOf];omega
           · (have cj:t=n:=by omega);subst cj;have ca:=hide hU;have bp:=hide cf;clear hU ci cf;have ad:(wr.alloc (.cells #[.int .i64 (kn:Nat),.int .i64 0,.float .f64 0,.string ⟨#[]⟩] 182)).cell? ⟨b,off+j,none⟩=some (.int .i64 (kn:Nat)):=((Zaa wr _).cell (p:=⟨b,off+j,none⟩) (World.block_lt_of_cell? wr _ ae)).trans ae;have am:Hid (U<18446744073709551616):=by
              have h6:256 ^ t≤256 ^ 8:=Nat.pow_le_pow_right (by decide) (by omega);(have h7:(256:Nat) ^ 8=18446744073709551616:=by decide);have h8:=bp.out;show U<18446744073709551616;omega
             by_cases h4:kn=4
             · subst h4;have cx:t=8:=HN.out;subst cx;have bl:(wr.alloc (.cells #[.int .i64 4,.int .i64 0,.float .f64 0,.string ⟨#[]⟩] 182)).cell? ⟨b,off+j,none⟩=some (.int .i64 4):=ad;clear ad;have dd:∀w,(callFunc 48 #[.int .u64 (U:Nat)]).run Tryz.prog w=.ok (.value (.float .f64 U)) w:=ZcW (U:Nat);have be:cand (xs.drop q) ((4:Nat):Int)=(⟨4,0,U,noS⟩,8):=by
                                   show cand (xs.drop q) 4=_;simp only [cand,if_true];rw [← ca.out]
               have ak:=ZhV ay.out an.out (by show (if (4:Int)=4 then 8 else _)≤_;rw [if_pos rfl,List.length_drop,ag.out];omega) (by rw [be];rw [List.length_drop,ag.out];simp only;omega);rw [be] at ak;simp only at ak;(have bi:q+(8)≤len:=by omega);have ai:=hide bi;have ah:=hide ak;have HI:Hid (ItAt (wr.alloc (.cells #[.int .i64 4,.int .i64 0,.float .f64 U,.string noS] 182)) wr.heap.size 0 ⟨4,0,U,noS⟩):=Zeo wr ⟨4,0,U,noS⟩ _;have aq:=hide (br.out.keep (Zaa wr (.cells #[.int .i64 4,.int .i64 0,.float .f64 U,.string noS] 182)) (Nat.le_refl _));have bv:=hide (hO.out.keep (Zaa wr (.cells #[.int .i64 4,.int .i64 0,.float .f64 U,.string noS] 182)) (Nat.le_refl _));have aj:=hide (hB.out.trans ((Zaa wr (.cells #[.int .i64 4,.int .i64 0,.float .f64 U,.string noS] 182)).mono (Nat.le_trans ap.out hB.out.size)));have ab:Hid (w.heap.size+1≤(wr.alloc (.cells #[.int .i64 4,.int .i64 0,.float .f64 U,.string noS] 182)).heap.size):=Nat.le_trans ap.out aj.out.size;clear ak bi;go_wp2_with fail;cases hm:It.may ⟨4,0,U,noS⟩
               · have HO:Hid (Zaw xs ks=([],0,4)):=Zbz ao.out HG.out (ar.out.1 (ah.out.1 hm));refine Pl.q9 (ops:=Pl.find 30 ((Tryz.f162.body).getD .skip)) ?_;refine Zmu (wr.alloc (.cells #[.int .i64 4,.int .i64 0,.float .f64 U,.string noS] 182)) _ a len cap q (8) wr.heap.size xs ⟨4,0,U,noS⟩ HI.out aq.out HC.out.le ai.out HC.out.big (Below.refl _ _) hm (by rfl) (by rfl) (by rfl) (by rfl) (by rfl) (by rfl) ?_;intro u w' hb';have al:=hide (bj.out.trans ((aj.out.mono (Nat.le_succ _)).trans (hb'.mono (Nat.le_trans (Nat.le_succ _) ab.out))));clear hb' hm;simp only [Pl.pu,List.foldl,Act.put,List.setIfInBounds_toArray,List.set_cons_zero,List.set_cons_succ];go_wp2_with fail;go_ret3;unfold ZaM;rw [HO.out];exact⟨_,rfl,al.out,OwnsI.nil _ _,fun i hi=>by cases hi⟩
               · have au:Hid (It.x ⟨4,0,U,noS⟩<18446744073709551616):=by
                  show _<_;simp only;first | decide | exact am.out
                 by_cases ac:It.bytes ⟨4,0,U,noS⟩=(xs.drop q).take (8)
                 · have ax:=ah.out.2.2 hm ac;have bf:=ZdL ay.out (by rw [List.length_drop,ag.out];omega) an.out ax;have az:=hide bf.1;have bz:=hide (ar.out.2 _ _ ax);have aa:(!((bstr (It.bytes ⟨4,0,U,noS⟩)).toList == (bstr ((xs.drop q).take (q+(8)-q))).toList))=false:=by
                    rw [show q+(8)-q=8 by omega,ac];simp
                   refine Pl.q9 (ops:=Pl.find 30 ((Tryz.f162.body).getD .skip)) ?_;refine Zf8 (wr.alloc (.cells #[.int .i64 4,.int .i64 0,.float .f64 U,.string noS] 182)) _ a len cap q (8) wr.heap.size xs ⟨4,0,U,noS⟩ HI.out aq.out HC.out.le ai.out HC.out.big (Below.refl _ _) hm au.out (by rfl) (by rfl) (by rfl) (by rfl) (by rfl) (by rfl) ?_;intro u w' hb';rw [aa];have af:=Zao HI.out hb';have d0:=af.p0;have d1:=af.p1;have d2:=af.p2;have d3:=af.p3;simp only at d0 d1 d2 d3;have bc:=hide (aj.out.trans (hb'.mono ab.out));have bw:Hid (OwnsI (w'.alloc (.cells #[.int .i64 4,.int .i64 0,.float .f64 U,.string noS] 182)) (w.heap.size+1) u9 l):=(bv.out.keep hb' (Nat.le_refl _)).keep (Zaa w' _) (Nat.le_refl _);have bt:Hid (Is (w'.alloc (.cells #[.int .i64 4,.int .i64 0,.float .f64 U,.string noS] 182)) (some ⟨w'.heap.size,0,none⟩) 1 [⟨4,0,U,noS⟩]):=Zde w' ⟨4,0,U,noS⟩ az.out;have ba:Hid (Below (w.heap.size+1) w2 (w'.alloc (.cells #[.int .i64 4,.int .i64 0,.float .f64 U,.string noS] 182))):=bc.out.alloc (Nat.le_trans ap.out bc.out.size) _;(have bu:Hid (l.length+1≤1000000):=by show _≤_;rw [hL.out];omega);clear hb' hm ac ax bf aa af;simp only [Pl.pu,List.foldl,Act.put,List.setIfInBounds_toArray,List.set_cons_zero,List.set_cons_succ];go_wp2_with (at_builtin;refine Zav _ rfl (.tmp 127) (.tmp 129) rfl (w.heap.size+1) _ l rfl bw.out _ _ _ [⟨4,0,U,noS⟩] rfl bt.out (fun e=>by cases e) bu.out (Nat.le_trans ap.out ba.out.size) ?_);intro v3 w3 bh bd _;have bx:=hide bh;have cb:=hide (ba.out.trans bd);clear bh bd au am bp ah;(try clear bk);go_wp2;go_roundw
                   case rel=>exact ⟨j+1,q+(8),l ++ [⟨4,0,U,noS⟩],by omega,ai.out,by go_num,by go_num,bx,hide (fun z hz=>by
                    rcases List.mem_append.1 hz with h | h
                    · exact hF.out z h
                    · simp at h;rw [h];exact az.out),cb,bz,hide (by rw [List.length_append,hL.out];rfl)⟩
                   case measure=>simp only [intOf];omega
                 · have HO:Hid (Zaw xs ks=([],0,4)):=Zbz ao.out HG.out (ar.out.1 (ah.out.2.1 hm ac));have aa:(!((bstr (It.bytes ⟨4,0,U,noS⟩)).toList == (bstr ((xs.drop q).take (q+(8)-q))).toList))=true:=by
                    rw [show q+(8)-q=8 by omega,ZhG (ZdD hm).2 (fun x hx=>ay.out x (List.mem_of_mem_take hx)) ac];rfl
                   refine Pl.q9 (ops:=Pl.find 30 ((Tryz.f162.body).getD .skip)) ?_;refine Zf8 (wr.alloc (.cells #[.int .i64 4,.int .i64 0,.float .f64 U,.string noS] 182)) _ a len cap q (8) wr.heap.size xs ⟨4,0,U,noS⟩ HI.out aq.out HC.out.le ai.out HC.out.big (Below.refl _ _) hm au.out (by rfl) (by rfl) (by rfl) (by rfl) (by rfl) (by rfl) ?_;intro u w' hb';rw [aa];have al:=hide (bj.out.trans ((aj.out.mono (Nat.le_succ _)).trans (hb'.mono (Nat.le_trans (Nat.le_succ _) ab.out))));clear hb' hm ac aa;simp only [Pl.pu,List.foldl,Act.put,List.setIfInBounds_toArray,List.set_cons_zero,List.set_cons_succ];go_wp2_with fail;go_ret3;unfold ZaM;rw [HO.out];exact⟨_,rfl,al.out,OwnsI.nil _ _,fun i hi=>by cases hi⟩
             · by_cases h5:kn=5
               · subst h5;have cw:t=1:=HN.out;subst cw;have bl:(wr.alloc (.cells #[.int .i64 5,.int .i64 0,.float .f64 0,.string ⟨#[]⟩] 182)).cell? ⟨b,off+j,none⟩=some (.int .i64 5):=ad;clear ad;(have da:U<256:=by have:=bp.out;simpa using this);rcases Nat.lt_or_ge (len-q-1) U with cc | cc
                 · have HO:Hid (Zaw xs ks=([],0,4)):=Zbz ao.out HG.out (ar.out.1 (by
                    show tk (xs.drop q) 5=none;simp only [tk,show ¬(5:Int)=4 by decide,if_false,if_true];rw [if_pos (by rw [List.length_drop,ag.out];omega),← ca.out,if_neg (by rw [List.length_drop,ag.out];omega)]))
                   (have i2:(len:Int)-(q:Int)-1<(U:Int):=by omega);have al:=hide (bn.trans ((Zaa wr (.cells #[.int .i64 5,.int .i64 0,.float .f64 0,.string ⟨#[]⟩] 182)).mono bn.size));go_wp2_with fail;go_ret3;unfold ZaM;rw [HO.out];exact⟨_,rfl,al.out,OwnsI.nil _ _,fun i hi=>by cases hi⟩
                 · (have i2:¬(len:Int)-(q:Int)-1<(U:Int):=by omega);have di:∀w,(Instr.sliceAt 107 (.slice a len cap) (some (.int .i64 ((q:Int)+1))) (some (.int .i64 ((q:Int)+1+(U:Int)))) none).run Tryz.prog w=.ok (.slice (fromA a cap (q+1)) U (cap-(q+1))) w:=by
                    intro w;have h:=ZeX a len cap (q+1) (q+1+U) (by omega) (by omega) HC.out.le w;rw [show q+1+U-(q+1)=U by omega] at h;exact h
                   have dc:(convert 107 9 (.slice (fromA a cap (q+1)) U (cap-(q+1)))).run Tryz.prog (wr.alloc (.cells #[.int .i64 5,.int .i64 0,.float .f64 0,.string ⟨#[]⟩] 182))=.ok (.string (bstr ((xs.drop (q+1)).take U))) (wr.alloc (.cells #[.int .i64 5,.int .i64 0,.float .f64 0,.string ⟨#[]⟩] 182)):=by
                    have h:=(br.out.keep (Zaa wr (.cells #[.int .i64 5,.int .i64 0,.float .f64 0,.string ⟨#[]⟩] 182)) (Nat.le_refl _)).mid (cap:=cap) (k:=q+1) (j:=q+1+U) (by omega) (by omega) HC.out.le;rw [show q+1+U-(q+1)=U by omega] at h;exact Zam (cap-(q+1)) h
                   have be:cand (xs.drop q) ((5:Nat):Int)=(⟨5,0,0,bstr ((xs.drop (q+1)).take U)⟩,1+U):=by
                                           show cand (xs.drop q) 5=_;simp only [cand,show ¬(5:Int)=4 by decide,if_false,if_true];rw [← ca.out,List.drop_drop]
                   have ak:=ZhV ay.out an.out (by show (if (5:Int)=4 then 8 else if (5:Int)=5 then 1 else _)≤_;rw [if_neg (by decide),if_pos rfl,List.length_drop,ag.out];omega) (by rw [be];rw [List.length_drop,ag.out];simp only;omega);rw [be] at ak;simp only at ak;(have bi:q+(1+U)≤len:=by omega);have ai:=hide bi;have ah:=hide ak;have HI:Hid (ItAt (wr.alloc (.cells #[.int .i64 5,.int .i64 0,.float .f64 0,.string (bstr ((xs.drop (q+1)).take U))] 182)) wr.heap.size 0 ⟨5,0,0,bstr ((xs.drop (q+1)).take U)⟩):=Zeo wr ⟨5,0,0,bstr ((xs.drop (q+1)).take U)⟩ _;have aq:=hide (br.out.keep (Zaa wr (.cells #[.int .i64 5,.int .i64 0,.float .f64 0,.string (bstr ((xs.drop (q+1)).take U))] 182)) (Nat.le_refl _));have bv:=hide (hO.out.keep (Zaa wr (.cells #[.int .i64 5,.int .i64 0,.float .f64 0,.string (bstr ((xs.drop (q+1)).take U))] 182)) (Nat.le_refl _));have aj:=hide (hB.out.trans ((Zaa wr (.cells #[.int .i64 5,.int .i64 0,.float .f64 0,.string (bstr ((xs.drop (q+1)).take U))] 182)).mono (Nat.le_trans ap.out hB.out.size)));have ab:Hid (w.heap.size+1≤(wr.alloc (.cells #[.int .i64 5,.int .i64 0,.float .f64 0,.string (bstr ((xs.drop (q+1)).take U))] 182)).heap.size):=Nat.le_trans ap.out aj.out.size;clear ak bi;go_wp2_with fail;cases hm:It.may ⟨5,0,0,bstr ((xs.drop (q+1)).take U)⟩
                   · have HO:Hid (Zaw xs ks=([],0,4)):=Zbz ao.out HG.out (ar.out.1 (ah.out.1 hm));refine Pl.q9 (ops:=Pl.find 30 ((Tryz.f162.body).getD .skip)) ?_;refine Zmu (wr.alloc (.cells #[.int .i64 5,.int .i64 0,.float .f64 0,.string (bstr ((xs.drop (q+1)).take U))] 182)) _ a len cap q (1+U) wr.heap.size xs ⟨5,0,0,bstr ((xs.drop (q+1)).take U)⟩ HI.out aq.out HC.out.le ai.out HC.out.big (Below.refl _ _) hm (by rfl) (by rfl) (by rfl) (by rfl) (by rfl) (by rfl) ?_;intro u w' hb';have al:=hide (bj.out.trans ((aj.out.mono (Nat.le_succ _)).trans (hb'.mono (Nat.le_trans (Nat.le_succ _) ab.out))));clear hb' hm;simp only [Pl.pu,List.foldl,Act.put,List.setIfInBounds_toArray,List.set_cons_zero,List.set_cons_succ];go_wp2_with fail;go_ret3;unfold ZaM;rw [HO.out];exact⟨_,rfl,al.out,OwnsI.nil _ _,fun i hi=>by cases hi⟩
                   · have au:Hid (It.x ⟨5,0,0,bstr ((xs.drop (q+1)).take U)⟩<18446744073709551616):=by
                      show _<_;simp only;first | decide | exact am.out
                     by_cases ac:It.bytes ⟨5,0,0,bstr ((xs.drop (q+1)).take U)⟩=(xs.drop q).take (1+U)
                     · have ax:=ah.out.2.2 hm ac;have bf:=ZdL ay.out (by rw [List.length_drop,ag.out];omega) an.out ax;have az:=hide bf.1;have bz:=hide (ar.out.2 _ _ ax);have aa:(!((bstr (It.bytes ⟨5,0,0,bstr ((xs.drop (q+1)).take U)⟩)).toList == (bstr ((xs.drop q).take (q+(1+U)-q))).toList))=false:=by
                        rw [show q+(1+U)-q=1+U by omega,ac];simp
                       refine Pl.q9 (ops:=Pl.find 30 ((Tryz.f162.body).getD .skip)) ?_;refine Zf8 (wr.alloc (.cells #[.int .i64 5,.int .i64 0,.float .f64 0,.string (bstr ((xs.drop (q+1)).take U))] 182)) _ a len cap q (1+U) wr.heap.size xs ⟨5,0,0,bstr ((xs.drop (q+1)).take U)⟩ HI.out aq.out HC.out.le ai.out HC.out.big (Below.refl _ _) hm au.out (by rfl) (by rfl) (by rfl) (by rfl) (by rfl) (by rfl) ?_;intro u w' hb';rw [aa];have af:=Zao HI.out hb';have d0:=af.p0;have d1:=af.p1;have d2:=af.p2;have d3:=af.p3;simp only at d0 d1 d2 d3;have bc:=hide (aj.out.trans (hb'.mono ab.out));have bw:Hid (OwnsI (w'.alloc (.cells #[.int .i64 5,.int .i64 0,.float .f64 0,.string (bstr ((xs.drop (q+1)).take U))] 182)) (w.heap.size+1) u9 l):=(bv.out.keep hb' (Nat.le_refl _)).keep (Zaa w' _) (Nat.le_refl _);have bt:Hid (Is (w'.alloc (.cells #[.int .i64 5,.int .i64 0,.float .f64 0,.string (bstr ((xs.drop (q+1)).take U))] 182)) (some ⟨w'.heap.size,0,none⟩) 1 [⟨5,0,0,bstr ((xs.drop (q+1)).take U)⟩]):=Zde w' ⟨5,0,0,bstr ((xs.drop (q+1)).take U)⟩ az.out;have ba:Hid (Below (w.heap.size+1) w2 (w'.alloc (.cells #[.int .i64 5,.int .i64 0,.float .f64 0,.string (bstr ((xs.drop (q+1)).take U))] 182))):=bc.out.alloc (Nat.le_trans ap.out bc.out.size) _;(have bu:Hid (l.length+1≤1000000):=by show _≤_;rw [hL.out];omega);clear hb' hm ac ax bf aa af;simp only [Pl.pu,List.foldl,Act.put,List.setIfInBounds_toArray,List.set_cons_zero,List.set_cons_succ];go_wp2_with (at_builtin;refine Zav _ rfl (.tmp 127) (.tmp 129) rfl (w.heap.size+1) _ l rfl bw.out _ _ _ [⟨5,0,0,bstr ((xs.drop (q+1)).take U)⟩] rfl bt.out (fun e=>by cases e) bu.out (Nat.le_trans ap.out ba.out.size) ?_);intro v3 w3 bh bd _;have bx:=hide bh;have cb:=hide (ba.out.trans bd);clear bh bd au am bp ah;(try clear bk);go_wp2;go_roundw
                       case rel=>exact ⟨j+1,q+(1+U),l ++ [⟨5,0,0,bstr ((xs.drop (q+1)).take U)⟩],by omega,ai.out,by go_num,by go_num,bx,hide (fun z hz=>by
                        rcases List.mem_append.1 hz with h | h
                        · exact hF.out z h
                        · simp at h;rw [h];exact az.out),cb,bz,hide (by rw [List.length_append,hL.out];rfl)⟩
                       case measure=>simp only [intOf];omega
                     · have HO:Hid (Zaw xs ks=([],0,4)):=Zbz ao.out HG.out (ar.out.1 (ah.out.2.1 hm ac));have aa:(!((bstr (It.bytes ⟨5,0,0,bstr ((xs.drop (q+1)).take U)⟩)).toList == (bstr ((xs.drop q).take (q+(1+U)-q))).toList))=true:=by
                        rw [show q+(1+U)-q=1+U by omega,ZhG (ZdD hm).2 (fun x hx=>ay.out x (List.mem_of_mem_take hx)) ac];rfl
                       refine Pl.q9 (ops:=Pl.find 30 ((Tryz.f162.body).getD .skip)) ?_;refine Zf8 (wr.alloc (.cells #[.int .i64 5,.int .i64 0,.float .f64 0,.string (bstr ((xs.drop (q+1)).take U))] 182)) _ a len cap q (1+U) wr.heap.size xs ⟨5,0,0,bstr ((xs.drop (q+1)).take U)⟩ HI.out aq.out HC.out.le ai.out HC.out.big (Below.refl _ _) hm au.out (by rfl) (by rfl) (by rfl) (by rfl) (by rfl) (by rfl) ?_;intro u w' hb';rw [aa];have al:=hide (bj.out.trans ((aj.out.mono (Nat.le_succ _)).trans (hb'.mono (Nat.le_trans (Nat.le_succ _) ab.out))));clear hb' hm ac aa;simp only [Pl.pu,List.foldl,Act.put,List.setIfInBounds_toArray,List.set_cons_zero,List.set_cons_succ];go_wp2_with fail;go_ret3;unfold ZaM;rw [HO.out];exact⟨_,rfl,al.out,OwnsI.nil _ _,fun i hi=>by cases hi⟩
               · (have e4:((kn:Int) == 4)=false:=by apply beq_eq_false_iff_ne.2;omega);(have e5:((kn:Int) == 5)=false:=by apply beq_eq_false_iff_ne.2;omega);have cg:Hid (t=cntN (kn:Nat)):=by
                  have:=HN.out;unfold szN at this;rw [if_neg (by omega),if_neg (by omega)] at this;exact this
                 have bk:U<4294967296:=by
                  have hc:t≤4:=by
                   rw [cg.out];unfold cntN;split
                   · omega
                   · split <;> omega
                  have h6:256 ^ t≤256 ^ 4:=Nat.pow_le_pow_right (by decide) hc;(have:(256:Nat) ^ 4=4294967296:=by decide);have:=bp.out;omega
                 have be:cand (xs.drop q) (kn:Nat)=(⟨(kn:Nat),(U:Nat),0,noS⟩,t):=by
                                       unfold cand;rw [if_neg (by omega),if_neg (by omega),← cg.out,← ca.out]
                 have ak:=ZhV ay.out an.out (by rw [if_neg (by omega),if_neg (by omega),← cg.out,List.length_drop,ag.out];omega) (by rw [be];rw [List.length_drop,ag.out];simp only;omega);rw [be] at ak;simp only at ak;(have bi:q+(t)≤len:=by omega);have ai:=hide bi;have ah:=hide ak;have HI:Hid (ItAt (wr.alloc (.cells #[.int .i64 (kn:Nat),.int .i64 (U:Nat),.float .f64 0,.string noS] 182)) wr.heap.size 0 ⟨(kn:Nat),(U:Nat),0,noS⟩):=Zeo wr ⟨(kn:Nat),(U:Nat),0,noS⟩ _;have aq:=hide (br.out.keep (Zaa wr (.cells #[.int .i64 (kn:Nat),.int .i64 (U:Nat),.float .f64 0,.string noS] 182)) (Nat.le_refl _));have bv:=hide (hO.out.keep (Zaa wr (.cells #[.int .i64 (kn:Nat),.int .i64 (U:Nat),.float .f64 0,.string noS] 182)) (Nat.le_refl _));have aj:=hide (hB.out.trans ((Zaa wr (.cells #[.int .i64 (kn:Nat),.int .i64 (U:Nat),.float .f64 0,.string noS] 182)).mono (Nat.le_trans ap.out hB.out.size)));have ab:Hid (w.heap.size+1≤(wr.alloc (.cells #[.int .i64 (kn:Nat),.int .i64 (U:Nat),.float .f64 0,.string noS] 182)).heap.size):=Nat.le_trans ap.out aj.out.size;clear ak bi;go_wp2_with fail;cases hm:It.may ⟨(kn:Nat),(U:Nat),0,noS⟩
                 · have HO:Hid (Zaw xs ks=([],0,4)):=Zbz ao.out HG.out (ar.out.1 (ah.out.1 hm));refine Pl.q9 (ops:=Pl.find 30 ((Tryz.f162.body).getD .skip)) ?_;refine Zmu (wr.alloc (.cells #[.int .i64 (kn:Nat),.int .i64 (U:Nat),.float .f64 0,.string noS] 182)) _ a len cap q (t) wr.heap.size xs ⟨(kn:Nat),(U:Nat),0,noS⟩ HI.out aq.out HC.out.le ai.out HC.out.big (Below.refl _ _) hm (by rfl) (by rfl) (by rfl) (by rfl) (by rfl) (by rfl) ?_;intro u w' hb';have al:=hide (bj.out.trans ((aj.out.mono (Nat.le_succ _)).trans (hb'.mono (Nat.le_trans (Nat.le_succ _) ab.out))));clear hb' hm;simp only [Pl.pu,List.foldl,Act.put,List.setIfInBounds_toArray,List.set_cons_zero,List.set_cons_succ];go_wp2_with fail;go_ret3;unfold ZaM;rw [HO.out];exact⟨_,rfl,al.out,OwnsI.nil _ _,fun i hi=>by cases hi⟩
                 · have au:Hid (It.x ⟨(kn:Nat),(U:Nat),0,noS⟩<18446744073709551616):=by
                    show _<_;simp only;first | decide | exact am.out
                   by_cases ac:It.bytes ⟨(kn:Nat),(U:Nat),0,noS⟩=(xs.drop q).take (t)
                   · have ax:=ah.out.2.2 hm ac;have bf:=ZdL ay.out (by rw [List.length_drop,ag.out];omega) an.out ax;have az:=hide bf.1;have bz:=hide (ar.out.2 _ _ ax);have aa:(!((bstr (It.bytes ⟨(kn:Nat),(U:Nat),0,noS⟩)).toList == (bstr ((xs.drop q).take (q+(t)-q))).toList))=false:=by
                      rw [show q+(t)-q=t by omega,ac];simp
                     refine Pl.q9 (ops:=Pl.find 30 ((Tryz.f162.body).getD .skip)) ?_;refine Zf8 (wr.alloc (.cells #[.int .i64 (kn:Nat),.int .i64 (U:Nat),.float .f64 0,.string noS] 182)) _ a len cap q (t) wr.heap.size xs ⟨(kn:Nat),(U:Nat),0,noS⟩ HI.out aq.out HC.out.le ai.out HC.out.big (Below.refl _ _) hm au.out (by rfl) (by rfl) (by rfl) (by rfl) (by rfl) (by rfl) ?_;intro u w' hb';rw [aa];have af:=Zao HI.out hb';have d0:=af.p0;have d1:=af.p1;have d2:=af.p2;have d3:=af.p3;simp only at d0 d1 d2 d3;have bc:=hide (aj.out.trans (hb'.mono ab.out));have bw:Hid (OwnsI (w'.alloc (.cells #[.int .i64 (kn:Nat),.int .i64 (U:Nat),.float .f64 0,.string noS] 182)) (w.heap.size+1) u9 l):=(bv.out.keep hb' (Nat.le_refl _)).keep (Zaa w' _) (Nat.le_refl _);have bt:Hid (Is (w'.alloc (.cells #[.int .i64 (kn:Nat),.int .i64 (U:Nat),.float .f64 0,.string noS] 182)) (some ⟨w'.heap.size,0,none⟩) 1 [⟨(kn:Nat),(U:Nat),0,noS⟩]):=Zde w' ⟨(kn:Nat),(U:Nat),0,noS⟩ az.out;have ba:Hid (Below (w.heap.size+1) w2 (w'.alloc (.cells #[.int .i64 (kn:Nat),.int .i64 (U:Nat),.float .f64 0,.string noS] 182))):=bc.out.alloc (Nat.le_trans ap.out bc.out.size) _;(have bu:Hid (l.length+1≤1000000):=by show _≤_;rw [hL.out];omega);clear hb' hm ac ax bf aa af;simp only [Pl.pu,List.foldl,Act.put,List.setIfInBounds_toArray,List.set_cons_zero,List.set_cons_succ];go_wp2_with (at_builtin;refine Zav _ rfl (.tmp 127) (.tmp 129) rfl (w.heap.size+1) _ l rfl bw.out _ _ _ [⟨(kn:Nat),(U:Nat),0,noS⟩] rfl bt.out (fun e=>by cases e) bu.out (Nat.le_trans ap.out ba.out.size) ?_);intro v3 w3 bh bd _;have bx:=hide bh;have cb:=hide (ba.out.trans bd);clear bh bd au am bp ah;(try clear bk);go_wp2;go_roundw
                     case rel=>exact ⟨j+1,q+(t),l ++ [⟨(kn:Nat),(U:Nat),0,noS⟩],by omega,ai.out,by go_num,by go_num,bx,hide (fun z hz=>by
                      rcases List.mem_append.1 hz with h | h
                      · exact hF.out z h
                      · simp at h;rw [h];exact az.out),cb,bz,hide (by rw [List.length_append,hL.out];rfl)⟩
                     case measure=>simp only [intOf];omega
                   · have HO:Hid (Zaw xs ks=([],0,4)):=Zbz ao.out HG.out (ar.out.1 (ah.out.2.1 hm ac));have aa:(!((bstr (It.bytes ⟨(kn:Nat),(U:Nat),0,noS⟩)).toList == (bstr ((xs.drop q).take (q+(t)-q))).toList))=true:=by
                      rw [show q+(t)-q=t by omega,ZhG (ZdD hm).2 (fun x hx=>ay.out x (List.mem_of_mem_take hx)) ac];rfl
                     refine Pl.q9 (ops:=Pl.find 30 ((Tryz.f162.body).getD .skip)) ?_;refine Zf8 (wr.alloc (.cells #[.int .i64 (kn:Nat),.int .i64 (U:Nat),.float .f64 0,.string noS] 182)) _ a len cap q (t) wr.heap.size xs ⟨(kn:Nat),(U:Nat),0,noS⟩ HI.out aq.out HC.out.le ai.out HC.out.big (Below.refl _ _) hm au.out (by rfl) (by rfl) (by rfl) (by rfl) (by rfl) (by rfl) ?_;intro u w' hb';rw [aa];have al:=hide (bj.out.trans ((aj.out.mono (Nat.le_succ _)).trans (hb'.mono (Nat.le_trans (Nat.le_succ _) ab.out))));clear hb' hm ac aa;simp only [Pl.pu,List.foldl,Act.put,List.setIfInBounds_toArray,List.set_cons_zero,List.set_cons_succ];go_wp2_with fail;go_ret3;unfold ZaM;rw [HO.out];exact⟨_,rfl,al.out,OwnsI.nil _ _,fun i hi=>by cases hi⟩
      · (have cs:j=klen:=by omega);subst cs;have HO:Hid (Zaw xs ks=(l,q,0)):=by
         have:=hT.out;rw [List.drop_of_length_le (by rw [ao.out];exact Nat.le_refl _)] at this;simp only [tks] at this;rw [ZbT (fun t ht=>HG.out t (by rw [← ao.out];exact ht)),this];trivial
        clear hT;go_wp2_with fail;go_ret3;unfold ZaM;rw [HO.out];exact⟨_,rfl,bn,hO.out.lower (Nat.le_succ _),hF.out⟩
end Go.Proofs.YtiecfcjlhldhdaaGreat
