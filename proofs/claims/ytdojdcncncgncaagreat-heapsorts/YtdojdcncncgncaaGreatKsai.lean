/-
  Lemmas.
-/
import Derived.Test.YtdojdcncncgncaaGreatKsah
import Derived.Test.YtdojdcncncgncaaGreatKsaa
namespace Go.Proofs.YtdojdcncncgncaaGreat
open Go.RowKit
set_option linter.unusedVariables false
set_option maxRecDepth 100000
set_option maxHeartbeats 4000000
variable {xs:List Nat}{k:Int}
theorem Zj8 (a b : Nat) (x y : Operand) (h : a + b ≤ 9223372036854775807) (w : World) : (do eqGuard .add 3 x y (.int .i64 (a : Nat)) (.int .i64 (b : Nat)); binOp .add 3 (.int .i64 (a : Nat)) (.int .i64 (b : Nat)) : Sem Value).run Tryz.prog w = .ok (.int .i64 ((a + b : Nat) : Int)) w := by
 have e : IntKind.i64.wrap ((a : Int) + (b : Int)) = ((a + b : Nat) : Int) := by rw [IntKind.wrap_i64]; omega
 simp [go_sem, eqGuard, e]
theorem Zgo : ∀ args w, (callFunc 156 args).run Tryz.prog w = .ok (.enter 156 args) w := Pl.enters Tryz.func156 (by kernel_rfl) (by kernel_rfl)
theorem ZjQ : ∀ args w, (callFunc 157 args).run Tryz.prog w = .ok (.enter 157 args) w := Pl.enters Tryz.func157 (by kernel_rfl) (by kernel_rfl)
theorem ZgL (x : It) (m : Bool) (hm : x.may = m) (w : World) : Calls Tryz.prog 156 #[x.val] w fun e w' => e = .returned (.bool m) ∧ Below w.heap.size w w' := by
 have := Zfm x w
 rw [hm] at this
 exact this
def cand (xs : List Nat) (k : Int) : It × Nat :=
  if k = 4 then (⟨4, 0, numB (xs.take 8), noS⟩, 8)
  else if k = 5 then (⟨5, 0, 0, bstr ((xs.drop 1).take (numB (xs.take 1)))⟩, 1 + numB (xs.take 1))
  else (⟨k, numB (xs.take (cntN k)), 0, noS⟩, cntN k)
theorem Zgc (ys : List Nat) : (bstr ys).size = ys.length := by
 show (bstr ys).data.size = _
 rw [← Array.length_toList]
 unfold bstr
 rw [strOfNums_data]
 simp
theorem Zlc {ys : List Nat} (h : Bytes ys) : strB (bstr ys) = ys := by
 apply ZhL (Zfy _) h
 rw [Zgd]
theorem Zec : noS.toList = [] := by unfold noS; rw [ByteArray.toList_eq]
theorem ZgX (hx:Bytes xs)(hk:1≤k∧k≤5)(h1:(if k=4 then 8 else if k=5 then 1 else cntN k)≤xs.length)(h2:(cand xs k).2≤xs.length) :
    ((cand xs k).1.may=false→tk xs k=none)∧((cand xs k).1.may=true→(cand xs k).1.bytes≠xs.take (cand xs k).2→tk xs k=none)∧((cand xs k).1.may=true→(cand xs k).1.bytes=xs.take (cand xs k).2→tk xs k=some (cand xs k)):=by
  have hb:∀m,Bytes (xs.take m):=fun m x hh=>hx x (List.mem_of_mem_take hh)
  by_cases h4:k=4
  · subst h4
    simp only [if_true] at h1
    have e:cand xs 4=(⟨4,0,numB (xs.take 8),noS⟩,8):=by simp [cand]
    have hmay:It.may ⟨4,0,numB (xs.take 8),noS⟩=true:=by simp [It.may,Zec]
    have hby:It.bytes ⟨4,0,numB (xs.take 8),noS⟩=bigB (Fl.val (numB (xs.take 8))) 8:=by simp [It.bytes]
    have hl8:(xs.take 8).length=8:=by rw [List.length_take];omega
    have hbig:bigB (numB (xs.take 8)) 8=xs.take 8:=by
     have:=ZcT (hb 8)
     rw [hl8] at this
     exact this
    have hlt:numB (xs.take 8)<256 ^ 8:=by
     have:=ZbM (hb 8)
     rw [hl8] at this
     exact this
    rw [e]
    simp only
    rw [hmay,hby]
    refine⟨fun h=>(by cases h),fun _ hne=>?_,fun _ heq=>?_⟩
    · have:¬Fl.val (numB (xs.take 8))=numB (xs.take 8):=fun h=>hne (by rw [h];exact hbig)
      simp only [tk,if_true]
      rw [if_pos h1,if_neg this]
    · have:Fl.val (numB (xs.take 8))=numB (xs.take 8):=by
       have h3:=Zdn (Fl.val (numB (xs.take 8))) 8
       rw [heq] at h3
       have h5:Fl.val (numB (xs.take 8))<256 ^ 8:=by
        have:numB (xs.take 8)<18446744073709551616:=by simpa using hlt
        have:=Fl.val_lt this
        simpa using this
       rw [Nat.mod_eq_of_lt h5] at h3
       exact h3.symm
      simp only [tk,if_true]
      rw [if_pos h1,if_pos this]
  by_cases h5:k=5
  · subst h5
    simp only [show ¬(5:Int)=4 by decide,if_false,if_true] at h1
    have e:cand xs 5=(⟨5,0,0,bstr ((xs.drop 1).take (numB (xs.take 1)))⟩,1+numB (xs.take 1)):=by simp [cand]
    rw [e] at h2 ⊢
    simp only at h2 ⊢
    have hU:numB (xs.take 1)<256:=by
     have h:=ZbM (hb 1)
     have h3:(xs.take 1).length≤1:=by rw [List.length_take];omega
     have h4:256 ^ (xs.take 1).length≤256 ^ 1:=Nat.pow_le_pow_right (by decide) h3
     omega
    have hlen:((xs.drop 1).take (numB (xs.take 1))).length=numB (xs.take 1):=by rw [List.length_take,List.length_drop];omega
    have hB:Bytes ((xs.drop 1).take (numB (xs.take 1))):=fun x hh=>hx x (List.mem_of_mem_drop (List.mem_of_mem_take hh))
    have hmay:It.may ⟨5,0,0,bstr ((xs.drop 1).take (numB (xs.take 1)))⟩=true:=by
     have hs:(bstr ((xs.drop 1).take (numB (xs.take 1)))).size<256:=by rw [Zgc,hlen];exact hU
     generalize bstr ((xs.drop 1).take (numB (xs.take 1)))=S at hs ⊢
     simp [It.may,hs]
    have hby:It.bytes ⟨5,0,0,bstr ((xs.drop 1).take (numB (xs.take 1)))⟩=xs.take (1+numB (xs.take 1)):=by
     have h0:It.bytes ⟨5,0,0,bstr ((xs.drop 1).take (numB (xs.take 1)))⟩=numB (xs.take 1) :: (xs.drop 1).take (numB (xs.take 1)):=by
      have hs:(bstr ((xs.drop 1).take (numB (xs.take 1)))).size=numB (xs.take 1):=by rw [Zgc,hlen]
      have h9:It.bytes ⟨5,0,0,bstr ((xs.drop 1).take (numB (xs.take 1)))⟩=(bstr ((xs.drop 1).take (numB (xs.take 1)))).size :: strB (bstr ((xs.drop 1).take (numB (xs.take 1)))):=by
       generalize bstr ((xs.drop 1).take (numB (xs.take 1)))=S
       simp [It.bytes]
      rw [h9,hs,Zlc hB]
     rw [h0]
     cases xs with
     | nil=>simp at h1
     | cons y r =>
      have:numB ((y :: r).take 1)=y:=by simp [numB]
      rw [this]
      simp [Nat.add_comm 1 y]
    rw [hmay,hby]
    refine⟨fun h=>(by cases h),fun _ hne=>absurd rfl hne,fun _ _=>?_⟩
    simp only [tk,show ¬(5:Int)=4 by decide,if_false,if_true]
    rw [if_pos h1,if_pos h2]
  have hk3:k=1∨k=2∨k=3:=by omega
  simp only [h4,h5,if_false] at h1
  have e:cand xs k=(⟨k,numB (xs.take (cntN k)),0,noS⟩,cntN k):=by simp [cand,h4,h5]
  rw [e]
  simp only
  have hlc:(xs.take (cntN k)).length=cntN k:=by rw [List.length_take];omega
  have hby:It.bytes ⟨k,(numB (xs.take (cntN k)):Nat),0,noS⟩=xs.take (cntN k):=by
   rw [ZhM hk3]
   have:=ZcT (hb (cntN k))
   rw [hlc] at this
   exact this
  have hmay:It.may ⟨k,(numB (xs.take (cntN k)):Nat),0,noS⟩=decide ((numB (xs.take (cntN k)):Int)≤maxN k):=by
   rw [Zk4 hk3]
   simp [Zec]
  rw [hmay,hby,Zit hk3,if_pos h1]
  refine⟨fun h=>?_,fun _ hne=>absurd rfl hne,fun h _=>?_⟩
  · rw [if_neg (of_decide_eq_false h)]
  · rw [if_pos (of_decide_eq_true h)]
theorem ZkJ (w0 w:World)(a:Option Addr)(len cap q n g:Nat)(xs:List Nat)(x:It)(hx:ItAt w0 g 0 x)(hb:Bs w0 a len xs)(hc:len≤cap)(hq:q+n≤len)(hl:len≤9223372036854775807)(hW:Below w0.heap.size w0 w)(hm:x.may=false)
    {Q:Exit→Act→World→Prop}{A:Act}(hsz:A.tmps.size=136)(hdf:A.defers=[])(s0:A.tmps.getD 0 undef=.slice a len cap)(s10:A.tmps.getD 10 undef=.int .i64 (q:Nat))(s12:A.tmps.getD 12 undef=.int .i64 (n:Nat))(s15:A.tmps.getD 15 undef=.pointer (some ⟨g,0,none⟩))
    (hend:∀(u:Nat→Value) w',Below w0.heap.size w0 w'→Q .normal (((((((((((((((((A).put (some 111) (u 111)).put (some 112) (u 112)).put (some 113) (u 113)).put (some 114) (u 114)).put (some 115) (u 115)).put (some 116) (u 116)).put (some 117) (u 117)).put (some 118) (u 118)).put (some 119) (u 119)).put (some 120) (u 120)).put (some 121) (u 121)).put (some 122) (u 122)).put (some 123) (u 123)).put (some 124) (u 124)).put (some 125) (u 125)).put (some 126) (.bool true)) w') :
    (Code.region 30 (Pl.find 30 ((Tryz.f150.body).getD .skip)) true).wp Tryz.prog Q A w:=by
  have hS0:Below w0.heap.size w0 w.drew:=hW.drew
  have hA:=Pl.At.same (v:=.pointer (some ⟨g,0,none⟩)) (d:=15) (Pl.At.same (v:=.int .i64 (n:Nat)) (d:=12) (Pl.At.same (v:=.int .i64 (q:Nat)) (d:=10) (Pl.At.same (v:=.slice a len cap) (d:=0) (Pl.At.here hsz hdf) s0) s10) s12) s15
  refine Pl.qa (S:=fun w'=>Below w0.heap.size w0 w') hA hS0 ?_
  rw [show (Pl.find 30 ((Tryz.f150.body).getD .skip)).size=16 by kernel_rfl]
  refine Pl.q0 0 111 (x.val) (Pl.q1) (Pl.q4 158 (.tmp 15) (fun w' hS=>Zev g 0 x w' (Zag hx hS))) hS0 ?_
  refine Pl.qd 1 112 156 [(.tmp 111)] #[158] (Pl.q1) Zgo (Calls.mono (ZgL x false hm w.drew) ?_)
  rintro e w1 ⟨rfl,hb1⟩
  have hS1:=hS0.trans (hb1.mono hS0.size)
  refine⟨.bool false,rfl,hS1,?_⟩
  refine Pl.q0 2 113 (.bool true) (Pl.q1) (Pl.qq 4 (.tmp 112) false) hS1 ?_
  refine Pl.q0 3 114 (.bool true) (Pl.q1) (Pl.q2 (.tmp 113)) hS1 ?_
  refine Pl.q6 4 115 (Pl.q8 3 114 false) hS1 ?_
  refine Pl.q6 5 116 (Pl.q8 3 114 false) hS1 ?_
  refine Pl.q6 6 117 (Pl.q8 3 114 false) hS1 ?_
  refine Pl.q6 7 118 (Pl.q8 3 114 false) hS1 ?_
  refine Pl.q6 8 119 (Pl.q8 3 114 false) hS1 ?_
  refine Pl.q6 9 120 (Pl.q8 3 114 false) hS1 ?_
  refine Pl.q6 10 121 (Pl.q8 3 114 false) hS1 ?_
  refine Pl.q6 11 122 (Pl.q8 3 114 false) hS1 ?_
  refine Pl.q6 12 123 (Pl.q8 3 114 false) hS1 ?_
  refine Pl.q6 13 124 (Pl.q8 3 114 false) hS1 ?_
  refine Pl.q6 14 125 (Pl.q8 3 114 false) hS1 ?_
  refine Pl.q0 15 126 (.bool true) (Pl.q1) (Pl.qk (.tmp 114) (.const (.bool true)) (.tmp 125)) hS1 ?_
  refine Pl.q7 (fun A' hA'=>?_)
  rw [Pl.At.ext hA' ((((((((((((((((hA.put 111 _).put 112 _).put 113 _).put 114 _).put 115 _).put 116 _).put 117 _).put 118 _).put 119 _).put 120 _).put 121 _).put 122 _).put 123 _).put 124 _).put 125 _).put 126 _)]
  exact hend hA'.fn _ hS1
theorem Zfl (w0 w:World)(a:Option Addr)(len cap q n g:Nat)(xs:List Nat)(x:It)(hx:ItAt w0 g 0 x)(hb:Bs w0 a len xs)(hc:len≤cap)(hq:q+n≤len)(hl:len≤9223372036854775807)(hW:Below w0.heap.size w0 w)(hm:x.may=true)(hxl:x.x<18446744073709551616)
    {Q:Exit→Act→World→Prop}{A:Act}(hsz:A.tmps.size=136)(hdf:A.defers=[])(s0:A.tmps.getD 0 undef=.slice a len cap)(s10:A.tmps.getD 10 undef=.int .i64 (q:Nat))(s12:A.tmps.getD 12 undef=.int .i64 (n:Nat))(s15:A.tmps.getD 15 undef=.pointer (some ⟨g,0,none⟩))
    (hend:∀(u:Nat→Value) w',Below w0.heap.size w0 w'→Q .normal (((((((((((((((((A).put (some 111) (u 111)).put (some 112) (u 112)).put (some 113) (u 113)).put (some 114) (u 114)).put (some 115) (u 115)).put (some 118) (u 118)).put (some 119) (u 119)).put (some 120) (u 120)).put (some 121) (u 121)).put (some 122) (u 122)).put (some 123) (u 123)).put (some 124) (u 124)).put (some 116) (u 116)).put (some 117) (u 117)).put (some 125) (u 125)).put (some 126) (.bool (!((bstr x.bytes).toList == (bstr ((xs.drop q).take (q+n-q))).toList)))) w') :
    (Code.region 30 (Pl.find 30 ((Tryz.f150.body).getD .skip)) true).wp Tryz.prog Q A w:=by
  have hS0:Below w0.heap.size w0 w.drew:=hW.drew
  have hA:=Pl.At.same (v:=.pointer (some ⟨g,0,none⟩)) (d:=15) (Pl.At.same (v:=.int .i64 (n:Nat)) (d:=12) (Pl.At.same (v:=.int .i64 (q:Nat)) (d:=10) (Pl.At.same (v:=.slice a len cap) (d:=0) (Pl.At.here hsz hdf) s0) s10) s12) s15
  refine Pl.qa (S:=fun w'=>Below w0.heap.size w0 w') hA hS0 ?_
  rw [show (Pl.find 30 ((Tryz.f150.body).getD .skip)).size=16 by kernel_rfl]
  refine Pl.q0 0 111 (x.val) (Pl.q1) (Pl.q4 158 (.tmp 15) (fun w' hS=>Zev g 0 x w' (Zag hx hS))) hS0 ?_
  refine Pl.qd 1 112 156 [(.tmp 111)] #[158] (Pl.q1) Zgo (Calls.mono (ZgL x true hm w.drew) ?_)
  rintro e w1 ⟨rfl,hb1⟩
  have hS1:=hS0.trans (hb1.mono hS0.size)
  refine⟨.bool true,rfl,hS1,?_⟩
  refine Pl.q0 2 113 (.bool false) (Pl.q1) (Pl.qq 4 (.tmp 112) true) hS1 ?_
  refine Pl.q0 3 114 (.bool false) (Pl.q1) (Pl.q2 (.tmp 113)) hS1 ?_
  refine Pl.q0 4 115 (x.val) (Pl.q3 3 114 false) (Pl.q4 158 (.tmp 15) (fun w' hS=>Zev g 0 x w' (Zag hx hS))) hS1 ?_
  refine Pl.q0 7 118 (.slice a len cap) (Pl.q3 3 114 false) (Pl.q2 (.tmp 0)) hS1 ?_
  refine Pl.q0 8 119 (.int .i64 (q:Nat)) (Pl.q3 3 114 false) (Pl.q2 (.tmp 10)) hS1 ?_
  refine Pl.q0 9 120 (.int .i64 (q:Nat)) (Pl.q3 3 114 false) (Pl.q2 (.tmp 10)) hS1 ?_
  refine Pl.q0 10 121 (.int .i64 (n:Nat)) (Pl.q3 3 114 false) (Pl.q2 (.tmp 12)) hS1 ?_
  refine Pl.q0 11 122 (.int .i64 ((q+n:Nat):Int)) (Pl.q3 3 114 false) (Pl.qc .add 3 3 (.tmp 120) (.tmp 121) (.int .i64 (q:Nat)) (.int .i64 (n:Nat)) (Zj8 _ _ _ _ (by omega))) hS1 ?_
  refine Pl.q0 12 123 (.slice (fromA a cap q) (q+n-q) (cap-q)) (Pl.q3 3 114 false) (Pl.q_36 56 (.tmp 118) (some (.tmp 119)) (some (.tmp 122)) (Ze8 a len cap q (q+n) (by omega) hq hc)) hS1 ?_
  refine Pl.q0 13 124 (.string (bstr ((xs.drop q).take (q+n-q)))) (Pl.q3 3 114 false) (Pl.qy 56 9 (.tmp 123) (.slice (fromA a cap q) (q+n-q) (cap-q)) (fun w' hS=>Zat (cap-q) ((hb.keep hS (Nat.le_refl _)).mid (cap:=cap) (k:=q) (j:=q+n) (by omega) hq hc))) hS1 ?_
  refine Pl.qd 5 116 157 [(.tmp 115)] #[158] (Pl.q3 3 114 false) ZjQ (Calls.mono (Zfn x hm hxl w1) ?_)
  rintro e w2 ⟨v2,rfl,ho2,hb2⟩
  obtain⟨a2,c2,rfl,hbs2,_⟩:=ho2.bs (ZdE hm).2
  have hS2:=hS1.trans (hb2.mono hS1.size)
  refine⟨.slice a2 x.bytes.length c2,rfl,hS2,?_⟩
  refine Pl.qs 6 117 (.string (bstr x.bytes)) (Pl.q3 3 114 false) (Pl.q_39 56 9 (.tmp 116) (Zat c2 hbs2)) hS2 ?_
  refine Pl.q0 14 125 (.bool (!((bstr x.bytes).toList == (bstr ((xs.drop q).take (q+n-q))).toList))) (Pl.q3 3 114 false) (Pl.neqStrs 14 9 9 (.tmp 117) (.tmp 124) (bstr x.bytes) (bstr ((xs.drop q).take (q+n-q))) (by kernel_rfl) (by decide) (by decide) rfl rfl) hS2 ?_
  refine Pl.q0 15 126 (.bool (!((bstr x.bytes).toList == (bstr ((xs.drop q).take (q+n-q))).toList))) (Pl.q1) (Pl.qj (.tmp 114) (.const (.bool true)) (.tmp 125)) hS2 ?_
  refine Pl.q7 (fun A' hA'=>?_)
  rw [Pl.At.ext hA' ((((((((((((((((hA.put 111 _).put 112 _).put 113 _).put 114 _).put 115 _).put 118 _).put 119 _).put 120 _).put 121 _).put 122 _).put 123 _).put 124 _).put 116 _).put 117 _).put 125 _).put 126 _)]
  exact hend hA'.fn _ hS2
def szN (k : Int) : Nat := if k = 4 then 8 else if k = 5 then 1 else cntN k
theorem Zon (k : Int) : szN k ≤ 8 := by
 unfold szN
 split
 · omega
 · split
   · omega
   · exact ZfA k
def Sz (w : World) (g : Nat) : Prop := ∀ k : Nat, 1 ≤ k → k ≤ 5 → w.cell? ⟨g, k, none⟩ = some (.int .i64 (szN k : Nat))
theorem Zoo (w : World) : Sz (w.alloc (.cells #[.int .i64 0, .int .i64 1, .int .i64 2, .int .i64 4, .int .i64 8, .int .i64 1] 3)) w.heap.size := by
 intro k h1 h5
 have : k = 1 ∨ k = 2 ∨ k = 3 ∨ k = 4 ∨ k = 5 := by omega
 rcases this with rfl | rfl | rfl | rfl | rfl <;> simp [go_sem, szN, cntN]
theorem Sz.keep {w w' : World} {B g : Nat} (h : Sz w g) (hb : Below B w w') (hg : g < B) : Sz w' g := fun k h1 h5 => (hb.cell (p := ⟨g, k, none⟩) hg).trans (h k h1 h5)
theorem Zmm (hk : 1 ≤ k ∧ k ≤ 5) (h : xs.length < szN k) : tk xs k = none := by
 unfold szN at h
 by_cases h4 : k = 4
 · subst h4
   simp only [if_true] at h
   simp only [tk, if_true]
   rw [if_neg (by omega)]
 · by_cases h5 : k = 5
   · subst h5
     simp only [h4, if_false, if_true] at h
     simp only [tk, h4, if_false, if_true]
     rw [if_neg (by omega)]
   · simp only [h4, h5, if_false] at h
     simp only [tk, h4, h5, if_false]
     rw [if_neg (by omega)]
theorem OwnsI.lower {w:World}{b b':Nat}{v:Value}{l:List It}(h:OwnsI w b v l)(hb:b'≤b):OwnsI w b' v l:=by
 refine⟨h.1,?_⟩
 rcases h.2 with hn | ⟨g,cap,cur,hv,hbg,rest⟩
 · exact .inl hn
 · exact .inr ⟨g,cap,cur,hv,Nat.le_trans hb hbg,rest⟩
theorem Znl (w : World) (o : Obj) : OwnsI ((w.alloc o).alloc (.cells #[] 158)) (w.heap.size + 1) (.slice (some ⟨w.heap.size + 1, 0, none⟩) 0 0) [] := by
 have := OwnsI.new (w.alloc o)
 simpa using this
theorem Zmn {ks : List Int} {j q : Nat} {l : List It} (hj : j < ks.length) (hk : k = ks.getD j 0) (h : tks xs ks [] 0 = tks xs (ks.drop j) l q) :
    (tk (xs.drop q) k = none → tks xs ks [] 0 = none) ∧ (∀ i m, tk (xs.drop q) k = some (i, m) → tks xs ks [] 0 = tks xs (ks.drop (j + 1)) (l ++ [i]) (q + m)) := by
  have hd : ks.drop j = k :: ks.drop (j + 1) := by
   rw [List.drop_eq_getElem_cons hj, hk]
   simp [List.getD, hj]
  rw [hd] at h
  simp only [tks] at h
  refine ⟨fun e => ?_, fun i m e => ?_⟩
  · rw [h, e]
  · rw [h, e]
theorem Zbx {ks : List Int} {klen : Nat} (hkl : ks.length = klen) (hg : ∀ t, t < klen → 1 ≤ ks.getD t 0 ∧ ks.getD t 0 ≤ 5) (h : tks xs ks [] 0 = none) : Za2 xs ks = ([], 0, 4) := by
 rw [ZbN (fun t ht => hg t (by rw [← hkl]; exact ht)), h]
theorem Zhx (a:Option Addr)(len cap:Nat)(xs:List Nat)(ka:Option Addr)(klen kcap:Nat)(ks:List Int)(w:World)(hb:Came w a len cap xs)(hk:Ks w ka klen ks)(hl:len≤100000)(hkl:klen≤1000) :
    Calls Tryz.prog 150 #[.slice a len cap,.slice ka klen kcap] w (ZaK xs ks w):=by
  have HC:=hide hb
  have HK:=hide hk
  have HKL:=hide hk.1
  have HXS:Hid (Bytes xs):=hb.bs.2.1
  have HXL:Hid (xs.length=len):=hb.bs.1
  clear hb hk
  go_enter Tryz.func150,Tryz.ntmps150
  go_wp2_with fail
  go_loop [7] (fun i=>∃j:Nat,j≤klen∧i=.int .i64 j∧Hid (∀t,t<j→1≤ks.getD t 0∧ks.getD t 0≤5)) (fun i=>klen-(intOf i).toNat)
  case atStart=>exact ⟨0,by omega,rfl,fun t ht=>by omega⟩
  case round =>
   obtain⟨j,hj,rfl,hgood⟩:=hrel
   rcases Nat.lt_or_ge j klen with hlt | hge
   · obtain⟨b,off,rfl,hcell⟩:=HK.out.2 j hlt
     obtain⟨k,hkk⟩:∃k,k=ks.getD j 0:=⟨_,rfl⟩
     rw [← hkk] at hcell
     have HKK:=hide hkk
     clear hkk
     by_cases hok:1≤k∧k≤5
     · have i1:¬k<1:=by omega
       have i2:¬5<k:=by omega
       have HOK:=hide hok
       clear hok
       go_wp2_with fail
       go_round
       case rel =>
        refine⟨j+1,by omega,by go_num,?_⟩
        intro t ht
        by_cases e:t=j
        · rw [e,← HKK.out]
          exact HOK.out
        · exact hgood.out t (by omega)
       case measure=>simp only [intOf];omega
     · have HO:Hid (Za2 xs ks=([],0,1)):=ZkD (j:=j) (by rw [HKL.out];exact hlt) (by rw [← HKK.out];exact hok)
       have hkb:k<1∨(¬k<1∧5<k):=by omega
       clear hok
       rcases hkb with h1 | ⟨h1,h2⟩
       · go_wp2_with fail
         go_ret3
         unfold ZaK
         rw [HO.out]
         exact⟨_,rfl,Below.refl _ _,OwnsI.nil _ _,fun i hi=>by cases hi⟩
       · go_wp2_with fail
         go_ret3
         unfold ZaK
         rw [HO.out]
         exact⟨_,rfl,Below.refl _ _,OwnsI.nil _ _,fun i hi=>by cases hi⟩
   · have HG:Hid (∀t,t<klen→1≤ks.getD t 0∧ks.getD t 0≤5):=fun t ht=>hgood.out t (by omega)
     clear hgood
     go_wp2_with fail
     have hsz0:=Zoo w
     have hsz1:=hsz0.keep (Zaa _ (.cells #[] 158)) (by simp)
     have hown0:=Znl w (.cells #[.int .i64 0,.int .i64 1,.int .i64 2,.int .i64 4,.int .i64 8,.int .i64 1] 3)
     have hb2:=Zbm w (.cells #[.int .i64 0,.int .i64 1,.int .i64 2,.int .i64 4,.int .i64 8,.int .i64 1] 3) (.cells #[] 158)
     have hs2:w.heap.size+1≤((w.alloc (.cells #[.int .i64 0,.int .i64 1,.int .i64 2,.int .i64 4,.int .i64 8,.int .i64 1] 3)).alloc (.cells #[] 158)).heap.size:=by simp
     generalize ((w.alloc (.cells #[.int .i64 0,.int .i64 1,.int .i64 2,.int .i64 4,.int .i64 8,.int .i64 1] 3)).alloc (.cells #[] 158))=w2 at hsz1 hown0 hb2 hs2 ⊢
     have HSZ:=hide hsz1
     have HOW:=hide hown0
     have HB2:=hide hb2
     have HS2:=hide hs2
     have hsf:∀(w:World) (a:Addr) (m:Mode) (x:Nat),(store a (.float .f64 x) m).run Tryz.prog w=stored Tryz.prog w a (.float .f64 x) m:=fun w a m x=>run_store Tryz.prog w a _ m rfl
     clear hsz0 hsz1 hown0 hb2 hs2
     go_loopw [9,10,11] (fun u9 u10 u11 wr=>∃(j q:Nat) (l:List It),j≤klen∧q≤len∧u10=.int .i64 q∧u11=.int .i64 j∧Hid (OwnsI wr (w.heap.size+1) u9 l)∧Hid (∀i∈l,i.fits)∧Hid (Below (w.heap.size+1) w2 wr)∧Hid (tks xs ks [] 0=tks xs (ks.drop j) l q)∧Hid (l.length=j)) (fun _ _ u11 _=>klen-(intOf u11).toNat)
     case atStart=>exact ⟨0,0,[],by omega,by omega,rfl,rfl,HOW,hide (fun i hi=>by cases hi),hide (Below.refl _ _),hide (by simp),hide rfl⟩
     case round =>
      obtain⟨j,q,l,hj,hq,rfl,rfl,hO,hF,hB,hT,hL⟩:=hrel
      have HBW:Below w.heap.size w wr:=HB2.out.trans (hB.out.mono (by omega))
      rcases Nat.lt_or_ge j klen with hlt | hge
      · obtain⟨b,off,rfl,hcell⟩:=(HK.out.keep HBW (Nat.le_refl _)).2 j hlt
        obtain⟨k,hkk⟩:∃k,k=ks.getD j 0:=⟨_,rfl⟩
        rw [← hkk] at hcell
        have HKK:Hid (1≤k∧k≤5):=by rw [hkk];exact HG.out j hlt
        have HST:=hide (Zmn (by rw [HKL.out];exact hlt) hkk hT.out)
        have HXD:Hid (Bytes (xs.drop q)):=fun x hx=>HXS.out x (List.mem_of_mem_drop hx)
        have HBS:=hide (HC.out.bs.keep HBW (Nat.le_refl _))
        clear hkk hT
        obtain⟨kn,rfl⟩:=Int.eq_ofNat_of_zero_le (Int.le_trans (by decide) HKK.out.1)
        have hkn:1≤kn∧kn≤5:=by have:=HKK.out;omega
        have hsz:=(HSZ.out.keep hB.out (Nat.lt_succ_self _)) kn hkn.1 hkn.2
        have hk6:kn<6:=by omega
        obtain⟨n,hn⟩:∃n,n=szN (kn:Nat):=⟨_,rfl⟩
        have hn8:n≤8:=by rw [hn];exact Zon _
        rw [← hn] at hsz
        have HN:=hide hn
        clear hn
        rcases Nat.lt_or_ge (len-q) n with hs | hs
        · have HO:Hid (Za2 xs ks=([],0,4)):=Zbx HKL.out HG.out (HST.out.1 (Zmm HKK.out (by rw [← HN.out,List.length_drop,HXL.out];exact hs)))
          have i1:(len:Int)-(q:Int)<(n:Int):=by omega
          go_wp2_with fail
          go_ret3
          unfold ZaK
          rw [HO.out]
          exact⟨_,rfl,HBW,OwnsI.nil _ _,fun i hi=>by cases hi⟩
        · have i1:¬(len:Int)-(q:Int)<(n:Int):=by omega
          go_wp2_with fail
          go_loop [13,14] (fun uu ii=>∃t:Nat,t≤n∧ii=.int .i64 t∧uu=.int .u64 (numB ((xs.drop q).take t):Nat)) (fun _ ii=>n-(intOf ii).toNat)
          case atStart=>exact ⟨0,by omega,rfl,by simp [numB]⟩
          case round =>
           obtain⟨t,ht,rfl,rfl⟩:=hrel
           obtain⟨U,hU⟩:∃U,U=numB ((xs.drop q).take t):=⟨_,rfl⟩
           have hbt:Bytes ((xs.drop q).take t):=fun x hx=>HXD.out x (List.mem_of_mem_take hx)
           have hpw:numB ((xs.drop q).take t)<256 ^ t:=by
            have h2:=ZbM hbt
            rw [show ((xs.drop q).take t).length=t by rw [List.length_take,List.length_drop,HXL.out];omega] at h2
            exact h2
           rw [← hU] at hpw ⊢
           rcases Nat.lt_or_ge t n with htn | htn
           · obtain⟨bb,bo,ha,hbc⟩:=HBS.out.2.2 (q+t) (by omega)
             obtain⟨y,hy⟩:∃y,y=xs.getD (q+t) 0:=⟨_,rfl⟩
             have hyl:y<256:=by rw [hy];exact ZjV HXS.out _
             have hUl:U<72057594037927936:=by
              have h4:256 ^ t≤256 ^ 7:=Nat.pow_le_pow_right (by decide) (by omega)
              have:(256:Nat) ^ 7=72057594037927936:=by decide
              omega
             have HSN:Hid (numB ((xs.drop q).take (t+1))=U*256+y):=by
              have hl':t<(xs.drop q).length:=by rw [List.length_drop,HXL.out];omega
              have hl2:q+t<xs.length:=by rw [HXL.out];omega
              rw [List.take_succ_eq_append_getElem hl',ZgD,← hU,hy]
              simp [List.getD,hl2,hide]
             rw [← hy] at hbc
             have HUU:=hide hU
             have HYY:=hide hy
             subst ha
             clear hU hy hbt hpw
             go_wp2_with fail
             go_round
             case rel=>exact ⟨t+1,by omega,by go_num,by rw [HSN.out];simp⟩
             case measure=>simp only [intOf];omega
           · have htn':t=n:=by omega
             subst htn'
             have HUU:=hide hU
             have HPW:=hide hpw
             clear hU hbt hpw
             have hcell2:(wr.alloc (.cells #[.int .i64 (kn:Nat),.int .i64 0,.float .f64 0,.string ⟨#[]⟩] 158)).cell? ⟨b,off+j,none⟩=some (.int .i64 (kn:Nat)):=((Zaa wr _).cell (p:=⟨b,off+j,none⟩) (World.block_lt_of_cell? wr _ hcell)).trans hcell
             have HU64:Hid (U<18446744073709551616):=by
              have h6:256 ^ t≤256 ^ 8:=Nat.pow_le_pow_right (by decide) (by omega)
              have h7:(256:Nat) ^ 8=18446744073709551616:=by decide
              have h8:=HPW.out
              show U<18446744073709551616
              omega
             by_cases h4:kn=4
             · subst h4
               have ht8:t=8:=HN.out
               subst ht8
               have hcell3:(wr.alloc (.cells #[.int .i64 4,.int .i64 0,.float .f64 0,.string ⟨#[]⟩] 158)).cell? ⟨b,off+j,none⟩=some (.int .i64 4):=hcell2
               clear hcell2
               have hfc:∀w,(callFunc 67 #[.int .u64 (U:Nat)]).run Tryz.prog w=.ok (.value (.float .f64 U)) w:=Zda (U:Nat)
               have hce:cand (xs.drop q) ((4:Nat):Int)=(⟨4,0,U,noS⟩,8):=by
                                   show cand (xs.drop q) 4=_
                                   simp only [cand,if_true]
                                   rw [← HUU.out]
               have hcd:=ZgX HXD.out HKK.out (by show (if (4:Int)=4 then 8 else _)≤_;rw [if_pos rfl,List.length_drop,HXL.out];omega) (by rw [hce];rw [List.length_drop,HXL.out];simp only;omega)
               rw [hce] at hcd
               simp only at hcd
               have hqn:q+(8)≤len:=by omega
               have HQN:=hide hqn
               have HCD:=hide hcd
               have HI:Hid (ItAt (wr.alloc (.cells #[.int .i64 4,.int .i64 0,.float .f64 U,.string noS] 158)) wr.heap.size 0 ⟨4,0,U,noS⟩):=Zc1 wr ⟨4,0,U,noS⟩ _
               have HB5:=hide (HBS.out.keep (Zaa wr (.cells #[.int .i64 4,.int .i64 0,.float .f64 U,.string noS] 158)) (Nat.le_refl _))
               have HO5:=hide (hO.out.keep (Zaa wr (.cells #[.int .i64 4,.int .i64 0,.float .f64 U,.string noS] 158)) (Nat.le_refl _))
               have HW5:=hide (hB.out.trans ((Zaa wr (.cells #[.int .i64 4,.int .i64 0,.float .f64 U,.string noS] 158)).mono (Nat.le_trans HS2.out hB.out.size)))
               have HSZ5:Hid (w.heap.size+1≤(wr.alloc (.cells #[.int .i64 4,.int .i64 0,.float .f64 U,.string noS] 158)).heap.size):=Nat.le_trans HS2.out HW5.out.size
               clear hcd hqn
               go_wp2_with fail
               cases hm:It.may ⟨4,0,U,noS⟩
               · have HO:Hid (Za2 xs ks=([],0,4)):=Zbx HKL.out HG.out (HST.out.1 (HCD.out.1 hm))
                 refine Pl.q9 (ops:=Pl.find 30 ((Tryz.f150.body).getD .skip)) ?_
                 refine ZkJ (wr.alloc (.cells #[.int .i64 4,.int .i64 0,.float .f64 U,.string noS] 158)) _ a len cap q (8) wr.heap.size xs ⟨4,0,U,noS⟩ HI.out HB5.out HC.out.le HQN.out HC.out.big (Below.refl _ _) hm (by rfl) (by rfl) (by rfl) (by rfl) (by rfl) (by rfl) ?_
                 intro u w' hb'
                 have HBE:=hide (HB2.out.trans ((HW5.out.mono (Nat.le_succ _)).trans (hb'.mono (Nat.le_trans (Nat.le_succ _) HSZ5.out))))
                 clear hb' hm
                 simp only [Act.put,List.setIfInBounds_toArray,List.set_cons_zero,List.set_cons_succ]
                 go_wp2_with fail
                 go_ret3
                 unfold ZaK
                 rw [HO.out]
                 exact⟨_,rfl,HBE.out,OwnsI.nil _ _,fun i hi=>by cases hi⟩
               · have HXX:Hid (It.x ⟨4,0,U,noS⟩<18446744073709551616):=by
                  show _<_
                  simp only
                  first | decide | exact HU64.out
                 by_cases hby:It.bytes ⟨4,0,U,noS⟩=(xs.drop q).take (8)
                 · have htk:=HCD.out.2.2 hm hby
                   have hfx:=ZdI HXD.out (by rw [List.length_drop,HXL.out];omega) HKK.out htk
                   have HFI:=hide hfx.1
                   have HT2:=hide (HST.out.2 _ _ htk)
                   have hval:(!((bstr (It.bytes ⟨4,0,U,noS⟩)).toList == (bstr ((xs.drop q).take (q+(8)-q))).toList))=false:=by
                    rw [show q+(8)-q=8 by omega,hby]
                    simp
                   refine Pl.q9 (ops:=Pl.find 30 ((Tryz.f150.body).getD .skip)) ?_
                   refine Zfl (wr.alloc (.cells #[.int .i64 4,.int .i64 0,.float .f64 U,.string noS] 158)) _ a len cap q (8) wr.heap.size xs ⟨4,0,U,noS⟩ HI.out HB5.out HC.out.le HQN.out HC.out.big (Below.refl _ _) hm HXX.out (by rfl) (by rfl) (by rfl) (by rfl) (by rfl) (by rfl) ?_
                   intro u w' hb'
                   rw [hval]
                   have hit:=Zag HI.out hb'
                   have d0:=hit.p0
                   have d1:=hit.p1
                   have d2:=hit.p2
                   have d3:=hit.p3
                   simp only at d0 d1 d2 d3
                   have HWE:=hide (HW5.out.trans (hb'.mono HSZ5.out))
                   have HO6:Hid (OwnsI (w'.alloc (.cells #[.int .i64 4,.int .i64 0,.float .f64 U,.string noS] 158)) (w.heap.size+1) u9 l):=(HO5.out.keep hb' (Nat.le_refl _)).keep (Zaa w' _) (Nat.le_refl _)
                   have HI6:Hid (Is (w'.alloc (.cells #[.int .i64 4,.int .i64 0,.float .f64 U,.string noS] 158)) (some ⟨w'.heap.size,0,none⟩) 1 [⟨4,0,U,noS⟩]):=ZbV w' ⟨4,0,U,noS⟩ HFI.out
                   have HW6:Hid (Below (w.heap.size+1) w2 (w'.alloc (.cells #[.int .i64 4,.int .i64 0,.float .f64 U,.string noS] 158))):=HWE.out.alloc (Nat.le_trans HS2.out HWE.out.size) _
                   have HLL:Hid (l.length+1≤1000000):=by show _≤_;rw [hL.out];omega
                   clear hb' hm hby htk hfx hval hit
                   simp only [Act.put,List.setIfInBounds_toArray,List.set_cons_zero,List.set_cons_succ]
                   go_wp2_with (at_builtin;refine Zaq _ rfl (.tmp 127) (.tmp 129) rfl (w.heap.size+1) _ l rfl HO6.out _ _ _ [⟨4,0,U,noS⟩] rfl HI6.out (fun e=>by cases e) HLL.out (Nat.le_trans HS2.out HW6.out.size) ?_)
                   intro v3 w3 ho3 hb3 _
                   have HO7:=hide ho3
                   have HW7:=hide (HW6.out.trans hb3)
                   clear ho3 hb3 HXX HU64 HPW HCD
                   try clear hU32
                   go_wp2
                   go_roundw
                   case rel=>exact ⟨j+1,q+(8),l ++ [⟨4,0,U,noS⟩],by omega,HQN.out,by go_num,by go_num,HO7,hide (fun z hz=>by
                    rcases List.mem_append.1 hz with h | h
                    · exact hF.out z h
                    · simp at h;rw [h];exact HFI.out),HW7,HT2,hide (by rw [List.length_append,hL.out];rfl)⟩
                   case measure=>simp only [intOf];omega
                 · have HO:Hid (Za2 xs ks=([],0,4)):=Zbx HKL.out HG.out (HST.out.1 (HCD.out.2.1 hm hby))
                   have hval:(!((bstr (It.bytes ⟨4,0,U,noS⟩)).toList == (bstr ((xs.drop q).take (q+(8)-q))).toList))=true:=by
                    rw [show q+(8)-q=8 by omega,ZgR (ZdE hm).2 (fun x hx=>HXD.out x (List.mem_of_mem_take hx)) hby]
                    rfl
                   refine Pl.q9 (ops:=Pl.find 30 ((Tryz.f150.body).getD .skip)) ?_
                   refine Zfl (wr.alloc (.cells #[.int .i64 4,.int .i64 0,.float .f64 U,.string noS] 158)) _ a len cap q (8) wr.heap.size xs ⟨4,0,U,noS⟩ HI.out HB5.out HC.out.le HQN.out HC.out.big (Below.refl _ _) hm HXX.out (by rfl) (by rfl) (by rfl) (by rfl) (by rfl) (by rfl) ?_
                   intro u w' hb'
                   rw [hval]
                   have HBE:=hide (HB2.out.trans ((HW5.out.mono (Nat.le_succ _)).trans (hb'.mono (Nat.le_trans (Nat.le_succ _) HSZ5.out))))
                   clear hb' hm hby hval
                   simp only [Act.put,List.setIfInBounds_toArray,List.set_cons_zero,List.set_cons_succ]
                   go_wp2_with fail
                   go_ret3
                   unfold ZaK
                   rw [HO.out]
                   exact⟨_,rfl,HBE.out,OwnsI.nil _ _,fun i hi=>by cases hi⟩
             · by_cases h5:kn=5
               · subst h5
                 have ht1:t=1:=HN.out
                 subst ht1
                 have hcell3:(wr.alloc (.cells #[.int .i64 5,.int .i64 0,.float .f64 0,.string ⟨#[]⟩] 158)).cell? ⟨b,off+j,none⟩=some (.int .i64 5):=hcell2
                 clear hcell2
                 have hU8:U<256:=by have:=HPW.out;simpa using this
                 rcases Nat.lt_or_ge (len-q-1) U with hs2 | hs2
                 · have HO:Hid (Za2 xs ks=([],0,4)):=Zbx HKL.out HG.out (HST.out.1 (by
                    show tk (xs.drop q) 5=none
                    simp only [tk,show ¬(5:Int)=4 by decide,if_false,if_true]
                    rw [if_pos (by rw [List.length_drop,HXL.out];omega),← HUU.out,if_neg (by rw [List.length_drop,HXL.out];omega)]))
                   have i2:(len:Int)-(q:Int)-1<(U:Int):=by omega
                   have HBE:=hide (HBW.trans ((Zaa wr (.cells #[.int .i64 5,.int .i64 0,.float .f64 0,.string ⟨#[]⟩] 158)).mono HBW.size))
                   go_wp2_with fail
                   go_ret3
                   unfold ZaK
                   rw [HO.out]
                   exact⟨_,rfl,HBE.out,OwnsI.nil _ _,fun i hi=>by cases hi⟩
                 · have i2:¬(len:Int)-(q:Int)-1<(U:Int):=by omega
                   have hsl:∀w,(Instr.sliceAt 56 (.slice a len cap) (some (.int .i64 ((q:Int)+1))) (some (.int .i64 ((q:Int)+1+(U:Int)))) none).run Tryz.prog w=.ok (.slice (fromA a cap (q+1)) U (cap-(q+1))) w:=by
                    intro w
                    have h:=Ze8 a len cap (q+1) (q+1+U) (by omega) (by omega) HC.out.le w
                    rw [show q+1+U-(q+1)=U by omega] at h
                    exact h
                   have hcv:(convert 56 9 (.slice (fromA a cap (q+1)) U (cap-(q+1)))).run Tryz.prog (wr.alloc (.cells #[.int .i64 5,.int .i64 0,.float .f64 0,.string ⟨#[]⟩] 158))=.ok (.string (bstr ((xs.drop (q+1)).take U))) (wr.alloc (.cells #[.int .i64 5,.int .i64 0,.float .f64 0,.string ⟨#[]⟩] 158)):=by
                    have h:=(HBS.out.keep (Zaa wr (.cells #[.int .i64 5,.int .i64 0,.float .f64 0,.string ⟨#[]⟩] 158)) (Nat.le_refl _)).mid (cap:=cap) (k:=q+1) (j:=q+1+U) (by omega) (by omega) HC.out.le
                    rw [show q+1+U-(q+1)=U by omega] at h
                    exact Zat (cap-(q+1)) h
                   have hce:cand (xs.drop q) ((5:Nat):Int)=(⟨5,0,0,bstr ((xs.drop (q+1)).take U)⟩,1+U):=by
                                           show cand (xs.drop q) 5=_
                                           simp only [cand,show ¬(5:Int)=4 by decide,if_false,if_true]
                                           rw [← HUU.out,List.drop_drop]
                   have hcd:=ZgX HXD.out HKK.out (by show (if (5:Int)=4 then 8 else if (5:Int)=5 then 1 else _)≤_;rw [if_neg (by decide),if_pos rfl,List.length_drop,HXL.out];omega) (by rw [hce];rw [List.length_drop,HXL.out];simp only;omega)
                   rw [hce] at hcd
                   simp only at hcd
                   have hqn:q+(1+U)≤len:=by omega
                   have HQN:=hide hqn
                   have HCD:=hide hcd
                   have HI:Hid (ItAt (wr.alloc (.cells #[.int .i64 5,.int .i64 0,.float .f64 0,.string (bstr ((xs.drop (q+1)).take U))] 158)) wr.heap.size 0 ⟨5,0,0,bstr ((xs.drop (q+1)).take U)⟩):=Zc1 wr ⟨5,0,0,bstr ((xs.drop (q+1)).take U)⟩ _
                   have HB5:=hide (HBS.out.keep (Zaa wr (.cells #[.int .i64 5,.int .i64 0,.float .f64 0,.string (bstr ((xs.drop (q+1)).take U))] 158)) (Nat.le_refl _))
                   have HO5:=hide (hO.out.keep (Zaa wr (.cells #[.int .i64 5,.int .i64 0,.float .f64 0,.string (bstr ((xs.drop (q+1)).take U))] 158)) (Nat.le_refl _))
                   have HW5:=hide (hB.out.trans ((Zaa wr (.cells #[.int .i64 5,.int .i64 0,.float .f64 0,.string (bstr ((xs.drop (q+1)).take U))] 158)).mono (Nat.le_trans HS2.out hB.out.size)))
                   have HSZ5:Hid (w.heap.size+1≤(wr.alloc (.cells #[.int .i64 5,.int .i64 0,.float .f64 0,.string (bstr ((xs.drop (q+1)).take U))] 158)).heap.size):=Nat.le_trans HS2.out HW5.out.size
                   clear hcd hqn
                   go_wp2_with fail
                   cases hm:It.may ⟨5,0,0,bstr ((xs.drop (q+1)).take U)⟩
                   · have HO:Hid (Za2 xs ks=([],0,4)):=Zbx HKL.out HG.out (HST.out.1 (HCD.out.1 hm))
                     refine Pl.q9 (ops:=Pl.find 30 ((Tryz.f150.body).getD .skip)) ?_
                     refine ZkJ (wr.alloc (.cells #[.int .i64 5,.int .i64 0,.float .f64 0,.string (bstr ((xs.drop (q+1)).take U))] 158)) _ a len cap q (1+U) wr.heap.size xs ⟨5,0,0,bstr ((xs.drop (q+1)).take U)⟩ HI.out HB5.out HC.out.le HQN.out HC.out.big (Below.refl _ _) hm (by rfl) (by rfl) (by rfl) (by rfl) (by rfl) (by rfl) ?_
                     intro u w' hb'
                     have HBE:=hide (HB2.out.trans ((HW5.out.mono (Nat.le_succ _)).trans (hb'.mono (Nat.le_trans (Nat.le_succ _) HSZ5.out))))
                     clear hb' hm
                     simp only [Act.put,List.setIfInBounds_toArray,List.set_cons_zero,List.set_cons_succ]
                     go_wp2_with fail
                     go_ret3
                     unfold ZaK
                     rw [HO.out]
                     exact⟨_,rfl,HBE.out,OwnsI.nil _ _,fun i hi=>by cases hi⟩
                   · have HXX:Hid (It.x ⟨5,0,0,bstr ((xs.drop (q+1)).take U)⟩<18446744073709551616):=by
                      show _<_
                      simp only
                      first | decide | exact HU64.out
                     by_cases hby:It.bytes ⟨5,0,0,bstr ((xs.drop (q+1)).take U)⟩=(xs.drop q).take (1+U)
                     · have htk:=HCD.out.2.2 hm hby
                       have hfx:=ZdI HXD.out (by rw [List.length_drop,HXL.out];omega) HKK.out htk
                       have HFI:=hide hfx.1
                       have HT2:=hide (HST.out.2 _ _ htk)
                       have hval:(!((bstr (It.bytes ⟨5,0,0,bstr ((xs.drop (q+1)).take U)⟩)).toList == (bstr ((xs.drop q).take (q+(1+U)-q))).toList))=false:=by
                        rw [show q+(1+U)-q=1+U by omega,hby]
                        simp
                       refine Pl.q9 (ops:=Pl.find 30 ((Tryz.f150.body).getD .skip)) ?_
                       refine Zfl (wr.alloc (.cells #[.int .i64 5,.int .i64 0,.float .f64 0,.string (bstr ((xs.drop (q+1)).take U))] 158)) _ a len cap q (1+U) wr.heap.size xs ⟨5,0,0,bstr ((xs.drop (q+1)).take U)⟩ HI.out HB5.out HC.out.le HQN.out HC.out.big (Below.refl _ _) hm HXX.out (by rfl) (by rfl) (by rfl) (by rfl) (by rfl) (by rfl) ?_
                       intro u w' hb'
                       rw [hval]
                       have hit:=Zag HI.out hb'
                       have d0:=hit.p0
                       have d1:=hit.p1
                       have d2:=hit.p2
                       have d3:=hit.p3
                       simp only at d0 d1 d2 d3
                       have HWE:=hide (HW5.out.trans (hb'.mono HSZ5.out))
                       have HO6:Hid (OwnsI (w'.alloc (.cells #[.int .i64 5,.int .i64 0,.float .f64 0,.string (bstr ((xs.drop (q+1)).take U))] 158)) (w.heap.size+1) u9 l):=(HO5.out.keep hb' (Nat.le_refl _)).keep (Zaa w' _) (Nat.le_refl _)
                       have HI6:Hid (Is (w'.alloc (.cells #[.int .i64 5,.int .i64 0,.float .f64 0,.string (bstr ((xs.drop (q+1)).take U))] 158)) (some ⟨w'.heap.size,0,none⟩) 1 [⟨5,0,0,bstr ((xs.drop (q+1)).take U)⟩]):=ZbV w' ⟨5,0,0,bstr ((xs.drop (q+1)).take U)⟩ HFI.out
                       have HW6:Hid (Below (w.heap.size+1) w2 (w'.alloc (.cells #[.int .i64 5,.int .i64 0,.float .f64 0,.string (bstr ((xs.drop (q+1)).take U))] 158))):=HWE.out.alloc (Nat.le_trans HS2.out HWE.out.size) _
                       have HLL:Hid (l.length+1≤1000000):=by show _≤_;rw [hL.out];omega
                       clear hb' hm hby htk hfx hval hit
                       simp only [Act.put,List.setIfInBounds_toArray,List.set_cons_zero,List.set_cons_succ]
                       go_wp2_with (at_builtin;refine Zaq _ rfl (.tmp 127) (.tmp 129) rfl (w.heap.size+1) _ l rfl HO6.out _ _ _ [⟨5,0,0,bstr ((xs.drop (q+1)).take U)⟩] rfl HI6.out (fun e=>by cases e) HLL.out (Nat.le_trans HS2.out HW6.out.size) ?_)
                       intro v3 w3 ho3 hb3 _
                       have HO7:=hide ho3
                       have HW7:=hide (HW6.out.trans hb3)
                       clear ho3 hb3 HXX HU64 HPW HCD
                       try clear hU32
                       go_wp2
                       go_roundw
                       case rel=>exact ⟨j+1,q+(1+U),l ++ [⟨5,0,0,bstr ((xs.drop (q+1)).take U)⟩],by omega,HQN.out,by go_num,by go_num,HO7,hide (fun z hz=>by
                        rcases List.mem_append.1 hz with h | h
                        · exact hF.out z h
                        · simp at h;rw [h];exact HFI.out),HW7,HT2,hide (by rw [List.length_append,hL.out];rfl)⟩
                       case measure=>simp only [intOf];omega
                     · have HO:Hid (Za2 xs ks=([],0,4)):=Zbx HKL.out HG.out (HST.out.1 (HCD.out.2.1 hm hby))
                       have hval:(!((bstr (It.bytes ⟨5,0,0,bstr ((xs.drop (q+1)).take U)⟩)).toList == (bstr ((xs.drop q).take (q+(1+U)-q))).toList))=true:=by
                        rw [show q+(1+U)-q=1+U by omega,ZgR (ZdE hm).2 (fun x hx=>HXD.out x (List.mem_of_mem_take hx)) hby]
                        rfl
                       refine Pl.q9 (ops:=Pl.find 30 ((Tryz.f150.body).getD .skip)) ?_
                       refine Zfl (wr.alloc (.cells #[.int .i64 5,.int .i64 0,.float .f64 0,.string (bstr ((xs.drop (q+1)).take U))] 158)) _ a len cap q (1+U) wr.heap.size xs ⟨5,0,0,bstr ((xs.drop (q+1)).take U)⟩ HI.out HB5.out HC.out.le HQN.out HC.out.big (Below.refl _ _) hm HXX.out (by rfl) (by rfl) (by rfl) (by rfl) (by rfl) (by rfl) ?_
                       intro u w' hb'
                       rw [hval]
                       have HBE:=hide (HB2.out.trans ((HW5.out.mono (Nat.le_succ _)).trans (hb'.mono (Nat.le_trans (Nat.le_succ _) HSZ5.out))))
                       clear hb' hm hby hval
                       simp only [Act.put,List.setIfInBounds_toArray,List.set_cons_zero,List.set_cons_succ]
                       go_wp2_with fail
                       go_ret3
                       unfold ZaK
                       rw [HO.out]
                       exact⟨_,rfl,HBE.out,OwnsI.nil _ _,fun i hi=>by cases hi⟩
               · have e4:((kn:Int) == 4)=false:=by apply beq_eq_false_iff_ne.2;omega
                 have e5:((kn:Int) == 5)=false:=by apply beq_eq_false_iff_ne.2;omega
                 have HCN:Hid (t=cntN (kn:Nat)):=by
                  have:=HN.out
                  unfold szN at this
                  rw [if_neg (by omega),if_neg (by omega)] at this
                  exact this
                 have hU32:U<4294967296:=by
                  have hc:t≤4:=by
                   rw [HCN.out]
                   unfold cntN
                   split
                   · omega
                   · split <;> omega
                  have h6:256 ^ t≤256 ^ 4:=Nat.pow_le_pow_right (by decide) hc
                  have:(256:Nat) ^ 4=4294967296:=by decide
                  have:=HPW.out
                  omega
                 have hce:cand (xs.drop q) (kn:Nat)=(⟨(kn:Nat),(U:Nat),0,noS⟩,t):=by
                                       unfold cand
                                       rw [if_neg (by omega),if_neg (by omega),← HCN.out,← HUU.out]
                 have hcd:=ZgX HXD.out HKK.out (by rw [if_neg (by omega),if_neg (by omega),← HCN.out,List.length_drop,HXL.out];omega) (by rw [hce];rw [List.length_drop,HXL.out];simp only;omega)
                 rw [hce] at hcd
                 simp only at hcd
                 have hqn:q+(t)≤len:=by omega
                 have HQN:=hide hqn
                 have HCD:=hide hcd
                 have HI:Hid (ItAt (wr.alloc (.cells #[.int .i64 (kn:Nat),.int .i64 (U:Nat),.float .f64 0,.string noS] 158)) wr.heap.size 0 ⟨(kn:Nat),(U:Nat),0,noS⟩):=Zc1 wr ⟨(kn:Nat),(U:Nat),0,noS⟩ _
                 have HB5:=hide (HBS.out.keep (Zaa wr (.cells #[.int .i64 (kn:Nat),.int .i64 (U:Nat),.float .f64 0,.string noS] 158)) (Nat.le_refl _))
                 have HO5:=hide (hO.out.keep (Zaa wr (.cells #[.int .i64 (kn:Nat),.int .i64 (U:Nat),.float .f64 0,.string noS] 158)) (Nat.le_refl _))
                 have HW5:=hide (hB.out.trans ((Zaa wr (.cells #[.int .i64 (kn:Nat),.int .i64 (U:Nat),.float .f64 0,.string noS] 158)).mono (Nat.le_trans HS2.out hB.out.size)))
                 have HSZ5:Hid (w.heap.size+1≤(wr.alloc (.cells #[.int .i64 (kn:Nat),.int .i64 (U:Nat),.float .f64 0,.string noS] 158)).heap.size):=Nat.le_trans HS2.out HW5.out.size
                 clear hcd hqn
                 go_wp2_with fail
                 cases hm:It.may ⟨(kn:Nat),(U:Nat),0,noS⟩
                 · have HO:Hid (Za2 xs ks=([],0,4)):=Zbx HKL.out HG.out (HST.out.1 (HCD.out.1 hm))
                   refine Pl.q9 (ops:=Pl.find 30 ((Tryz.f150.body).getD .skip)) ?_
                   refine ZkJ (wr.alloc (.cells #[.int .i64 (kn:Nat),.int .i64 (U:Nat),.float .f64 0,.string noS] 158)) _ a len cap q (t) wr.heap.size xs ⟨(kn:Nat),(U:Nat),0,noS⟩ HI.out HB5.out HC.out.le HQN.out HC.out.big (Below.refl _ _) hm (by rfl) (by rfl) (by rfl) (by rfl) (by rfl) (by rfl) ?_
                   intro u w' hb'
                   have HBE:=hide (HB2.out.trans ((HW5.out.mono (Nat.le_succ _)).trans (hb'.mono (Nat.le_trans (Nat.le_succ _) HSZ5.out))))
                   clear hb' hm
                   simp only [Act.put,List.setIfInBounds_toArray,List.set_cons_zero,List.set_cons_succ]
                   go_wp2_with fail
                   go_ret3
                   unfold ZaK
                   rw [HO.out]
                   exact⟨_,rfl,HBE.out,OwnsI.nil _ _,fun i hi=>by cases hi⟩
                 · have HXX:Hid (It.x ⟨(kn:Nat),(U:Nat),0,noS⟩<18446744073709551616):=by
                    show _<_
                    simp only
                    first | decide | exact HU64.out
                   by_cases hby:It.bytes ⟨(kn:Nat),(U:Nat),0,noS⟩=(xs.drop q).take (t)
                   · have htk:=HCD.out.2.2 hm hby
                     have hfx:=ZdI HXD.out (by rw [List.length_drop,HXL.out];omega) HKK.out htk
                     have HFI:=hide hfx.1
                     have HT2:=hide (HST.out.2 _ _ htk)
                     have hval:(!((bstr (It.bytes ⟨(kn:Nat),(U:Nat),0,noS⟩)).toList == (bstr ((xs.drop q).take (q+(t)-q))).toList))=false:=by
                      rw [show q+(t)-q=t by omega,hby]
                      simp
                     refine Pl.q9 (ops:=Pl.find 30 ((Tryz.f150.body).getD .skip)) ?_
                     refine Zfl (wr.alloc (.cells #[.int .i64 (kn:Nat),.int .i64 (U:Nat),.float .f64 0,.string noS] 158)) _ a len cap q (t) wr.heap.size xs ⟨(kn:Nat),(U:Nat),0,noS⟩ HI.out HB5.out HC.out.le HQN.out HC.out.big (Below.refl _ _) hm HXX.out (by rfl) (by rfl) (by rfl) (by rfl) (by rfl) (by rfl) ?_
                     intro u w' hb'
                     rw [hval]
                     have hit:=Zag HI.out hb'
                     have d0:=hit.p0
                     have d1:=hit.p1
                     have d2:=hit.p2
                     have d3:=hit.p3
                     simp only at d0 d1 d2 d3
                     have HWE:=hide (HW5.out.trans (hb'.mono HSZ5.out))
                     have HO6:Hid (OwnsI (w'.alloc (.cells #[.int .i64 (kn:Nat),.int .i64 (U:Nat),.float .f64 0,.string noS] 158)) (w.heap.size+1) u9 l):=(HO5.out.keep hb' (Nat.le_refl _)).keep (Zaa w' _) (Nat.le_refl _)
                     have HI6:Hid (Is (w'.alloc (.cells #[.int .i64 (kn:Nat),.int .i64 (U:Nat),.float .f64 0,.string noS] 158)) (some ⟨w'.heap.size,0,none⟩) 1 [⟨(kn:Nat),(U:Nat),0,noS⟩]):=ZbV w' ⟨(kn:Nat),(U:Nat),0,noS⟩ HFI.out
                     have HW6:Hid (Below (w.heap.size+1) w2 (w'.alloc (.cells #[.int .i64 (kn:Nat),.int .i64 (U:Nat),.float .f64 0,.string noS] 158))):=HWE.out.alloc (Nat.le_trans HS2.out HWE.out.size) _
                     have HLL:Hid (l.length+1≤1000000):=by show _≤_;rw [hL.out];omega
                     clear hb' hm hby htk hfx hval hit
                     simp only [Act.put,List.setIfInBounds_toArray,List.set_cons_zero,List.set_cons_succ]
                     go_wp2_with (at_builtin;refine Zaq _ rfl (.tmp 127) (.tmp 129) rfl (w.heap.size+1) _ l rfl HO6.out _ _ _ [⟨(kn:Nat),(U:Nat),0,noS⟩] rfl HI6.out (fun e=>by cases e) HLL.out (Nat.le_trans HS2.out HW6.out.size) ?_)
                     intro v3 w3 ho3 hb3 _
                     have HO7:=hide ho3
                     have HW7:=hide (HW6.out.trans hb3)
                     clear ho3 hb3 HXX HU64 HPW HCD
                     try clear hU32
                     go_wp2
                     go_roundw
                     case rel=>exact ⟨j+1,q+(t),l ++ [⟨(kn:Nat),(U:Nat),0,noS⟩],by omega,HQN.out,by go_num,by go_num,HO7,hide (fun z hz=>by
                      rcases List.mem_append.1 hz with h | h
                      · exact hF.out z h
                      · simp at h;rw [h];exact HFI.out),HW7,HT2,hide (by rw [List.length_append,hL.out];rfl)⟩
                     case measure=>simp only [intOf];omega
                   · have HO:Hid (Za2 xs ks=([],0,4)):=Zbx HKL.out HG.out (HST.out.1 (HCD.out.2.1 hm hby))
                     have hval:(!((bstr (It.bytes ⟨(kn:Nat),(U:Nat),0,noS⟩)).toList == (bstr ((xs.drop q).take (q+(t)-q))).toList))=true:=by
                      rw [show q+(t)-q=t by omega,ZgR (ZdE hm).2 (fun x hx=>HXD.out x (List.mem_of_mem_take hx)) hby]
                      rfl
                     refine Pl.q9 (ops:=Pl.find 30 ((Tryz.f150.body).getD .skip)) ?_
                     refine Zfl (wr.alloc (.cells #[.int .i64 (kn:Nat),.int .i64 (U:Nat),.float .f64 0,.string noS] 158)) _ a len cap q (t) wr.heap.size xs ⟨(kn:Nat),(U:Nat),0,noS⟩ HI.out HB5.out HC.out.le HQN.out HC.out.big (Below.refl _ _) hm HXX.out (by rfl) (by rfl) (by rfl) (by rfl) (by rfl) (by rfl) ?_
                     intro u w' hb'
                     rw [hval]
                     have HBE:=hide (HB2.out.trans ((HW5.out.mono (Nat.le_succ _)).trans (hb'.mono (Nat.le_trans (Nat.le_succ _) HSZ5.out))))
                     clear hb' hm hby hval
                     simp only [Act.put,List.setIfInBounds_toArray,List.set_cons_zero,List.set_cons_succ]
                     go_wp2_with fail
                     go_ret3
                     unfold ZaK
                     rw [HO.out]
                     exact⟨_,rfl,HBE.out,OwnsI.nil _ _,fun i hi=>by cases hi⟩
      · have hjk:j=klen:=by omega
        subst hjk
        have HO:Hid (Za2 xs ks=(l,q,0)):=by
         have:=hT.out
         rw [List.drop_of_length_le (by rw [HKL.out];exact Nat.le_refl _)] at this
         simp only [tks] at this
         rw [ZbN (fun t ht=>HG.out t (by rw [← HKL.out];exact ht)),this]
         trivial
        clear hT
        go_wp2_with fail
        go_ret3
        unfold ZaK
        rw [HO.out]
        exact⟨_,rfl,HBW,hO.out.lower (Nat.le_succ _),hF.out⟩
end Go.Proofs.YtdojdcncncgncaaGreat
