/-
  Lemmas.
-/
import Derived.Test.YtiecfcjlhldhdaaGreatKeaf
import Derived.Test.YtiecfcjlhldhdaaGreatKeaa
import Derived.Test.YtiecfcjlhldhdaaGreatKeab
namespace Go.Proofs.YtiecfcjlhldhdaaGreat
open Go.RowKit
set_option linter.unusedVariables false
set_option linter.unusedSimpArgs false
set_option maxRecDepth 100000
set_option maxHeartbeats 4000000
variable {w:World}{b:Nat}
structure It where
  kind:Int
  n:Int
  x:Nat
  s:ByteArray
def It.val (i:It):Value:=.agg #[.int .i64 i.kind,.int .i64 i.n,.float .f64 i.x,.string i.s]
theorem ZaE (w:World)(o o':Obj):Below w.heap.size w ((w.alloc o).alloc o'):=
 (Zaa w o).trans ((Zaa (w.alloc o) o').mono (Zaa w o).size)
def It.may (i:It):Bool:=
  if i.kind=1 then decide (0≤i.n) && decide (i.n<256) && i.x == 0 && i.s.toList == []
  else if i.kind=2 then decide (0≤i.n) && decide (i.n<65536) && i.x == 0 && i.s.toList == []
  else if i.kind=3 then decide (0≤i.n) && decide (i.n<2147483648) && i.x == 0 && i.s.toList == []
  else if i.kind=4 then i.n == 0 && i.s.toList == []
  else if i.kind=5 then i.n == 0 && i.x == 0 && decide (i.s.size<256)
  else false
theorem Zf9 (i : It) (w : World) : Calls Tryz.prog 163 #[i.val] w fun e w' => e = .returned (.bool i.may) ∧ Below w.heap.size w w' := by
 obtain ⟨k, n, x, s⟩ := i
 have H : Hid (∀ w, Calls Tryz.prog 40 #[.float .f64 x, .float .f64 0] w fun e w' => e = .returned (.bool (x == 0)) ∧ w' = w) := ZcE x 0
 have HW : Hid (∀ o, Below w.heap.size w (w.alloc o)) := Zaa w
 unfold It.val
 simp only
 go_enter Tryz.func163, Tryz.ntmps163
 go_wp2_with fail
 refine (H.out _).mono ?_
 rintro e w' ⟨rfl, hw⟩
 obtain rfl := hw.symm
 by_cases h1 : k = 1
 · subst h1
   go_wp2_with fail
   all_goals (go_ret; refine ⟨?_, HW.out _⟩; simp [It.may, *] <;> (intros; omega))
 by_cases h2 : k = 2
 · subst h2
   go_wp2_with fail
   all_goals (go_ret; refine ⟨?_, HW.out _⟩; simp [It.may, *] <;> (intros; omega))
 by_cases h3 : k = 3
 · subst h3
   go_wp2_with fail
   all_goals (go_ret; refine ⟨?_, HW.out _⟩; simp [It.may, *] <;> (intros; omega))
 by_cases h4 : k = 4
 · subst h4
   go_wp2_with fail
   all_goals (go_ret; refine ⟨?_, HW.out _⟩; simp [It.may, *] <;> (intros; omega))
 by_cases h5 : k = 5
 · subst h5
   go_wp2_with fail
   all_goals (go_ret; refine ⟨?_, HW.out _⟩; simp [It.may, *] <;> (intros; omega))
 have e1 : (k == 1) = false := beq_eq_false_iff_ne.2 h1
 have e2 : (k == 2) = false := beq_eq_false_iff_ne.2 h2
 have e3 : (k == 3) = false := beq_eq_false_iff_ne.2 h3
 have e4 : (k == 4) = false := beq_eq_false_iff_ne.2 h4
 have e5 : (k == 5) = false := beq_eq_false_iff_ne.2 h5
 go_wp2_with fail
 all_goals (go_ret; refine ⟨?_, HW.out _⟩; simp [It.may, *] <;> (intros; omega))
def bigB (u:Nat):Nat→List Nat
  | 0=>[]
  | j+1=>u / 256 ^ j % 256 :: bigB u j
theorem Zak (u:Nat):∀n,(bigB u n).length=n
 | 0=>rfl
 | n+1=>by simp [bigB,Zak u n]
theorem Zbm (u:Nat):∀n,Bytes (bigB u n)
 | 0=>fun x h=>by cases h
 | n+1=>by
  intro x hx
  rcases List.mem_cons.1 hx with h | h
  · rw [h]
    exact Nat.mod_lt _ (by decide)
  · exact Zbm u n x h
theorem Znc (u n j:Nat)(hj:j<n):(List.replicate (n-j) 0 ++ bigB u j).set (n-1-j) (u / 256 ^ j % 256)=List.replicate (n-(j+1)) 0 ++ bigB u (j+1):=by
 (have e:n-j=(n-1-j)+1:=by omega);(have e2:n-(j+1)=n-1-j:=by omega);rw [e,e2,List.replicate_succ',List.append_assoc,List.set_append_right _ _ (by simp)];simp [bigB]
theorem Znd (u j:Nat):((u / 256 ^ j:Nat):Int) / 256=((u / 256 ^ (j+1):Nat):Int):=by
 rw [Nat.pow_succ,← Nat.div_div_eq_div_mul];rfl
theorem ZlY (w:World)(base g n cap:Nat)(h:w.ownsRow base 5 1 (.slice (some ⟨g,0,none⟩) n cap) n (madeCells #[Value.int .u8 0] n).toList):Owns w base (.slice (some ⟨g,0,none⟩) n cap) (List.replicate n 0):=by
 have e:(madeCells #[Value.int .u8 0] n).toList=vals (List.replicate n 0):=by
  rw [toList_madeCells_one];simp [vals]
 rw [e] at h;unfold Owns;rw [List.length_replicate];exact h
theorem ZfS (u n:Nat)(hu:u<18446744073709551616)(hn:n≤8)(w:World) :
    Calls Tryz.prog 183 #[.int .u64 (u:Nat),.int .i64 (n:Nat)] w fun e w'=>∃v,e=.returned v∧Owns w' w.heap.size v (bigB u n)∧Below w.heap.size w w':=by
  obtain⟨i0,hi,al,am,an⟩:=info_parts Zn9;have HU:=hide hu;clear hu;go_enter Tryz.func183,Tryz.ntmps183;go_wp2_with (at_make;refine wpList_make_full _ rfl _ _ 107 rfl w.heap.size 5 i0 (.int .u8 0) 1 Tryz.underlying107 hi al am _ _ _ _ n rfl rfl (by omega) (by omega) ?b2 ?b3 (Nat.le_refl _) ?_)
  case b2=>rw [an];omega
  case b3=>unfold maxLen;omega
  intro w0 ad aa;have HO:=hide (ZlY w0 w.heap.size w.heap.size n n ad);have HW:Hid (Below w.heap.size w w0):=(Below.refl w.heap.size w).grown aa (Nat.le_refl _) (fun k hk=>by cases hk);clear ad aa;go_wp2_with fail;go_loopw [0,6] (fun uu i wr=>∃j:Nat,j≤n∧i=.int .i64 ((n:Int)-1-j)∧uu=.int .u64 (u / 256 ^ j:Nat)∧Hid (Owns wr w.heap.size (.slice (some ⟨w.heap.size,0,none⟩) n n) (List.replicate (n-j) 0 ++ bigB u j))∧Hid (Below w.heap.size w wr)) (fun _ i _=>(intOf i+1).toNat)
  case atStart=>exact ⟨0,by omega,by simp,by simp,hide (by simpa [bigB] using HO.out),HW⟩
  case round =>
   obtain⟨j,hj,rfl,rfl,ac,ah⟩:=hrel;(have ab:(List.replicate (n-j) 0 ++ bigB u j).length=n:=by simp [Zak];omega);rcases Nat.lt_or_ge j n with ak | aq
   · obtain⟨U,hU⟩:∃U,U=u / 256 ^ j:=⟨_,rfl⟩;(have ao:U<18446744073709551616:=by rw [hU];exact Nat.lt_of_le_of_lt (Nat.div_le_self _ _) HU.out);have hB:Bytes (List.replicate (n-j) 0 ++ bigB u j):=by
      intro x hx;rcases List.mem_append.1 hx with k | k
      · rw [(List.mem_replicate.1 k).2];decide
      · exact Zbm u j x k
     have ae:=(ac.out.row hB).2;rw [ab] at ae;obtain⟨c,hc⟩:∃c,wr.cell? ⟨w.heap.size,n-1-j,none⟩=some (.int .u8 c):=by
      have:=ae.at (n-1-j) (by omega);rw [Nat.zero_add] at this;exact⟨_,this⟩
     have ap:wr.frozen? ⟨w.heap.size,n-1-j,none⟩=false:=by
      have ag:=ac.out;unfold Owns at ag;rw [ab] at ag;exact ag.frozenAt _
     (have i1:¬(n:Int)-1-(j:Int)<0:=by omega);(have i2:(0:Int)≤(n:Int)-1-(j:Int):=by omega);rw [← hU];have af:=hide hU;have HL:=hide ab;clear hU hB ae ab;go_wp2_with fail;have HS:Hid (Owns (wr.setCell ⟨w.heap.size,n-1-j,none⟩ (.int .u8 ((U:Int) % 256))) w.heap.size (.slice (some ⟨w.heap.size,0,none⟩) n n) (List.replicate (n-(j+1)) 0 ++ bigB u (j+1))):=by
      have:=ac.out.set HL.out.symm (n-1-j) (U % 256);rw [af.out,Znc u n j ak] at this;rw [af.out];exact this
     have HB:=hide (ah.out.setCell (p:=⟨w.heap.size,n-1-j,none⟩) (Nat.le_refl _) (.int .u8 ((U:Int) % 256)));go_roundw
     case rel=>exact ⟨j+1,by omega,by congr 1;omega,by rw [af.out,Znd],HS,HB⟩
     case measure=>simp only [intOf];omega
   · (have i1:¬(0:Int)≤(n:Int)-1-(j:Int):=by omega);(have aj:j=n:=by omega);subst aj;(have ai:Hid (Owns wr w.heap.size (.slice (some ⟨w.heap.size,0,none⟩) j j) (bigB u j)):=by simpa using ac);clear ac ab;go_wp2_with fail;go_ret;exact⟨_,rfl,ai.out,ah.out⟩
def It.bytes (i:It):List Nat:=
  if i.kind=1 then bigB i.n.toNat 1
  else if i.kind=2 then bigB i.n.toNat 2
  else if i.kind=3 then bigB i.n.toNat 4
  else if i.kind=4 then bigB (Fl.val i.x) 8
  else i.s.size :: strB i.s
theorem Owns.lower {b':Nat}{v:Value}{xs:List Nat}(h:Owns w b v xs)(hb:b'≤b):Owns w b' v xs:=by
 refine⟨h.1,?_⟩;rcases h.2 with hn | ⟨g,cap,cur,hv,aa,rest⟩
 · exact .inl hn
 · exact .inr ⟨g,cap,cur,hv,Nat.le_trans hb aa,rest⟩
theorem ZfA (i:It)(hm:i.may=true)(hx:i.x<18446744073709551616)(w:World) :
    Calls Tryz.prog 164 #[i.val] w fun e w'=>∃v,e=.returned v∧Owns w' w.heap.size v i.bytes∧Below w.heap.size w w':=by
  obtain⟨k,n,x,s⟩:=i;have HW:Hid (∀o,Below w.heap.size w (w.alloc o)):=Zaa w;unfold It.val;simp only at hx ⊢;by_cases h1:k=1
  · subst h1;simp [It.may] at hm;obtain⟨m,rfl⟩:=Int.eq_ofNat_of_zero_le hm.1.1.1;(have ab:m<256:=by omega);have HB:Hid (∀o,Calls Tryz.prog 183 #[.int .u64 (m:Nat),.int .i64 1] (w.alloc o) fun e w'=>∃v,e=.returned v∧Owns w' (w.alloc o).heap.size v (bigB m 1)∧Below (w.alloc o).heap.size (w.alloc o) w'):=
     fun o=>ZfS m 1 (by omega) (by omega) (w.alloc o)
    (have HY:Hid (It.bytes ⟨1,(m:Nat),x,s⟩=bigB m 1):=by simp [It.bytes,hide]);clear hm hx;go_enter Tryz.func164,Tryz.ntmps164;go_wp2_with fail;refine(HB.out _).mono ?_;rintro e w' ⟨v,rfl,ho,hb⟩;go_wp2_with fail;go_ret;exact⟨v,rfl,by rw [HY.out];exact ho.lower (by simp),(HW.out _).trans (hb.mono (HW.out _).size)⟩
  by_cases h2:k=2
  · subst h2;simp [It.may] at hm;obtain⟨m,rfl⟩:=Int.eq_ofNat_of_zero_le hm.1.1.1;(have ab:m<65536:=by omega);have HB:Hid (∀o,Calls Tryz.prog 183 #[.int .u64 (m:Nat),.int .i64 2] (w.alloc o) fun e w'=>∃v,e=.returned v∧Owns w' (w.alloc o).heap.size v (bigB m 2)∧Below (w.alloc o).heap.size (w.alloc o) w'):=
     fun o=>ZfS m 2 (by omega) (by omega) (w.alloc o)
    (have HY:Hid (It.bytes ⟨2,(m:Nat),x,s⟩=bigB m 2):=by simp [It.bytes,hide]);clear hm hx;go_enter Tryz.func164,Tryz.ntmps164;go_wp2_with fail;refine(HB.out _).mono ?_;rintro e w' ⟨v,rfl,ho,hb⟩;go_wp2_with fail;go_ret;exact⟨v,rfl,by rw [HY.out];exact ho.lower (by simp),(HW.out _).trans (hb.mono (HW.out _).size)⟩
  by_cases h3:k=3
  · subst h3;simp [It.may] at hm;obtain⟨m,rfl⟩:=Int.eq_ofNat_of_zero_le hm.1.1.1;(have ab:m<2147483648:=by omega);have HB:Hid (∀o,Calls Tryz.prog 183 #[.int .u64 (m:Nat),.int .i64 4] (w.alloc o) fun e w'=>∃v,e=.returned v∧Owns w' (w.alloc o).heap.size v (bigB m 4)∧Below (w.alloc o).heap.size (w.alloc o) w'):=
     fun o=>ZfS m 4 (by omega) (by omega) (w.alloc o)
    (have HY:Hid (It.bytes ⟨3,(m:Nat),x,s⟩=bigB m 4):=by simp [It.bytes,hide]);clear hm hx;go_enter Tryz.func164,Tryz.ntmps164;go_wp2_with fail;refine(HB.out _).mono ?_;rintro e w' ⟨v,rfl,ho,hb⟩;go_wp2_with fail;go_ret;exact⟨v,rfl,by rw [HY.out];exact ho.lower (by simp),(HW.out _).trans (hb.mono (HW.out _).size)⟩
  by_cases h4:k=4
  · subst h4;have HV:Hid (∀o,Calls Tryz.prog 50 #[.float .f64 x] (w.alloc o) fun e w'=>e=.returned (.int .u64 (Fl.val x:Nat))∧w'=w.alloc o):=fun o=>Zb0 x hx (w.alloc o);have HB:Hid (∀o,Calls Tryz.prog 183 #[.int .u64 (Fl.val x:Nat),.int .i64 8] (w.alloc o) fun e w'=>∃v,e=.returned v∧Owns w' (w.alloc o).heap.size v (bigB (Fl.val x) 8)∧Below (w.alloc o).heap.size (w.alloc o) w'):=
     fun o=>ZfS (Fl.val x) 8 (Fl.val_lt hx) (by omega) (w.alloc o)
    (have HY:Hid (It.bytes ⟨4,n,x,s⟩=bigB (Fl.val x) 8):=by simp [It.bytes,hide]);clear hm hx;go_enter Tryz.func164,Tryz.ntmps164;go_wp2_with fail;refine(HV.out _).mono ?_;rintro e w' ⟨rfl,hw⟩;obtain rfl:=hw.symm;go_wp2_with fail;refine(HB.out _).mono ?_;rintro e w' ⟨v,rfl,ho,hb⟩;go_wp2_with fail;go_ret;exact⟨v,rfl,by rw [HY.out];exact ho.lower (by simp),(HW.out _).trans (hb.mono (HW.out _).size)⟩
  have h5:k=5:=by
   simp only [It.may,h1,h2,h3,h4,if_false] at hm;by_cases h5:k=5
   · exact h5
   · rw [if_neg h5] at hm;cases hm
  subst h5;simp [It.may] at hm;have ad:s.size<256:=hm.2;have HO:Hid (∀o,Owns ((w.alloc o).alloc (.cells (vals [s.size]).toArray 5)) w.heap.size (.slice (some ⟨w.heap.size+1,0,none⟩) 1 1) [s.size]):=fun o=>by
   have:=Owns.lit (w.alloc o) w.heap.size [s.size] (Zaa w o).size (by simp);simpa using this
  have aa:Hid (∀o o',Below w.heap.size w ((w.alloc o).alloc o')):=ZaE w;(have HY:Hid (It.bytes ⟨5,n,x,s⟩=[s.size] ++ strB s):=by simp [It.bytes,hide]);(have ac:Hid (Bytes [s.size]):=fun y hy=>by simp at hy;omega);clear hm hx;go_enter Tryz.func164,Tryz.ntmps164;go_wp2_with (at_builtin;refine ZdO _ rfl (.tmp 33) (.tmp 35) rfl w.heap.size _ _ _ [s.size] rfl (HO.out _) ac.out s rfl (by show 1+s.size≤1000000;omega) (aa.out _ _).size ?_);intro v' w' ho hb;go_wp2;go_ret;exact⟨v',rfl,by rw [HY.out];exact ho,(aa.out _ _).trans hb⟩
def ItAt (w:World) (b o:Nat) (i:It):Prop:=
  w.cell? ⟨b,o,none⟩=some (.int .i64 i.kind)∧w.cell? ⟨b,o+1,none⟩=some (.int .i64 i.n)∧w.cell? ⟨b,o+2,none⟩=some (.float .f64 i.x)∧w.cell? ⟨b,o+3,none⟩=some (.string i.s)
def It.fits (i:It):Prop:=(Lit.int .i64 i.kind).wf=true∧(Lit.int .i64 i.n).wf=true∧i.x<18446744073709551616∧i.s.size≤maxLen
def itD:It:=⟨0,0,0,ByteArray.empty⟩
def Is (w:World) (a:Option Addr) (len:Nat) (l:List It):Prop:=
  l.length=len∧(∀i∈l,i.fits)∧∀j,j<len→∃b off,a=some ⟨b,off,none⟩∧ItAt w b (off+j*4) (l.getD j itD)
theorem Is.keep {w':World}{B:Nat}{a:Option Addr}{len:Nat}{l:List It}(h:Is w a len l)(hb:Below B w w')(hB:w.heap.size≤B):Is w' a len l:=by
 refine⟨h.1,h.2.1,fun j hj=>?_⟩;obtain⟨b,off,ha,c0,c1,c2,c3⟩:=h.2.2 j hj;have aa:=Nat.lt_of_lt_of_le (World.block_lt_of_cell? w _ c0) hB;exact⟨b,off,ha,(hb.cell aa).trans c0,(hb.cell (p:=⟨b,off+j*4+1,none⟩) aa).trans c1,(hb.cell (p:=⟨b,off+j*4+2,none⟩) aa).trans c2,(hb.cell (p:=⟨b,off+j*4+3,none⟩) aa).trans c3⟩
def putB (l:List It):List Nat:=l.flatMap It.bytes
theorem Zmp (l:List It)(k:Nat)(hk:k<l.length):putB (l.take (k+1))=putB (l.take k) ++ (l.getD k itD).bytes:=by
 unfold putB;rw [List.take_succ_eq_append_getElem hk,List.flatMap_append];simp [List.getD,hk]
theorem ZdD {i:It}(h:i.may=true):i.bytes.length≤256∧Bytes i.bytes:=by
 unfold It.bytes;split
 · exact⟨by rw [Zak];omega,Zbm _ _⟩
 · split
   · exact⟨by rw [Zak];omega,Zbm _ _⟩
   · split
     · exact⟨by rw [Zak];omega,Zbm _ _⟩
     · split
       · exact⟨by rw [Zak];omega,Zbm _ _⟩
       · rename_i h1 h2 h3 h4;have hs:i.s.size<256:=by
          simp only [It.may,h1,h2,h3,h4,if_false] at h;by_cases h5:i.kind=5
          · simp [h5] at h;exact h.2
          · rw [if_neg h5] at h;cases h
         refine⟨by simp [Zaz];omega,?_⟩;intro y hy;rcases List.mem_cons.1 hy with k | k
         · omega
         · exact ZfM _ y k
theorem Zj1 {l:List It}(h:∀i∈l,i.may=true):(putB l).length≤256*l.length∧Bytes (putB l):=by
 induction l with
 | nil=>exact ⟨by simp [putB],fun x hx=>by simp [putB] at hx⟩
 | cons i r ih =>
  have h1:=ZdD (h i (by simp));have h2:=ih (fun j hj=>h j (by simp [hj]));(have e:putB (i :: r)=i.bytes ++ putB r:=by simp [putB]);rw [e];refine⟨by simp;omega,?_⟩;intro x hx;rcases List.mem_append.1 hx with k | k
  · exact h1.2 x k
  · exact h2.2 x k
theorem ZfB (a:Option Addr)(len cap:Nat)(l:List It)(w:World)(h:Is w a len l)(hm:len≤200) :
    Calls Tryz.prog 136 #[.slice a len cap] w fun e w'=>∃v,e=.returned (.tuple #[v,.bool (l.all It.may)])∧Below w.heap.size w w'∧(l.all It.may=true→Owns w' w.heap.size v (putB l))∧(l.all It.may=false→v=.slice none 0 0):=by
  have HO:=hide (Zpy w);have HW:=hide (Zaa w (.cells #[] 5));have H:=hide h;have HL:=hide h.1;clear h;go_enter Tryz.func136,Tryz.ntmps136;go_wp2_with fail;go_loopw [4,5] (fun v i wr=>∃k:Nat,k≤len∧i=.int .i64 k∧Hid (Owns wr w.heap.size v (putB (l.take k)))∧Hid (∀i∈l.take k,i.may=true)∧Hid (Below w.heap.size w wr)) (fun _ i _=>len-(intOf i).toNat)
  case atStart=>exact ⟨0,by omega,rfl,HO,hide (fun i hi=>by simp at hi),HW⟩
  case round =>
   obtain⟨k,hk,rfl,ad,aa,ag⟩:=hrel;rcases Nat.lt_or_ge k len with ah | bd
   · obtain⟨b,off,rfl,c0,c1,c2,c3⟩:=(H.out.keep ag.out (Nat.le_refl _)).2.2 k ah;obtain⟨i,hi⟩:∃i,i=l.getD k itD:=⟨_,rfl⟩;rw [← hi] at c0 c1 c2 c3;have HI:=hide hi;have HM:=hide (Zf9 i wr);have ac:i∈l:=by
      (have hk':k<l.length:=by rw [HL.out];exact ah);rw [hi];simp [List.getD,hk']
     have ak:=hide ac;have HF:Hid i.fits:=H.out.2.1 i ac;clear hi ac;go_wp2_with fail;refine HM.out.mono ?_;rintro e w1 ⟨rfl,am⟩;have af:=hide (ag.out.trans (am.mono ag.out.size));have ax:=hide am;clear am;cases hy:i.may
     · have HN:Hid (l.all It.may=false):=by
        rw [List.all_eq_false];exact⟨i,ak.out,by rw [hy];decide⟩
       clear hy;go_wp2_with fail;go_ret2;refine⟨_,?_,af.out,(fun h=>by rw [HN.out] at h;cases h),fun _=>rfl⟩;rw [HN.out];rfl
     · obtain⟨_,_,e,d0,d1,d2,d3⟩:=(H.out.keep af.out (Nat.le_refl _)).2.2 k ah;simp only [Option.some.injEq,Addr.mk.injEq,and_true] at e;obtain⟨rfl,rfl⟩:=e;rw [← HI.out] at d0 d1 d2 d3;have al:=hide (ZfA i hy HF.out.2.2.1 w1);have HY:=hide hy;clear hy c0 c1 c2 c3;go_wp2_with fail;refine al.out.mono ?_;rintro e w2 ⟨v2,rfl,au,an⟩;have ap:=hide (af.out.trans (an.mono af.out.size));have ao:=ZdD HY.out;obtain⟨a2,cap2,rfl,ae,ar⟩:=au.bs ao.2;have aw:=Zj1 aa.out;have ab:=(ad.out.keep ax.out (Nat.le_refl _)).keep an (Nat.le_refl _);(have ai:(l.take k).length≤k:=by simp;omega);have bb:=hide ab;have ay:=hide ae;have ba:=hide ar;have aj:Hid ((putB (l.take k)).length+i.bytes.length≤1000000):=by
        show _≤_;have:=aw.1;have:=ao.1;omega
       clear an au ao ae ar aw ab ai d0 d1 d2 d3;go_wp2_with (at_builtin;refine ZcP _ rfl (.tmp 19) (.tmp 24) rfl w.heap.size _ (putB (l.take k)) rfl bb.out _ _ _ i.bytes rfl ay.out ba.out aj.out ap.out.size ?_);intro v3 w3 av aq;have bc:=hide av;have az:=hide (ap.out.trans aq);clear av aq;go_wp2;go_roundw
       case rel =>
        (have hk':k<l.length:=by rw [HL.out];exact ah);refine⟨k+1,by omega,by go_num,?_,?_,az⟩
        · rw [Zmp l k hk',← HI.out];exact bc
        · intro j hj;rw [List.take_succ_eq_append_getElem hk'] at hj;rcases List.mem_append.1 hj with q | q
          · exact aa.out j q
          · simp at q;(have:i=l[k]:=by rw [HI.out];simp [List.getD,hk']);rw [q,← this];exact HY.out
       case measure=>simp only [intOf];omega
   · (have be:k=len:=by omega);have ai:l.take k=l:=List.take_of_length_le (by rw [HL.out];omega);rw [ai] at ad aa;have HA:Hid (l.all It.may=true):=List.all_eq_true.2 aa.out;clear ai;go_wp2_with fail;go_ret2;refine⟨_,?_,ag.out,fun _=>ad.out,fun h=>by rw [HA.out] at h;cases h⟩;rw [HA.out];rfl
theorem Zat (b o len cap k:Nat)(hk:k<len)(w:World):(Instr.indexAt 183 (.slice (some ⟨b,o,none⟩) len cap) (.int .i64 (k:Nat))).run Tryz.prog w=.ok (.pointer (some ⟨b,o+k*4,none⟩)) w:=by
 (have aa:Tryz.prog.underlying 183=some (.slice (Tryz.prog.elem 183)):=by kernel_rfl);(have h1:(0:Int)≤(k:Int):=by omega);simp [go_sem,Instr.indexAt,run_underlying aa,h1,Addr.add_lit];intro h;omega
theorem ZeG (b o:Nat)(i:It)(w:World)(h:ItAt w b o i):(Instr.loadAt 182 (.pointer (some ⟨b,o,none⟩))).run Tryz.prog w=.ok i.val w:=by
 obtain⟨c0,c1,c2,c3⟩:=h;simp [go_sem,c0,c1,c2,c3,It.val]
theorem Zao {w':World}{o:Nat}{i:It}(h:ItAt w b o i)(hb:Below w.heap.size w w'):ItAt w' b o i:=by
 obtain⟨c0,c1,c2,c3⟩:=h;have aa:=World.block_lt_of_cell? w _ c0;exact⟨(hb.cell aa).trans c0,(hb.cell (p:=⟨b,o+1,none⟩) aa).trans c1,(hb.cell (p:=⟨b,o+2,none⟩) aa).trans c2,(hb.cell (p:=⟨b,o+3,none⟩) aa).trans c3⟩
theorem Za5 (b o:Nat)(n:Int)(w:World)(h:w.cell? ⟨b,o,none⟩=some (.int .i64 n)):(Instr.loadAt 3 (.pointer (some ⟨b,o,none⟩))).run Tryz.prog w=.ok (.int .i64 n) w:=by
 simp [go_sem,h]
theorem ZdB (b o:Nat)(x:Nat)(w:World)(h:w.cell? ⟨b,o,none⟩=some (.float .f64 x)):(Instr.loadAt 32 (.pointer (some ⟨b,o,none⟩))).run Tryz.prog w=.ok (.float .f64 x) w:=by
 simp [go_sem,h]
theorem ItAt.p0 {x:It}(h:ItAt w b 0 x):w.cell? ⟨b,0,none⟩=some (.int .i64 x.kind):=h.1
theorem ItAt.p1 {x:It}(h:ItAt w b 0 x):w.cell? ⟨b,1,none⟩=some (.int .i64 x.n):=h.2.1
theorem ItAt.p2 {x:It}(h:ItAt w b 0 x):w.cell? ⟨b,2,none⟩=some (.float .f64 x.x):=h.2.2.1
theorem ItAt.p3 {x:It}(h:ItAt w b 0 x):w.cell? ⟨b,3,none⟩=some (.string x.s):=h.2.2.2
theorem Zeo (w:World)(x:It)(t:TypeId):ItAt (w.alloc (.cells #[.int .i64 x.kind,.int .i64 x.n,.float .f64 x.x,.string x.s] t)) w.heap.size 0 x:=by
 refine⟨?_,?_,?_,?_⟩ <;> simp [go_sem]
def maxN (k:Int):Int:=if k=1 then 255 else if k=2 then 65535 else 2147483647
def cntN (k:Int):Nat:=if k=1 then 1 else if k=2 then 2 else 4
theorem Zhn (k:Int)(w:World):Calls Tryz.prog 214 #[.int .i64 k] w fun e w'=>e=.returned (.int .i64 (maxN k))∧w'=w:=by
 by_cases h1:k=1
 · subst h1;go_enter Tryz.func214,Tryz.ntmps214;go_wp2_with fail;go_ret;exact⟨rfl,rfl⟩
 by_cases h2:k=2
 · subst h2;go_enter Tryz.func214,Tryz.ntmps214;go_wp2_with fail;go_ret;exact⟨rfl,rfl⟩
 have e1:(k == 1)=false:=beq_eq_false_iff_ne.2 h1;have e2:(k == 2)=false:=beq_eq_false_iff_ne.2 h2;go_enter Tryz.func214,Tryz.ntmps214;go_wp2_with fail;go_ret;exact⟨by simp [maxN,h1,h2],rfl⟩
theorem ZfZ (k:Int)(w:World):Calls Tryz.prog 213 #[.int .i64 k] w fun e w'=>e=.returned (.int .i64 (cntN k:Nat))∧w'=w:=by
 by_cases h1:k=1
 · subst h1;go_enter Tryz.func213,Tryz.ntmps213;go_wp2_with fail;go_ret;exact⟨rfl,rfl⟩
 by_cases h2:k=2
 · subst h2;go_enter Tryz.func213,Tryz.ntmps213;go_wp2_with fail;go_ret;exact⟨rfl,rfl⟩
 have e1:(k == 1)=false:=beq_eq_false_iff_ne.2 h1;have e2:(k == 2)=false:=beq_eq_false_iff_ne.2 h2;go_enter Tryz.func213,Tryz.ntmps213;go_wp2_with fail;go_ret;exact⟨by simp [cntN,h1,h2],rfl⟩
theorem Zo5 {k:Int}(hk:k=1∨k=2∨k=3)(n:Int)(x:Nat)(s:ByteArray):It.may ⟨k,n,x,s⟩=(decide (0≤n) && decide (n≤maxN k) && x == 0 && s.toList == []):=by
 (have e1:decide (n<256)=decide (n≤255):=by rw [Bool.eq_iff_iff];simp;omega);(have e2:decide (n<65536)=decide (n≤65535):=by rw [Bool.eq_iff_iff];simp;omega);(have e3:decide (n<2147483648)=decide (n≤2147483647):=by rw [Bool.eq_iff_iff];simp;omega);rcases hk with rfl | rfl | rfl <;> simp [It.may,maxN,e1,e2,e3]
def chk:Bool→Int
  | true=>0
  | false=>1
theorem ZhW (k:Int):cntN k≤8:=by
 unfold cntN;split
 · omega
 · split <;> omega
def ItBlk (w:World) (p:Nat) (x:It):Prop:=w.heap[p]? = some (Obj.cells #[.int .i64 x.kind,.int .i64 x.n,.float .f64 x.x,.string x.s] 182 (0,0))
theorem ItBlk.at {p:Nat}{x:It}(h:ItBlk w p x):ItAt w p 0 x:=by
 unfold ItBlk at h;refine⟨?_,?_,?_,?_⟩ <;> simp [World.cell?,h]
theorem ZlP (w:World)(x:It):ItBlk (w.alloc (.cells #[.int .i64 x.kind,.int .i64 x.n,.float .f64 x.x,.string x.s] 182)) w.heap.size x:=heap_alloc_new w _
theorem Zno (m:Nat)(hm:m<9223372036854775808)(w:World):(convert 3 88 (.int .i64 (m:Nat))).run Tryz.prog w=.ok (.int .u64 (m:Nat)) w:=by
 (have h1:Tryz.prog.underlying 3=some (.int .i64):=by kernel_rfl);(have h2:Tryz.prog.underlying 88=some (.int .u64):=by kernel_rfl);(have e:IntKind.u64.wrap (m:Int)=(m:Int):=by rw [IntKind.wrap_u64];omega);simp [go_sem,convert,run_underlying h1,run_underlying h2,e]
theorem Znh {k:Int}(hk:k=1∨k=2∨k=3)(m x:Nat)(s:ByteArray):It.bytes ⟨k,(m:Nat),x,s⟩=bigB m (cntN k):=by
 rcases hk with rfl | rfl | rfl <;> simp [It.bytes,cntN]
def numB (xs:List Nat):Nat:=xs.foldl (fun u b=>u*256+b) 0
theorem Zgd:∀(xs:List Nat)(u:Nat),xs.foldl (fun u b=>u*256+b) u=u*256 ^ xs.length+numB xs
 | [],u=>by simp [numB]
 | x :: r,u=>by
  have h1:=Zgd r (u*256+x)
  have h2:=Zgd r x
  simp only [List.foldl_cons,List.length_cons,numB] at *
  rw [h1,Nat.zero_mul,Nat.zero_add,h2,Nat.add_mul,Nat.pow_succ]
  rw [Nat.mul_assoc,Nat.mul_comm 256 (256 ^ r.length),Nat.add_assoc]
theorem ZeK (x:Nat)(r:List Nat):numB (x :: r)=x*256 ^ r.length+numB r:=by
 have:=Zgd r x;simpa [numB] using this
theorem Zhv (xs:List Nat)(b:Nat):numB (xs ++ [b])=numB xs*256+b:=by simp [numB]
theorem ZbS:∀{xs:List Nat},Bytes xs→numB xs<256 ^ xs.length
 | [],_=>by simp [numB]
 | x :: r,h=>by
  have h1:=ZbS (xs:=r) (fun y hy=>h y (by simp [hy]))
  have h2:=h x (by simp)
  rw [ZeK,List.length_cons,Nat.pow_succ]
  have h3:x*256 ^ r.length≤255*256 ^ r.length:=Nat.mul_le_mul_right _ (by omega)
  omega
theorem ZiU (k:Nat):∀(m u:Nat),bigB (k*256 ^ m+u) m=bigB u m
 | 0,_=>rfl
 | m+1,u=>by
  have h:=ZiU (k*256) m u
  rw [Nat.mul_assoc,← Nat.pow_succ'] at h
  simp only [bigB]
  rw [h]
  congr 1
  have e:k*256 ^ (m+1)+u=u+256 ^ m*(k*256):=by
   rw [Nat.pow_succ,Nat.add_comm,Nat.mul_comm (256 ^ m) (k*256),Nat.mul_assoc,Nat.mul_comm (256 ^ m) 256]
  rw [e,Nat.add_mul_div_left _ _ (Nat.pow_pos (by decide)),Nat.add_mul_mod_self_right]
theorem ZcR:∀{xs:List Nat},Bytes xs→bigB (numB xs) xs.length=xs
 | [],_=>rfl
 | x :: r,h=>by
  have h0:Bytes r:=fun y hy=>h y (by simp [hy])
  have h1:=ZbS h0
  have h2:=h x (by simp)
  rw [ZeK,List.length_cons]
  simp only [bigB]
  rw [ZiU,ZcR h0]
  congr 1
  have hp:0<256 ^ r.length:=Nat.pow_pos (by decide)
  rw [Nat.mul_comm,Nat.mul_add_div hp,Nat.div_eq_of_lt h1]
  omega
theorem Zdl (u:Nat):∀(n:Nat),numB (bigB u n)=u % 256 ^ n
 | 0=>by simp [bigB,numB];omega
 | n+1=>by
  simp only [bigB]
  rw [ZeK,Zak,Zdl u n,Nat.pow_succ,Nat.mod_mul,Nat.mul_comm (256 ^ n),Nat.add_comm]
def noS:ByteArray:=⟨#[]⟩
def tk (xs:List Nat) (k:Int):Option (It × Nat):=
  if k=4 then
    if 8≤xs.length then
      if Fl.val (numB (xs.take 8))=numB (xs.take 8) then some (⟨4,0,numB (xs.take 8),noS⟩,8) else none
    else none
  else if k=5 then
    if 1≤xs.length then
      if 1+numB (xs.take 1)≤xs.length then some (⟨5,0,0,bstr ((xs.drop 1).take (numB (xs.take 1)))⟩,1+numB (xs.take 1)) else none
    else none
  else if cntN k≤xs.length then
    if (numB (xs.take (cntN k)):Int)≤maxN k then some (⟨k,numB (xs.take (cntN k)),0,noS⟩,cntN k) else none
  else none
def tks (xs:List Nat):List Int→List It→Nat→Option (List It × Nat)
  | [],l,q=>some (l,q)
  | k :: ks,l,q=>match tk (xs.drop q) k with
    | none=>none
    | some (i,n)=>tks xs ks (l ++ [i]) (q+n)
def It.valued (i:It):It:=⟨i.kind,i.n,Fl.val i.x,i.s⟩
theorem Zj5 {s:ByteArray}(h:s.toList=[]):s=noS:=by
 rw [ByteArray.toList_eq] at h;cases s with
 | mk d =>
  simp only at h;have:d=#[]:=by
   apply Array.toList_inj.1;simpa using h
  rw [this];rfl
theorem Zg4:Fl.val 0=0:=by decide
theorem ZhH (u n:Nat)(r:List Nat):(bigB u n ++ r).take n=bigB u n:=by
 rw [List.take_append_of_le_length (by rw [Zak];exact Nat.le_refl _),List.take_of_length_le (by rw [Zak];exact Nat.le_refl _)]
theorem Zoj (i:It)(hm:i.may=true)(hx:i.x<18446744073709551616)(r:List Nat):tk (i.bytes ++ r) i.kind=some (i.valued,i.bytes.length):=by
 obtain⟨k,n,x,s⟩:=i;by_cases hk:k=1∨k=2∨k=3
 · have ab:0≤n∧n≤maxN k∧x=0∧s=noS:=by
    rw [Zo5 hk] at hm;simp at hm;exact⟨hm.1.1.1,hm.1.1.2,hm.1.2,Zj5 hm.2⟩
   obtain⟨h0,h1,rfl,rfl⟩:=ab;obtain⟨m,rfl⟩:=Int.eq_ofNat_of_zero_le h0;have hb:It.bytes ⟨k,(m:Nat),0,noS⟩=bigB m (cntN k):=by
    rcases hk with rfl | rfl | rfl <;> simp [It.bytes,cntN]
   have aa:m % 256 ^ cntN k=m:=by
    apply Nat.mod_eq_of_lt;rcases hk with rfl | rfl | rfl <;> simp [maxN,cntN] at h1 ⊢ <;> omega
   rw [hb,Zak];(have n4:¬k=4:=by rcases hk with rfl | rfl | rfl <;> decide);(have n5:¬k=5:=by rcases hk with rfl | rfl | rfl <;> decide);simp only [tk,n4,n5,if_false];rw [ZhH,Zdl,aa,if_pos (by simp [Zak]),if_pos h1];simp [It.valued,Zg4]
 have h1:¬k=1:=fun h=>hk (.inl h);have h2:¬k=2:=fun h=>hk (.inr (.inl h));have h3:¬k=3:=fun h=>hk (.inr (.inr h));by_cases h4:k=4
 · subst h4;simp [It.may] at hm;obtain⟨rfl,hs⟩:=hm;obtain rfl:=Zj5 hs;(have hb:It.bytes ⟨4,0,x,noS⟩=bigB (Fl.val x) 8:=by simp [It.bytes]);simp only at hx;have aa:Fl.val x % 256 ^ 8=Fl.val x:=Nat.mod_eq_of_lt (by have:=Fl.val_lt hx;simpa using this);rw [hb,Zak];simp only [tk,if_true];rw [ZhH,Zdl,aa,if_pos (by simp [Zak]),if_pos (Fl.val_val x)];simp [It.valued]
 have h5:k=5:=by
  simp only [It.may,h1,h2,h3,h4,if_false] at hm;by_cases h5:k=5
  · exact h5
  · rw [if_neg h5] at hm;cases hm
 subst h5;simp [It.may] at hm;obtain⟨⟨rfl,rfl⟩,hs⟩:=hm;(have hb:It.bytes ⟨5,0,0,s⟩=s.size :: strB s:=by simp [It.bytes]);rw [hb];(have e1:numB ((s.size :: strB s ++ r).take 1)=s.size:=by simp [numB]);have e2:((s.size :: strB s ++ r).drop 1).take s.size=strB s:=by
  show (strB s ++ r).take s.size=strB s;rw [List.take_append_of_le_length (by rw [Zaz];exact Nat.le_refl _),List.take_of_length_le (by rw [Zaz];exact Nat.le_refl _)]
 simp only [tk,show ¬(5:Int)=4 by decide,if_false,if_true];rw [e1,e2,if_pos (by simp),if_pos (by simp [Zaz];omega),ZgA];simp [It.valued,Zg4,Zaz];omega
theorem ZiI:∀(l:List It)(xs r:List Nat)(acc:List It)(q:Nat),(∀i∈l,i.may=true∧i.x<18446744073709551616)→xs.drop q=putB l ++ r→tks xs (l.map It.kind) acc q=some (acc ++ l.map It.valued,q+(putB l).length)
 | [],xs,r,acc,q,_,_=>by simp [tks,putB]
 | i :: l,xs,r,acc,q,h,hd=>by
  have hi:=h i (by simp)
  have e:putB (i :: l)=i.bytes ++ putB l:=by simp [putB]
  rw [e,List.append_assoc] at hd
  simp only [List.map_cons,tks]
  rw [hd,Zoj i hi.1 hi.2]
  simp only
  rw [ZiI l xs r (acc ++ [i.valued]) (q+i.bytes.length) (fun j hj=>h j (by simp [hj])) (by rw [← List.drop_drop,hd];simp)]
  rw [e]
  simp
  omega
end Go.Proofs.YtiecfcjlhldhdaaGreat
