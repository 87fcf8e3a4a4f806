/-
  Lemmas.
-/
import Derived.Test.YtdojdcncncgncaaGreatKtad
namespace Go.Proofs.YtdojdcncncgncaaGreat
open Go.RowKit
set_option linter.unusedVariables false
set_option maxRecDepth 100000
set_option maxHeartbeats 4000000
theorem Zi3 (u : Nat) : ∀ n j, j < n → (bigB u n).getD j 0 = u / 256 ^ (n - 1 - j) % 256
  | 0, j, h => by omega
  | n + 1, 0, _ => by simp [bigB]
  | n + 1, j + 1, h => by
    have := Zi3 u n j (by omega)
    rw [show n + 1 - 1 - (j + 1) = n - 1 - j by omega, ← this]
    simp [bigB, List.getD]
theorem Zku (u n j : Nat) (h : j < n) : (bigB u n).take (j + 1) = (bigB u n).take j ++ [u / 256 ^ (n - 1 - j) % 256] := by
 have hl : j < (bigB u n).length := by rw [Zan]; exact h
 rw [List.take_succ_eq_append_getElem hl, ← Zi3 u n j h]
 simp [List.getD, hl]
theorem ZmR (u k : Nat) : ((u : Int) / 2 ^ (8 * k) % 256) = ((u / 256 ^ k % 256 : Nat) : Int) := by
 have h : (256 : Nat) ^ k = 2 ^ (8 * k) := by rw [Nat.pow_mul]
 rw [h]
 simp
theorem ZcY (base:Nat)(v:Value)(xs:List Nat)(u n:Nat)(hu:u<18446744073709551616)(hn:n≤8)(w:World)(hown:Owns w base v xs)(hbase:base≤w.heap.size)(hlen:xs.length≤900000) :
    Calls Tryz.prog 173 #[v,.int .u64 (u:Nat),.int .i64 (n:Nat)] w fun e w'=>∃v',e=.returned v'∧Owns w' base v' (xs ++ bigB u n)∧Below base w w'∧Stay w w':=by
  have HU:=hide hu
  have HO:=hide hown
  have HBS:=hide hbase
  have HL:=hide hlen
  clear hu hown hbase hlen
  go_enter Tryz.func173,Tryz.ntmps173
  go_wp2_with fail
  go_loopw [0,7] (fun v' i wr=>∃j:Nat,j≤n∧i=.int .i64 (8*((n:Int)-1-j))∧Hid (Owns wr base v' (xs ++ (bigB u n).take j))∧Hid (Below base w wr)∧Hid (Stay w wr)) (fun _ i _=>(intOf i+8).toNat)
  case atStart=>exact ⟨0,by omega,by congr 1;omega,hide (by simpa using HO.out),hide (Below.refl _ _),hide (Stay.refl _)⟩
  case round =>
   obtain⟨j,hj,rfl,hown,hWr,hSt⟩:=hrel
   rcases Nat.lt_or_ge j n with hlt | hge
   · have i1:(0:Int)≤8*((n:Int)-1-j):=by omega
     have HY:Hid (Bs (wr.alloc (.cells #[.int .u8 ((u:Int) / 2 ^ (8*(n-1-j)) % 256)] 5)) (some ⟨wr.heap.size,0,none⟩) 1 [u / 256 ^ (n-1-j) % 256]):=by
      rw [ZmR u (n-1-j)]
      exact Ze7 wr [u / 256 ^ (n-1-j) % 256] (0,0) (fun y hy=>by simp at hy;omega)
     have HO1:Hid (Owns (wr.alloc (.cells #[.int .u8 ((u:Int) / 2 ^ (8*(n-1-j)) % 256)] 5)) base u0 (xs ++ (bigB u n).take j)):=hown.out.keep (Zaa wr _) (Nat.le_refl _)
     have HB1:Hid (Below base w (wr.alloc (.cells #[.int .u8 ((u:Int) / 2 ^ (8*(n-1-j)) % 256)] 5))):=hWr.out.alloc (Nat.le_trans HBS.out hWr.out.size) _
     have HLL:Hid ((xs ++ (bigB u n).take j).length+1≤1000000):=by
      have:=HL.out
      simp [Zan]
      show _≤_
      omega
     go_wp2_with (at_builtin;refine ZcW _ rfl (.tmp 15) (.tmp 20) rfl base _ (xs ++ (bigB u n).take j) rfl HO1.out _ _ _ _ rfl HY.out (fun e=>by cases e) HLL.out (Nat.le_trans HBS.out HB1.out.size) ?_)
     intro v3 w3 ho3 hb3 hs3
     have HO3:Hid (Owns w3 base v3 (xs ++ (bigB u n).take (j+1))):=by
      rw [Zku u n j hlt]
      exact ho3
     have HB3:=hide (HB1.out.trans hb3)
     have HS3:=hide (hSt.out.trans ((Stay.below (Zaa wr _)).trans hs3))
     clear ho3 hb3 hs3
     go_wp2
     go_roundw
     case rel=>exact ⟨j+1,by omega,by congr 1;omega,HO3,HB3,HS3⟩
     case measure=>simp only [intOf];omega
   · have hjn:j=n:=by omega
     subst hjn
     have i1:¬(0:Int)≤8*((j:Int)-1-j):=by omega
     have HO2:Hid (Owns wr base u0 (xs ++ bigB u j)):=by
      have:=hown.out
      rw [List.take_of_length_le (by rw [Zan];exact Nat.le_refl _)] at this
      exact this
     clear hown
     go_wp2_with fail
     go_ret
     exact⟨_,rfl,HO2.out,hWr.out,hSt.out⟩
theorem Zgl (k : Int) : cntN k ≤ 8 := by
 unfold cntN
 split
 · omega
 · split <;> omega
def ItBlk (w : World) (p : Nat) (x : It) : Prop := w.heap[p]? = some (Obj.cells #[.int .i64 x.kind, .int .i64 x.n, .float .f64 x.x, .string x.s] 158 (0, 0))
theorem ItBlk.at {w : World} {p : Nat} {x : It} (h : ItBlk w p x) : ItAt w p 0 x := by
 unfold ItBlk at h
 refine ⟨?_, ?_, ?_, ?_⟩ <;> simp [World.cell?, h]
theorem ItBlk.stay {w w' : World} {p : Nat} {x : It} (h : ItBlk w p x) (hs : Stay w w') : ItBlk w' p x := (hs p _ _ _ h (by decide)).trans h
theorem Zhd (w : World) (x : It) : ItBlk (w.alloc (.cells #[.int .i64 x.kind, .int .i64 x.n, .float .f64 x.x, .string x.s] 158)) w.heap.size x := heap_alloc_new w _
theorem ZiA (m : Nat) (hm : m < 9223372036854775808) (w : World) : (convert 3 100 (.int .i64 (m : Nat))).run Tryz.prog w = .ok (.int .u64 (m : Nat)) w := by
 have h1 : Tryz.prog.underlying 3 = some (.int .i64) := by kernel_rfl
 have h2 : Tryz.prog.underlying 100 = some (.int .u64) := by kernel_rfl
 have e : IntKind.u64.wrap (m : Int) = (m : Int) := by rw [IntKind.wrap_u64]; omega
 simp [go_sem, convert, run_underlying h1, run_underlying h2, e]
theorem Zn1 (m : Nat) (hm : m < 256) (w : World) : (convert 3 5 (.int .i64 (m : Nat))).run Tryz.prog w = .ok (.int .u8 (m : Nat)) w := by
 have h1 : Tryz.prog.underlying 3 = some (.int .i64) := by kernel_rfl
 have h2 : Tryz.prog.underlying 5 = some (.int .u8) := by kernel_rfl
 have e : IntKind.u8.wrap (m : Int) = (m : Int) := by rw [IntKind.wrap_u8]; omega
 simp [go_sem, convert, run_underlying h1, run_underlying h2, e]
theorem ZnS (s : ByteArray) (ty : TypeId) (w : World) : (Builtin.len_ #[9] ty #[.string s]).run Tryz.prog w = .ok (.int .i64 (s.size : Nat)) w := by
  simp [go_sem]
theorem ZkD : ∀ args w, (callFunc 174 args).run Tryz.prog w = .ok (.enter 174 args) w := Pl.enters Tryz.func174 (by kernel_rfl) (by kernel_rfl)
theorem ZkC : ∀ args w, (callFunc 173 args).run Tryz.prog w = .ok (.enter 173 args) w := Pl.enters Tryz.func173 (by kernel_rfl) (by kernel_rfl)
theorem put6 (w:World)(base p:Nat)(v:Value)(xs:List Nat)(k:Int)(m x:Nat)(s:ByteArray)(hp:ItBlk w p ⟨k,(m:Nat),x,s⟩)(hown:Owns w base v xs)(hbase:base≤w.heap.size)(hlen:xs.length≤900000)(hm:m<2147483648)
    {Q:Exit→Act→World→Prop}{A:Act}(hsz:A.tmps.size=35)(hdf:A.defers=[])(s0:A.tmps.getD 0 undef=v)(s3:A.tmps.getD 3 undef=.pointer (some ⟨p,0,none⟩))
    (hend:∀(u:Nat→Value) v' w',Owns w' base v' (xs ++ bigB m (cntN k))→Below base w w'→Q .normal ((((((((((A).put (some 27) (u 27)).put (some 28) (u 28)).put (some 29) (u 29)).put (some 30) (u 30)).put (some 31) (u 31)).put (some 32) (u 32)).put (some 33) (u 33)).put (some 34) (v')).put (some 4) (v')) w') :
    (Code.region 6 (Pl.find 6 ((Tryz.f154.body).getD .skip)) true).wp Tryz.prog Q A w:=by
  have hS0:ItBlk w.drew p (⟨k,(m:Nat),x,s⟩:It):=hp
  have hA:=Pl.At.same (v:=.pointer (some ⟨p,0,none⟩)) (d:=3) (Pl.At.same (v:=v) (d:=0) (Pl.At.here hsz hdf) s0) s3
  refine Pl.qa (S:=fun w'=>ItBlk w' p (⟨k,(m:Nat),x,s⟩:It)) hA hS0 ?_
  rw [show (Pl.find 6 ((Tryz.f154.body).getD .skip)).size=9 by kernel_rfl]
  refine Pl.q0 0 27 (v) (Pl.q1) (Pl.q2 (.tmp 0)) hS0 ?_
  refine Pl.q0 1 28 (.pointer (some ⟨p,1,none⟩)) (Pl.q1) (Pl.q5 158 (.tmp 3) 1 (ZaV p)) hS0 ?_
  refine Pl.q0 2 29 (.int .i64 (m:Nat)) (Pl.q1) (Pl.q3 3 (.tmp 28) (fun w' hS=>Zaq p 1 _ w' (ItBlk.at hS).p1)) hS0 ?_
  refine Pl.q0 3 30 (.int .u64 (m:Nat)) (Pl.q1) (Pl.qv 3 100 (.tmp 29) (.int .i64 (m:Nat)) (fun w' _=>ZiA m (by omega) w')) hS0 ?_
  refine Pl.q0 4 31 (.pointer (some ⟨p,0,none⟩)) (Pl.q1) (Pl.q5 158 (.tmp 3) 0 (Zcv p)) hS0 ?_
  refine Pl.q0 5 32 (.int .i64 k) (Pl.q1) (Pl.q3 3 (.tmp 31) (fun w' hS=>Zaq p 0 _ w' (ItBlk.at hS).p0)) hS0 ?_
  refine Pl.qd 6 33 174 [(.tmp 32)] #[3] (Pl.q1) ZkD (Calls.mono (Zdo k w.drew) ?_)
  rintro e w' ⟨rfl,hw⟩
  obtain rfl:=hw.symm
  refine⟨.int .i64 (cntN k:Nat),rfl,hS0,?_⟩
  refine Pl.qd 7 34 173 [(.tmp 27),(.tmp 30),(.tmp 33)] #[56,100,3] (Pl.q1) ZkC (Calls.mono (ZcY base v xs m (cntN k) (by omega) (Zgl k) w.drew hown hbase hlen) ?_)
  rintro e w2 ⟨v2,rfl,ho2,hb2,hst2⟩
  have hS1:=hS0.stay hst2
  refine⟨v2,rfl,hS1,?_⟩
  refine Pl.q0 8 4 (v2) (Pl.q1) (Pl.qf (.tmp 34)) hS1 ?_
  refine Pl.q7 (fun A' hA'=>?_)
  rw [Pl.At.ext hA' (((((((((hA.put 27 _).put 28 _).put 29 _).put 30 _).put 31 _).put 32 _).put 33 _).put 34 _).put 4 _)]
  exact hend hA'.fn v2 w2 ho2 (((Below.refl base w).drew).trans hb2)
theorem put5 (w:World)(base p:Nat)(v:Value)(xs:List Nat)(k:Int)(n:Int)(x:Nat)(s:ByteArray)(hp:ItBlk w p ⟨k,n,x,s⟩)(hown:Owns w base v xs)(hbase:base≤w.heap.size)(hlen:xs.length≤900000)(hs:s.size<256)(hxs:Bytes (xs ++ [s.size]))
    {Q:Exit→Act→World→Prop}{A:Act}(hsz:A.tmps.size=35)(hdf:A.defers=[])(s0:A.tmps.getD 0 undef=v)(s3:A.tmps.getD 3 undef=.pointer (some ⟨p,0,none⟩))
    (hend:∀(u:Nat→Value) v' w',Owns w' base v' (xs ++ [s.size] ++ strB s)→Below base w w'→Q .normal ((((((((((((A).put (some 17) (u 17)).put (some 18) (u 18)).put (some 19) (u 19)).put (some 20) (u 20)).put (some 21) (u 21)).put (some 24) (u 24)).put (some 25) (u 25)).put (some 22) (u 22)).put (some 23) (u 23)).put (some 26) (v')).put (some 4) (v')) w') :
    (Code.region 5 (Pl.find 5 ((Tryz.f154.body).getD .skip)) true).wp Tryz.prog Q A w:=by
  have hS0:ItBlk w.drew p (⟨k,n,x,s⟩:It):=hp
  have hA:=Pl.At.same (v:=.pointer (some ⟨p,0,none⟩)) (d:=3) (Pl.At.same (v:=v) (d:=0) (Pl.At.here hsz hdf) s0) s3
  refine Pl.qa (S:=fun w'=>ItBlk w' p (⟨k,n,x,s⟩:It)) hA hS0 ?_
  rw [show (Pl.find 5 ((Tryz.f154.body).getD .skip)).size=11 by kernel_rfl]
  refine Pl.q0 0 17 (v) (Pl.q1) (Pl.q2 (.tmp 0)) hS0 ?_
  refine Pl.q0 1 18 (.pointer (some ⟨p,3,none⟩)) (Pl.q1) (Pl.q5 158 (.tmp 3) 3 (Ze9 p)) hS0 ?_
  refine Pl.q0 2 19 (.string s) (Pl.q1) (Pl.q3 9 (.tmp 18) (fun w' hS=>Zg0 p 3 _ w' (ItBlk.at hS).p3)) hS0 ?_
  refine Pl.q0 3 20 (.int .i64 (s.size:Nat)) (Pl.q1) (Pl.qw 9 (.tmp 19) (fun ty w=>ZnS s ty w)) hS0 ?_
  refine Pl.q0 4 21 (.int .u8 (s.size:Nat)) (Pl.q1) (Pl.qv 3 5 (.tmp 20) (.int .i64 (s.size:Nat)) (fun w' _=>Zn1 s.size hs w')) hS0 ?_
  refine Pl.q0 7 24 (.pointer (some ⟨p,3,none⟩)) (Pl.q1) (Pl.q5 158 (.tmp 3) 3 (Ze9 p)) hS0 ?_
  refine Pl.q0 8 25 (.string s) (Pl.q1) (Pl.q3 9 (.tmp 24) (fun w' hS=>Zg0 p 3 _ w' (ItBlk.at hS).p3)) hS0 ?_
  refine Pl.qo 5 22 (.slice (some ⟨w.drew.heap.size,0,none⟩) 1 1) (w.drew.alloc (.cells (vals [s.size]).toArray 5)) (Pl.q1) (Pl.q_37 56 (.tmp 21) (Zkx s.size _)) (hS0.stay (Stay.below (Zaa w.drew _))) ?_
  have ho1:Owns (w.drew.alloc (.cells (vals [s.size]).toArray 5)) base v xs:=(show Owns w.drew base v xs from hown).keep (Zaa w.drew _) (Nat.le_refl _)
  have hn1:Bs (w.drew.alloc (.cells (vals [s.size]).toArray 5)) (some ⟨w.drew.heap.size,0,none⟩) 1 [s.size]:=Ze7 w.drew [s.size] (0,0) (fun y hy=>by simp at hy;omega)
  have hb1:Below base w (w.drew.alloc (.cells (vals [s.size]).toArray 5)):=((Below.refl base w).drew).alloc hbase _
  have hS1:ItBlk (w.drew.alloc (.cells (vals [s.size]).toArray 5)) p (⟨k,n,x,s⟩:It):=hS0.stay (Stay.below (Zaa w.drew _))
  obtain⟨v2,w2,hr2,ho2,hb2,hst2⟩:=Zbh _ 0 base v xs ho1 _ 1 1 [s.size] hn1 (fun e=>by cases e) (by omega) (Nat.le_trans hbase hb1.size)
  have hS2:=hS1.stay hst2
  refine Pl.qo 6 23 v2 w2 (Pl.q1) (Pl.app 6 56 (.tmp 17) (.tmp 22) _ _ (by kernel_rfl) (by decide) (by decide) (fun ty=>hr2)) hS2 ?_
  obtain⟨g,cp,rfl,_⟩:=ho2.pos (by simp)
  obtain⟨v3,w3,hr3,ho3,hb3,hst3⟩:=Zc5 w2 0 base g _ cp (xs ++ [s.size]) ho2 hxs s (by simp;omega) (Nat.le_trans hbase (hb1.trans hb2).size)
  have hS3:=hS2.stay hst3
  refine Pl.qo 9 26 v3 w3 (Pl.q1) (Pl.app2 9 56 9 (.tmp 23) (.tmp 25) _ _ (by kernel_rfl) (by decide) (by decide) (fun ty=>hr3)) hS3 ?_
  refine Pl.q0 10 4 (v3) (Pl.q1) (Pl.qf (.tmp 26)) hS3 ?_
  refine Pl.q7 (fun A' hA'=>?_)
  rw [Pl.At.ext hA' (((((((((((hA.put 17 _).put 18 _).put 19 _).put 20 _).put 21 _).put 24 _).put 25 _).put 22 _).put 23 _).put 26 _).put 4 _)]
  exact hend hA'.fn v3 w3 ho3 ((hb1.trans hb2).trans hb3)
theorem Zi8 {k : Int} (hk : k = 1 ∨ k = 2 ∨ k = 3) (m x : Nat) (s : ByteArray) : It.bytes ⟨k, (m : Nat), x, s⟩ = bigB m (cntN k) := by
  rcases hk with rfl | rfl | rfl <;> simp [It.bytes, cntN]
theorem Zfh (base:Nat)(v:Value)(xs:List Nat)(i:It)(hm:i.may=true)(hx:i.x<18446744073709551616)(w:World)(hown:Owns w base v xs)(hbase:base≤w.heap.size)(hlen:xs.length≤900000)(hxs:Bytes xs) :
    Calls Tryz.prog 154 #[v,i.val] w fun e w'=>∃v',e=.returned v'∧Owns w' base v' (xs ++ i.bytes)∧Below base w w':=by
  obtain⟨k,n,x,s⟩:=i
  have HI:Hid (ItBlk (w.alloc (.cells #[.int .i64 k,.int .i64 n,.float .f64 x,.string s] 158)) w.heap.size ⟨k,n,x,s⟩):=Zhd w ⟨k,n,x,s⟩
  have HW:Hid (∀o,Below base w (w.alloc o)):=fun o=>(Below.refl base w).alloc hbase o
  have HO:Hid (∀o,Owns (w.alloc o) base v xs):=fun o=>hown.keep (Zaa w o) (Nat.le_refl _)
  have HBS:Hid (∀o,base≤(w.alloc o).heap.size):=fun o=>Nat.le_trans hbase (Zaa w o).size
  have HL:=hide hlen
  unfold It.val
  simp only at hx ⊢
  clear hlen hown hbase
  by_cases hk:k=1∨k=2∨k=3
  · have hmm:0≤n∧n<2147483648:=by
     rcases hk with rfl | rfl | rfl <;> simp [It.may] at hm <;> omega
    obtain⟨m,rfl⟩:=Int.eq_ofNat_of_zero_le hmm.1
    have HM:Hid (m<2147483648):=by show m<2147483648;omega
    have HY:=hide (Zi8 hk m x s)
    clear hm hmm hx hxs
    rcases hk with rfl | rfl | rfl <;>
    (go_enter Tryz.func154,Tryz.ntmps154
     go_wp2_with fail
     refine Pl.q9 (ops:=Pl.find 6 ((Tryz.f154.body).getD .skip)) ?_
     refine put6 _ base w.heap.size v xs _ m x s HI.out (HO.out _) (HBS.out _) HL.out HM.out (by rfl) (by rfl) (by rfl) (by rfl) ?_
     intro u v' w' ho hb
     simp only [Act.put,List.setIfInBounds_toArray,List.set_cons_zero,List.set_cons_succ]
     go_wp2_with fail
     go_ret
     exact⟨v',rfl,by rw [HY.out];exact ho,(HW.out _).trans hb⟩)
  have h1:¬k=1:=fun h=>hk (.inl h)
  have h2:¬k=2:=fun h=>hk (.inr (.inl h))
  have h3:¬k=3:=fun h=>hk (.inr (.inr h))
  by_cases h4:k=4
  · subst h4
    have HV:Hid (∀o,Calls Tryz.prog 143 #[.float .f64 x] (w.alloc o) fun e w'=>e=.returned (.float .f64 (Fl.val x))∧w'=w.alloc o):=fun o=>ZdG x hx (w.alloc o)
    have HB:Hid (∀o,Calls Tryz.prog 173 #[v,.int .u64 (Fl.val x:Nat),.int .i64 8] (w.alloc o) fun e w'=>∃v',e=.returned v'∧Owns w' base v' (xs ++ bigB (Fl.val x) 8)∧Below base (w.alloc o) w'∧Stay (w.alloc o) w'):=
     fun o=>ZcY base v xs (Fl.val x) 8 (Fl.val_lt hx) (by omega) (w.alloc o) (HO.out o) (HBS.out o) HL.out
    have HY:Hid (It.bytes ⟨4,n,x,s⟩=bigB (Fl.val x) 8):=by simp [It.bytes,hide]
    have hbc:=ZaP
    clear hm hx hxs hk h1 h2 h3
    go_enter Tryz.func154,Tryz.ntmps154
    go_wp2_with fail
    refine(HV.out _).mono ?_
    rintro e w' ⟨rfl,hw⟩
    obtain rfl:=hw.symm
    go_wp2_with fail
    refine(HB.out _).mono ?_
    rintro e w' ⟨v',rfl,ho,hb,_⟩
    go_wp2_with fail
    go_ret
    exact⟨v',rfl,by rw [HY.out];exact ho,(HW.out _).trans hb⟩
  have h5:k=5:=by
   simp only [It.may,h1,h2,h3,h4,if_false] at hm
   by_cases h5:k=5
   · exact h5
   · rw [if_neg h5] at hm
     cases hm
  subst h5
  simp [It.may] at hm
  obtain⟨⟨rfl,rfl⟩,hs⟩:=hm
  have HM:Hid (s.size<256):=hs
  have HY:Hid (It.bytes ⟨5,0,0,s⟩=[s.size] ++ strB s):=by simp [It.bytes,hide]
  have HXS:Hid (Bytes (xs ++ [s.size])):=by
   intro y hy
   rcases List.mem_append.1 hy with q | q
   · exact hxs y q
   · simp at q;omega
  clear hx hxs hk h1 h2 h3 h4 hs
  go_enter Tryz.func154,Tryz.ntmps154
  go_wp2_with fail
  refine Pl.q9 (ops:=Pl.find 5 ((Tryz.f154.body).getD .skip)) ?_
  refine put5 _ base w.heap.size v xs 5 0 0 s HI.out (HO.out _) (HBS.out _) HL.out HM.out HXS.out (by rfl) (by rfl) (by rfl) (by rfl) ?_
  intro u v' w' ho hb
  simp only [Act.put,List.setIfInBounds_toArray,List.set_cons_zero,List.set_cons_succ]
  go_wp2_with fail
  go_ret
  exact⟨v',rfl,by rw [HY.out,← List.append_assoc];exact ho,(HW.out _).trans hb⟩
theorem Zof (a:Option Addr)(len cap:Nat)(l:List It)(w:World)(h:Is w a len l)(hm:len≤200) :
    Calls Tryz.prog 137 #[.slice a len cap] w fun e w'=>∃v,e=.returned (.tuple #[v,.int .i64 (chk (l.all It.may))])∧Below w.heap.size w w'∧(l.all It.may=true→Owns w' w.heap.size v (putB l))∧(l.all It.may=false→v=.slice none 0 0):=by
  have HO:Hid (Owns w w.heap.size (.slice none 0 0) []):=⟨rfl,.inl ⟨rfl,rfl⟩⟩
  have H:=hide h
  have HL:=hide h.1
  clear h
  go_enter Tryz.func137,Tryz.ntmps137
  go_wp2_with fail
  go_loopw [4,10] (fun v i wr=>∃k:Nat,k≤len∧i=.int .i64 k∧Hid (Owns wr w.heap.size v (putB (l.take k)))∧Hid (∀i∈l.take k,i.may=true)∧Hid (Below w.heap.size w wr)) (fun _ i _=>len-(intOf i).toNat)
  case atStart=>exact ⟨0,by omega,rfl,HO,hide (fun i hi=>by simp at hi),hide (Below.refl _ _)⟩
  case round =>
   obtain⟨k,hk,rfl,hown,hmay,hWr⟩:=hrel
   rcases Nat.lt_or_ge k len with hlt | hge
   · obtain⟨b,off,rfl,c0,c1,c2,c3⟩:=(H.out.keep hWr.out (Nat.le_refl _)).2.2 k hlt
     obtain⟨i,hi⟩:∃i,i=l.getD k itD:=⟨_,rfl⟩
     rw [← hi] at c0 c1 c2 c3
     have HI:=hide hi
     have hmem:i∈l:=by
      have hk':k<l.length:=by rw [HL.out];exact hlt
      rw [hi]
      simp [List.getD,hk']
     have HMEM:=hide hmem
     have HF:Hid i.fits:=H.out.2.1 i hmem
     clear hi hmem
     have hsf:∀(w:World) (a:Addr) (m:Mode) (x:Nat),(store a (.float .f64 x) m).run Tryz.prog w=stored Tryz.prog w a (.float .f64 x) m:=fun w a m x=>run_store Tryz.prog w a _ m rfl
     have HC:Hid (∀w,Calls Tryz.prog 153 #[i.val] w fun e w'=>e=.returned (.int .i64 (chk i.may))∧Below w.heap.size w w'):=Zkz i
     obtain⟨m,hm'⟩:∃m,m=i.may:=⟨_,rfl⟩
     rw [← hm'] at HC
     have HM:=hide hm'
     clear hm'
     have HN:Hid (ItAt (wr.alloc (.cells #[.int .i64 i.kind,.int .i64 i.n,.float .f64 i.x,.string i.s] 158)) wr.heap.size 0 i):=ZcL wr i _
     have HW1:Hid (Below w.heap.size w (wr.alloc (.cells #[.int .i64 i.kind,.int .i64 i.n,.float .f64 i.x,.string i.s] 158))):=hWr.out.alloc hWr.out.size _
     have HO1:Hid (Owns (wr.alloc (.cells #[.int .i64 i.kind,.int .i64 i.n,.float .f64 i.x,.string i.s] 158)) w.heap.size u4 (putB (l.take k))):=hown.out.keep (Zaa wr _) (Nat.le_refl _)
     unfold It.val at HC
     go_wp2_with fail
     refine(HC.out _).mono ?_
     rintro e w2 ⟨rfl,hb2⟩
     have HW2:=hide (HW1.out.trans (hb2.mono HW1.out.size))
     have HO2:=hide (HO1.out.keep hb2 (Nat.le_refl _))
     have d:=Zal HN.out hb2
     have d0:w2.cell? ⟨wr.heap.size,0,none⟩=some (.int .i64 i.kind):=d.p0
     have d1:w2.cell? ⟨wr.heap.size,1,none⟩=some (.int .i64 i.n):=d.p1
     have d2:w2.cell? ⟨wr.heap.size,2,none⟩=some (.float .f64 i.x):=d.p2
     have d3:w2.cell? ⟨wr.heap.size,3,none⟩=some (.string i.s):=d.p3
     clear hb2 d HN HW1 HO1 c0 c1 c2 c3
     cases m
     · have HN:Hid (l.all It.may=false):=by
        rw [List.all_eq_false]
        exact⟨i,HMEM.out,by rw [← HM.out];decide⟩
       unfold chk
       go_wp2_with fail
       go_ret2
       refine⟨_,?_,HW2.out,(fun h=>by rw [HN.out] at h;cases h),fun _=>rfl⟩
       rw [HN.out]
       rfl
     · have hpl:=Zg2 hmay.out
       have htk:(l.take k).length≤k:=by simp;omega
       have HA:Hid (Calls Tryz.prog 154 #[u4,i.val] w2 fun e w'=>∃v',e=.returned v'∧Owns w' w.heap.size v' (putB (l.take k) ++ i.bytes)∧Below w.heap.size w2 w'):=
        Zfh w.heap.size u4 (putB (l.take k)) i HM.out.symm HF.out.2.2.1 w2 HO2.out HW2.out.size (by omega) hpl.2
       unfold It.val at HA
       clear hpl htk
       unfold chk
       go_wp2_with fail
       refine HA.out.mono ?_
       rintro e w3 ⟨v3,rfl,ho3,hb3⟩
       have HO3:=hide ho3
       have HB3:=hide (HW2.out.trans hb3)
       clear ho3 hb3
       go_wp2_with fail
       go_roundw
       case rel =>
        have hk':k<l.length:=by rw [HL.out];exact hlt
        refine⟨k+1,by omega,by go_num,?_,?_,HB3⟩
        · rw [Zhw l k hk',← HI.out]
          exact HO3
        · intro j hj
          rw [List.take_succ_eq_append_getElem hk'] at hj
          rcases List.mem_append.1 hj with q | q
          · exact hmay.out j q
          · simp at q
            have:i=l[k]:=by rw [HI.out];simp [List.getD,hk']
            rw [q,← this]
            exact HM.out.symm
       case measure=>simp only [intOf];omega
   · have htk:l.take k=l:=List.take_of_length_le (by rw [HL.out];omega)
     rw [htk] at hown hmay
     have HA:Hid (l.all It.may=true):=List.all_eq_true.2 hmay.out
     clear htk
     go_wp2_with fail
     go_ret2
     refine⟨_,?_,hWr.out,fun _=>hown.out,fun h=>by rw [HA.out] at h;cases h⟩
     rw [HA.out]
     rfl
def numB (xs:List Nat):Nat:=xs.foldl (fun u b=>u*256+b) 0
theorem Zgq:∀(xs:List Nat)(u:Nat),xs.foldl (fun u b=>u*256+b) u=u*256 ^ xs.length+numB xs
 | [],u=>by simp [numB]
 | x :: r,u=>by
  have h1:=Zgq r (u*256+x)
  have h2:=Zgq r x
  simp only [List.foldl_cons,List.length_cons,numB] at *
  rw [h1,Nat.zero_mul,Nat.zero_add,h2,Nat.add_mul,Nat.pow_succ]
  rw [Nat.mul_assoc,Nat.mul_comm 256 (256 ^ r.length),Nat.add_assoc]
theorem ZeR (x:Nat)(r:List Nat):numB (x :: r)=x*256 ^ r.length+numB r:=by
 have:=Zgq r x;simpa [numB] using this
theorem Zhr (xs:List Nat)(b:Nat):numB (xs ++ [b])=numB xs*256+b:=by simp [numB]
theorem Zce:∀{xs:List Nat},Bytes xs→numB xs<256 ^ xs.length
 | [],_=>by simp [numB]
 | x :: r,h=>by
  have h1:=Zce (xs:=r) (fun y hy=>h y (by simp [hy]))
  have h2:=h x (by simp)
  rw [ZeR,List.length_cons,Nat.pow_succ]
  have h3:x*256 ^ r.length≤255*256 ^ r.length:=Nat.mul_le_mul_right _ (by omega)
  omega
theorem Zi2 (k:Nat):∀(m u:Nat),bigB (k*256 ^ m+u) m=bigB u m
 | 0,_=>rfl
 | m+1,u=>by
  have h:=Zi2 (k*256) m u
  rw [Nat.mul_assoc,← Nat.pow_succ'] at h
  simp only [bigB]
  rw [h]
  congr 1
  have e:k*256 ^ (m+1)+u=u+256 ^ m*(k*256):=by
   rw [Nat.pow_succ,Nat.add_comm,Nat.mul_comm (256 ^ m) (k*256),Nat.mul_assoc,Nat.mul_comm (256 ^ m) 256]
  rw [e,Nat.add_mul_div_left _ _ (Nat.pow_pos (by decide)),Nat.add_mul_mod_self_right]
theorem Zdm:∀{xs:List Nat},Bytes xs→bigB (numB xs) xs.length=xs
 | [],_=>rfl
 | x :: r,h=>by
  have h0:Bytes r:=fun y hy=>h y (by simp [hy])
  have h1:=Zce h0
  have h2:=h x (by simp)
  rw [ZeR,List.length_cons]
  simp only [bigB]
  rw [Zi2,Zdm h0]
  congr 1
  have hp:0<256 ^ r.length:=Nat.pow_pos (by decide)
  rw [Nat.mul_comm,Nat.mul_add_div hp,Nat.div_eq_of_lt h1]
  omega
theorem Zd5 (u:Nat):∀(n:Nat),numB (bigB u n)=u % 256 ^ n
 | 0=>by simp [bigB,numB];omega
 | n+1=>by
  simp only [bigB]
  rw [ZeR,Zan,Zd5 u n,Nat.pow_succ,Nat.mod_mul,Nat.mul_comm (256 ^ n),Nat.add_comm]
def noS:ByteArray:=⟨#[]⟩
def tk (xs:List Nat) (k:Int):Option (It × Nat):=
  if k=4 then
    if 8≤xs.length then
      if Fl.val (numB (xs.take 8))=numB (xs.take 8) then some (⟨4,0,numB (xs.take 8),noS⟩,8) else none
    else none
  else if k=5 then
    if 1≤xs.length then
      if 1+numB (xs.take 1)≤xs.length then some (⟨5,0,0,bstr ((xs.drop 1).take (numB (xs.take 1)))⟩,1+numB (xs.take 1)) else none
    else none
  else if cntN k≤xs.length then
    if (numB (xs.take (cntN k)):Int)≤maxN k then some (⟨k,numB (xs.take (cntN k)),0,noS⟩,cntN k) else none
  else none
def tks (xs:List Nat):List Int→List It→Nat→Option (List It × Nat)
  | [],l,q=>some (l,q)
  | k :: ks,l,q=>match tk (xs.drop q) k with
    | none=>none
    | some (i,n)=>tks xs ks (l ++ [i]) (q+n)
def It.valued (i:It):It:=⟨i.kind,i.n,Fl.val i.x,i.s⟩
theorem Zjg {s:ByteArray}(h:s.toList=[]):s=noS:=by
 rw [ByteArray.toList_eq] at h;cases s with
 | mk d =>
  simp only at h;have:d=#[]:=by
   apply Array.toList_inj.1;simpa using h
  rw [this];rfl
theorem Zg9:Fl.val 0=0:=by decide
theorem Zh9 (u n:Nat)(r:List Nat):(bigB u n ++ r).take n=bigB u n:=by
 rw [List.take_append_of_le_length (by rw [Zan];exact Nat.le_refl _),List.take_of_length_le (by rw [Zan];exact Nat.le_refl _)]
theorem ZmU (i:It)(hm:i.may=true)(hx:i.x<18446744073709551616)(r:List Nat):tk (i.bytes ++ r) i.kind=some (i.valued,i.bytes.length):=by
 obtain⟨k,n,x,s⟩:=i;by_cases hk:k=1∨k=2∨k=3
 · have ab:0≤n∧n≤maxN k∧x=0∧s=noS:=by
    rw [Zlo hk] at hm;simp at hm;exact⟨hm.1.1.1,hm.1.1.2,hm.1.2,Zjg hm.2⟩
   obtain⟨h0,h1,rfl,rfl⟩:=ab;obtain⟨m,rfl⟩:=Int.eq_ofNat_of_zero_le h0;have hb:It.bytes ⟨k,(m:Nat),0,noS⟩=bigB m (cntN k):=by
    rcases hk with rfl | rfl | rfl <;> simp [It.bytes,cntN]
   have aa:m % 256 ^ cntN k=m:=by
    apply Nat.mod_eq_of_lt;rcases hk with rfl | rfl | rfl <;> simp [maxN,cntN] at h1 ⊢ <;> omega
   rw [hb,Zan];(have n4:¬k=4:=by rcases hk with rfl | rfl | rfl <;> decide);(have n5:¬k=5:=by rcases hk with rfl | rfl | rfl <;> decide);simp only [tk,n4,n5,if_false];rw [Zh9,Zd5,aa,if_pos (by simp [Zan]),if_pos h1];simp [It.valued,Zg9]
 have h1:¬k=1:=fun h=>hk (.inl h);have h2:¬k=2:=fun h=>hk (.inr (.inl h));have h3:¬k=3:=fun h=>hk (.inr (.inr h));by_cases h4:k=4
 · subst h4;simp [It.may] at hm;obtain⟨rfl,hs⟩:=hm;obtain rfl:=Zjg hs;(have hb:It.bytes ⟨4,0,x,noS⟩=bigB (Fl.val x) 8:=by simp [It.bytes]);simp only at hx;have aa:Fl.val x % 256 ^ 8=Fl.val x:=Nat.mod_eq_of_lt (by have:=Fl.val_lt hx;simpa using this);rw [hb,Zan];simp only [tk,if_true];rw [Zh9,Zd5,aa,if_pos (by simp [Zan]),if_pos (Fl.val_val x)];simp [It.valued]
 have h5:k=5:=by
  simp only [It.may,h1,h2,h3,h4,if_false] at hm;by_cases h5:k=5
  · exact h5
  · rw [if_neg h5] at hm;cases hm
 subst h5;simp [It.may] at hm;obtain⟨⟨rfl,rfl⟩,hs⟩:=hm;(have hb:It.bytes ⟨5,0,0,s⟩=s.size :: strB s:=by simp [It.bytes]);rw [hb];(have e1:numB ((s.size :: strB s ++ r).take 1)=s.size:=by simp [numB]);have e2:((s.size :: strB s ++ r).drop 1).take s.size=strB s:=by
  show (strB s ++ r).take s.size=strB s;rw [List.take_append_of_le_length (by rw [ZaD];exact Nat.le_refl _),List.take_of_length_le (by rw [ZaD];exact Nat.le_refl _)]
 simp only [tk,show ¬(5:Int)=4 by decide,if_false,if_true];rw [e1,e2,if_pos (by simp),if_pos (by simp [ZaD];omega),ZgF];simp [It.valued,Zg9,ZaD];omega
theorem Ziw:∀(l:List It)(xs r:List Nat)(acc:List It)(q:Nat),(∀i∈l,i.may=true∧i.x<18446744073709551616)→xs.drop q=putB l ++ r→tks xs (l.map It.kind) acc q=some (acc ++ l.map It.valued,q+(putB l).length)
 | [],xs,r,acc,q,_,_=>by simp [tks,putB]
 | i :: l,xs,r,acc,q,h,hd=>by
  have hi:=h i (by simp)
  have e:putB (i :: l)=i.bytes ++ putB l:=by simp [putB]
  rw [e,List.append_assoc] at hd
  simp only [List.map_cons,tks]
  rw [hd,ZmU i hi.1 hi.2]
  simp only
  rw [Ziw l xs r (acc ++ [i.valued]) (q+i.bytes.length) (fun j hj=>h j (by simp [hj])) (by rw [← List.drop_drop,hd];simp)]
  rw [e]
  simp
  omega
end Go.Proofs.YtdojdcncncgncaaGreat
