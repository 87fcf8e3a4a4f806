/-
  Lemmas.
-/
import Derived.Test.YtdojdcncncgncaaGreatKobe
import Derived.Deep.CutBlock
import Derived.Test.YtdojdcncncgncaaGreatKobc
namespace Go.Proofs.YtdojdcncncgncaaGreat
open Go.RowKit
set_option linter.unusedVariables false
set_option maxRecDepth 100000
set_option maxHeartbeats 4000000
variable {l:List Lf}{r:Rw}
structure OKO (l l' : List Lf) (k : Nat) (t : Bool) (c : Int) : Prop where
  may : MayH l'
  find : ∀ q, k ≠ Fl.key q → findH l' q = findH l q
  there : t = true → c = 0
  new : t = false → c = 0 ∨ c = 7
theorem Znr (h : MayH l) (hm : r.may = true) (hw : r.wr ≠ 0) (hf : r.fits) (hn : findH l r.key = none) : OKO l (putH l r []).l r.key false (putH l r []).e := by
 rcases ZkK h hm hw hn with ⟨_, e⟩ | ⟨i, p⟩
 · rw [e]
   exact ⟨h, fun q _ => rfl, (fun e => by cases e), fun _ => .inr rfl⟩
 · refine ⟨ZgP h hf [], fun q hq => p.find h hf hq, (fun e => by cases e), fun _ => .inl (by rw [p.is])⟩
theorem ZlX (h : MayH l) (hm : r.may = true) {g : Hr} (hg : findH l r.key = some g) : OKO l (dropH l ((g.i : Int), (g.k : Int))).l r.key true (dropH l ((g.i : Int), (g.k : Int))).e := by
 obtain ⟨was, p, hk⟩ := ZiM hg
 rw [Zc9 hm] at hk
 exact ⟨Zjg h _, fun q hq => p.find h (by rw [hk]; exact hq), fun _ => by rw [p.is], (fun e => by cases e)⟩
theorem Znq (h : MayH l) (hm : r.may = true) (hf : r.fits) {g : Hr} (hg : findH l r.key = some g) : OKO l (layH l ((g.i : Int), (g.k : Int)) r false []).l r.key true (layH l ((g.i : Int), (g.k : Int)) r false []).e := by
 obtain ⟨was, p⟩ := Zk0 hm hg
 exact ⟨Zk9 h hf _ _ _, fun q hq => p.find h hf hq, fun _ => by rw [p.is], (fun e => by cases e)⟩
theorem ZfT {w w' w2 w2' : World} {l l' : List Lf} {k : Nat} {x y : Rx} {b c : Bt} {t u : Bool} (he : findH l' k = findH l k)
    (h1 : (findH l k = none ∧ x.r = zeroR ∧ b = (0, 0) ∧ t = false) ∨ ∃ g, findH l k = some g ∧ x.r = g.r ∧ b = ((g.i : Int), (g.k : Int)) ∧ t = true)
    (h2 : (findH l' k = none ∧ y.r = zeroR ∧ c = (0, 0) ∧ u = false) ∨ ∃ g, findH l' k = some g ∧ y.r = g.r ∧ c = ((g.i : Int), (g.k : Int)) ∧ u = true) : x.r = y.r ∧ b = c ∧ t = u := by
  rw [he] at h2
  rcases h1 with ⟨a1, a2, a3, a4⟩ | ⟨g, a1, a2, a3, a4⟩
  · rcases h2 with ⟨b1, b2, b3, b4⟩ | ⟨g', b1, _⟩
    · exact ⟨a2.trans b2.symm, a3.trans b3.symm, a4.trans b4.symm⟩
    · rw [a1] at b1; cases b1
  · rcases h2 with ⟨b1, _⟩ | ⟨g', b1, b2, b3, b4⟩
    · rw [a1] at b1; cases b1
    · rw [a1] at b1
      cases b1
      exact ⟨a2.trans b2.symm, a3.trans b3.symm, a4.trans b4.symm⟩
theorem Zh1 (w0 w:World)(b off len c k p:Nat)(hk:k<len)(x:Rx)(hx:RwAt w0 b (off+k*6) x)(r:Rw)(cv:Value)(hr:RwBlk w0 p r cv)(hxf:x.r.key<18446744073709551616)(hyf:r.key<18446744073709551616)(h:(Fl.key x.r.key == Fl.key r.key)=true)(hW:Below w0.heap.size w0 w)
    {Q:Exit→Act→World→Prop}{A:Act}(hsz:A.tmps.size=172)(hdf:A.defers=[])(s1:A.tmps.getD 1 undef=.slice (some ⟨b,off,none⟩) len c)(s15:A.tmps.getD 15 undef=.int .i64 (k:Int))(s9:A.tmps.getD 9 undef=.pointer (some ⟨p,0,none⟩))
    (hend:∀(u:Nat→Value) w',Below w0.heap.size w0 w'→Q .normal (((((((((A).put (some 122) (u 122)).put (some 123) (u 123)).put (some 124) (u 124)).put (some 125) (u 125)).put (some 126) (u 126)).put (some 127) (u 127)).put (some 128) (u 128)).put (some 129) (.bool true)) w') :
    (Code.region 19 (Pl.find 19 ((Tryz.f5.body).getD .skip)) true).wp Tryz.prog Q A w:=by
  have hS0:Below w0.heap.size w0 w.drew:=hW.drew
  have hA:=Pl.At.same (v:=.pointer (some ⟨p,0,none⟩)) (d:=9) (Pl.At.same (v:=.int .i64 (k:Int)) (d:=15) (Pl.At.same (v:=.slice (some ⟨b,off,none⟩) len c) (d:=1) (Pl.At.here hsz hdf) s1) s15) s9
  refine Pl.qa (S:=fun w'=>Below w0.heap.size w0 w') hA hS0 ?_
  rw [show (Pl.find 19 ((Tryz.f5.body).getD .skip)).size=8 by kernel_rfl]
  refine Pl.q0 0 122 (.slice (some ⟨b,off,none⟩) len c) (Pl.q1) (Pl.q2 (.tmp 1)) hS0 ?_
  refine Pl.q0 1 123 (.int .i64 (k:Int)) (Pl.q1) (Pl.q2 (.tmp 15)) hS0 ?_
  refine Pl.q0 2 124 (.pointer (some ⟨b,off+k*6,none⟩)) (Pl.q1) (Pl.qd 38 (.tmp 122) (.tmp 123) (Zc5 b off len c k hk)) hS0 ?_
  refine Pl.q0 3 125 (.pointer (some ⟨b,off+k*6,none⟩)) (Pl.q1) (Pl.q5 33 (.tmp 124) 0 (Zg6 b (off+k*6))) hS0 ?_
  refine Pl.q0 4 126 (.float .f64 x.r.key) (Pl.q1) (Pl.q4 23 (.tmp 125) (fun w' hS=>Zbd (hx.keep hS (Nat.le_refl _)).c0)) hS0 ?_
  refine Pl.q0 5 127 (.pointer (some ⟨p,0,none⟩)) (Pl.q1) (Pl.q5 33 (.tmp 9) 0 (Zg6 p 0)) hS0 ?_
  refine Pl.q0 6 128 (.float .f64 r.key) (Pl.q1) (Pl.q4 23 (.tmp 127) (fun w' hS=>Zbd (hr.keep hS).c0)) hS0 ?_
  refine Pl.qc 7 129 30 [(.tmp 126),(.tmp 128)] #[23,23] (Pl.q1) Zeg (Calls.mono (Zee h hxf hyf w.drew) ?_)
  rintro e w1 ⟨rfl,hb1⟩
  have hS1:Below w0.heap.size w0 w1:=Zac hS0 hb1
  refine⟨.bool true,rfl,hS1,?_⟩
  refine Pl.q8 (fun A' hA'=>?_)
  rw [Pl.At.ext hA' ((((((((hA.put 122 _).put 123 _).put 124 _).put 125 _).put 126 _).put 127 _).put 128 _).put 129 _)]
  exact hend hA'.fn _ hS1
theorem Zh0 (w0 w:World)(b off len c k p:Nat)(hk:k<len)(x:Rx)(hx:RwAt w0 b (off+k*6) x)(r:Rw)(cv:Value)(hr:RwBlk w0 p r cv)(hxf:x.r.key<18446744073709551616)(hyf:r.key<18446744073709551616)(h:(Fl.key x.r.key == Fl.key r.key)=false)(hW:Below w0.heap.size w0 w)
    {Q:Exit→Act→World→Prop}{A:Act}(hsz:A.tmps.size=172)(hdf:A.defers=[])(s1:A.tmps.getD 1 undef=.slice (some ⟨b,off,none⟩) len c)(s15:A.tmps.getD 15 undef=.int .i64 (k:Int))(s9:A.tmps.getD 9 undef=.pointer (some ⟨p,0,none⟩))
    (hend:∀(u:Nat→Value) w',Below w0.heap.size w0 w'→Q .normal (((((((((A).put (some 122) (u 122)).put (some 123) (u 123)).put (some 124) (u 124)).put (some 125) (u 125)).put (some 126) (u 126)).put (some 127) (u 127)).put (some 128) (u 128)).put (some 129) (.bool false)) w') :
    (Code.region 19 (Pl.find 19 ((Tryz.f5.body).getD .skip)) true).wp Tryz.prog Q A w:=by
  have hS0:Below w0.heap.size w0 w.drew:=hW.drew
  have hA:=Pl.At.same (v:=.pointer (some ⟨p,0,none⟩)) (d:=9) (Pl.At.same (v:=.int .i64 (k:Int)) (d:=15) (Pl.At.same (v:=.slice (some ⟨b,off,none⟩) len c) (d:=1) (Pl.At.here hsz hdf) s1) s15) s9
  refine Pl.qa (S:=fun w'=>Below w0.heap.size w0 w') hA hS0 ?_
  rw [show (Pl.find 19 ((Tryz.f5.body).getD .skip)).size=8 by kernel_rfl]
  refine Pl.q0 0 122 (.slice (some ⟨b,off,none⟩) len c) (Pl.q1) (Pl.q2 (.tmp 1)) hS0 ?_
  refine Pl.q0 1 123 (.int .i64 (k:Int)) (Pl.q1) (Pl.q2 (.tmp 15)) hS0 ?_
  refine Pl.q0 2 124 (.pointer (some ⟨b,off+k*6,none⟩)) (Pl.q1) (Pl.qd 38 (.tmp 122) (.tmp 123) (Zc5 b off len c k hk)) hS0 ?_
  refine Pl.q0 3 125 (.pointer (some ⟨b,off+k*6,none⟩)) (Pl.q1) (Pl.q5 33 (.tmp 124) 0 (Zg6 b (off+k*6))) hS0 ?_
  refine Pl.q0 4 126 (.float .f64 x.r.key) (Pl.q1) (Pl.q4 23 (.tmp 125) (fun w' hS=>Zbd (hx.keep hS (Nat.le_refl _)).c0)) hS0 ?_
  refine Pl.q0 5 127 (.pointer (some ⟨p,0,none⟩)) (Pl.q1) (Pl.q5 33 (.tmp 9) 0 (Zg6 p 0)) hS0 ?_
  refine Pl.q0 6 128 (.float .f64 r.key) (Pl.q1) (Pl.q4 23 (.tmp 127) (fun w' hS=>Zbd (hr.keep hS).c0)) hS0 ?_
  refine Pl.qc 7 129 30 [(.tmp 126),(.tmp 128)] #[23,23] (Pl.q1) Zeg (Calls.mono (Zee h hxf hyf w.drew) ?_)
  rintro e w1 ⟨rfl,hb1⟩
  have hS1:Below w0.heap.size w0 w1:=Zac hS0 hb1
  refine⟨.bool false,rfl,hS1,?_⟩
  refine Pl.q8 (fun A' hA'=>?_)
  rw [Pl.At.ext hA' ((((((((hA.put 122 _).put 123 _).put 124 _).put 125 _).put 126 _).put 127 _).put 128 _).put 129 _)]
  exact hend hA'.fn _ hS1
theorem Znt (HS:ZmD True)(w:World)(nn:Nat)(hnn:nn<256)(a:Option Addr)(len cap:Nat)(l:List Rx)(h:Rz w a len l)(hlen:len≤9223372036854775807)(a2:Option Addr)(len2 cap2:Nat)(xs:List Nat)(h2:Came w a2 len2 cap2 xs) :
    Calls Tryz.prog 5 #[.int .u8 (nn:Int),.slice a len cap,.slice a2 len2 cap2] w fun e w'=>e=.returned (.bool true)∧Below w.heap.size w w':=by
  have hsf:∀(w:World) (a:Addr) (m:Mode) (x:Nat),(store a (.float .f64 x) m).run Tryz.prog w=stored Tryz.prog w a (.float .f64 x) m:=fun w a m x=>run_store Tryz.prog w a _ m rfl
  have HH:=hide HS
  have HR:=hide h
  have HA2:=hide h2.bs
  have hlen2:=h2.big
  have he:Calls Tryz.prog 28 #[.int .i64 (1+(nn:Int) % 3)] w (Zj5 w (1+nn % 3)):=by
   have:=Zfi w (1+nn % 3) (by omega)
   rwa [show (((1+nn % 3:Nat)):Int)=1+(nn:Int) % 3 by omega] at this
  have HE:=hide he
  clear h HS he h2
  obtain⟨n,hn⟩:∃n,n=1+nn % 3:=⟨_,rfl⟩
  rw [← hn] at HE
  have hn1:1≤n:=by omega
  have hn3:n≤3:=by omega
  go_enter Tryz.func5,Tryz.ntmps5
  go_wp2_with fail
  refine HE.out.mono ?_
  rintro e w1 ⟨s0,L0,rfl,hE,hL⟩
  have HB1:=hide hE.below
  have HG1:=hide (hE.gl (by rw [← hE.own.len,hL];omega))
  have HM1:Hid (MayH (lfs L0)):=by
   show MayH (lfs L0)
   rw [hE.lfs,hL]
   exact ZcB hn1 (by omega)
  clear hE HE hn
  go_wp2_with fail
  go_loopw [7,8] (fun v iv wr=>∃(i:Nat) (s:Sl) (L:List Lb),i≤40∧iv=.int .i64 (i:Nat)∧v=.slice s.a s.len s.cap∧Hid (Gl (fun _=>True) wr s L)∧Hid (MayH (lfs L))∧Hid (Below w.heap.size w wr)) (fun _ iv _=>41-(intOf iv).toNat)
  case atStart=>exact ⟨0,s0,L0,Nat.zero_le _,rfl,rfl,HG1,HM1,HB1⟩
  case round =>
   obtain⟨i,⟨sa,sn,sc⟩,L,hi,rfl,rfl,HG,HM,HB⟩:=hrel
   rcases Nat.lt_or_ge i len with hlt | hge
   case inr =>
    have j1:¬(i:Int)<(len:Int):=by omega
    have HMY:=hide (ZeF wr ⟨sa,sn,sc⟩ L HG.out)
    simp only [Sl.val] at HMY
    go_wp2_with fail
    refine HMY.out.mono ?_
    rintro e w8 ⟨⟨bm,rfl,hbm⟩,hb8⟩
    have hbt:bm=true:=hbm.2 HM.out
    subst hbt
    have HB8:=hide (Zac HB.out hb8)
    have HAW:=hide (Zd4 HH.out w8)
    clear hb8 hbm HMY
    go_wp2_with fail
    refine HAW.out.mono ?_
    rintro e w9 ⟨rfl,hb9⟩
    have HB9:=hide (Zac HB8.out hb9)
    clear hb9
    go_wp2_with fail
    go_ret
    exact⟨rfl,HB9.out⟩
   have j1:(i:Int)<(len:Int):=by omega
   rcases Nat.lt_or_ge i len2 with hlt3 | hge
   case inr =>
    have j2:¬(i:Int)<(len2:Int):=by omega
    have HMY:=hide (ZeF wr ⟨sa,sn,sc⟩ L HG.out)
    simp only [Sl.val] at HMY
    go_wp2_with fail
    refine HMY.out.mono ?_
    rintro e w8 ⟨⟨bm,rfl,hbm⟩,hb8⟩
    have hbt:bm=true:=hbm.2 HM.out
    subst hbt
    have HB8:=hide (Zac HB.out hb8)
    have HAW:=hide (Zd4 HH.out w8)
    clear hb8 hbm HMY
    go_wp2_with fail
    refine HAW.out.mono ?_
    rintro e w9 ⟨rfl,hb9⟩
    have HB9:=hide (Zac HB8.out hb9)
    clear hb9
    go_wp2_with fail
    go_ret
    exact⟨rfl,HB9.out⟩
   have j2:(i:Int)<(len2:Int):=by omega
   rcases Nat.lt_or_ge i 40 with hlt2 | hge
   case inr =>
    have j3:¬(i:Int)<(40:Int):=by omega
    have HMY:=hide (ZeF wr ⟨sa,sn,sc⟩ L HG.out)
    simp only [Sl.val] at HMY
    go_wp2_with fail
    refine HMY.out.mono ?_
    rintro e w8 ⟨⟨bm,rfl,hbm⟩,hb8⟩
    have hbt:bm=true:=hbm.2 HM.out
    subst hbt
    have HB8:=hide (Zac HB.out hb8)
    have HAW:=hide (Zd4 HH.out w8)
    clear hb8 hbm HMY
    go_wp2_with fail
    refine HAW.out.mono ?_
    rintro e w9 ⟨rfl,hb9⟩
    have HB9:=hide (Zac HB8.out hb9)
    clear hb9
    go_wp2_with fail
    go_ret
    exact⟨rfl,HB9.out⟩
   have j3:(i:Int)<(40:Int):=by omega
   have hr:=HR.out.keep HB.out (Nat.le_refl _)
   obtain⟨b,off,ha,hx⟩:=hr.at' i hlt
   replace ha:a=some ⟨b,off,none⟩:=ha
   subst ha
   have hcol:=hr.cols _ (hr.mem hlt)
   have hfit:=hr.fits _ (hr.mem hlt)
   obtain⟨x,hx0⟩:∃x,x=l.getD i Rx.zero:=⟨_,rfl⟩
   rw [← hx0] at hcol hfit hx
   obtain⟨W2,hs1,hk2,hb2⟩:=ZmV wr x
   have c0:=hx.c0
   have c1:=hx.c1
   have c2:=hx.c2
   have c3:=hx.c3
   have c4:=hx.c4
   have c5:=hx.c5
   have HS1:=hide hs1
   have HK2:=hide hk2
   have HB2:=hide (Zac HB.out hb2)
   have HG2:=hide (HG.out.below hb2 (Nat.le_refl _))
   have HF2:=hide (hcol.keep hb2 (Nat.le_refl _))
   have HFT:=hide hfit
   have d0:=hk2.c0
   have d1:=hk2.c1
   have d2:=hk2.c2
   have d3:=hk2.c3
   have d4:=hk2.c4
   have d5:=hk2.c5
   have hxn:x.n≤9223372036854775807:=hcol.big
   clear hr hx hcol hfit hx0 hs1 hk2 hb2
   by_cases hcn:20<x.n
   · have j4:(20:Int)<(x.n:Int):=by omega
     go_wp2_with (refine Zab _ rfl rfl 33 (.tmp 9) (.tmp 46) rfl (.pointer (some ⟨wr.heap.size,0,none⟩)) (.agg #[.float .f64 x.r.key,.bool x.r.dead,.slice x.a x.n x.c,.int .i64 x.r.wr,.int .i64 x.r.cell,.int .i64 x.r.no]) rfl rfl W2 HS1.out ?_)
     go_roundw
     case rel=>exact ⟨i+1,⟨sa,sn,sc⟩,L,by omega,by go_num,rfl,HG2,HM,HB2⟩
     case measure=>simp only [intOf];omega
   · have j4:¬(20:Int)<(x.n:Int):=by omega
     have HMY:=hide (Zdu x.r x.a x.n x.c W2 HF2.out HFT.out)
     simp only [Rw.val] at HMY
     obtain⟨m,hm⟩:∃m,m=x.r.may:=⟨_,rfl⟩
     rw [← hm] at HMY
     have HMM:=hide hm
     clear hm
     go_wp2_with (refine Zab _ rfl rfl 33 (.tmp 9) (.tmp 46) rfl (.pointer (some ⟨wr.heap.size,0,none⟩)) (.agg #[.float .f64 x.r.key,.bool x.r.dead,.slice x.a x.n x.c,.int .i64 x.r.wr,.int .i64 x.r.cell,.int .i64 x.r.no]) rfl rfl W2 HS1.out ?_)
     refine HMY.out.mono ?_
     rintro e w3 ⟨rfl,hb3⟩
     have HB3:=hide (Zac HB2.out hb3)
     have HG3:=hide (HG2.out.below hb3 (Nat.le_refl _))
     have HF3:=hide (HF2.out.keep hb3 (Nat.le_refl _))
     have HK3:=hide (HK2.out.keep hb3)
     have d0:=HK3.out.c0
     have d3:=HK3.out.c3
     clear hb3 HMY c0 c1 c2 c3 c4 c5 HS1 d1 d2 d4 d5
     cases m with
     | false =>
      go_wp2_with fail
      go_roundw
      case rel=>exact ⟨i+1,⟨sa,sn,sc⟩,L,by omega,by go_num,rfl,HG3,HM,HB3⟩
      case measure=>simp only [intOf];omega
     | true =>
      by_cases hwr:x.r.wr=0
      · have j5:x.r.wr=0:=hwr
        go_wp2_with fail
        go_roundw
        case rel=>exact ⟨i+1,⟨sa,sn,sc⟩,L,by omega,by go_num,rfl,HG3,HM,HB3⟩
        case measure=>simp only [intOf];omega
      · have j5:¬x.r.wr=0:=hwr
        have hmay:x.r.may=true:=HMM.out.symm
        have HKY:=hide (Zc9 hmay)
        have HMAY:=hide hmay
        have HWR:=hide hwr
        have HF:=hide (HH.out.find w3 ⟨sa,sn,sc⟩ L x.r.key HG3.out HFT.out.key HM.out)
        simp only [Sl.val] at HF
        clear hmay hwr
        go_wp2_with fail
        refine HF.out.mono ?_
        intro e w4 ht
        obtain⟨y,b4,t,he,hb4,hfy,hfc⟩:=ht.form
        subst he
        obtain⟨Wa,W5,hsa,hsb,hkx,hkb,hb5,hfk⟩:=ZbK w4 y b4
        have hb45:=Zac hb4 hb5
        have HSA:=hide hsa
        have HSB:=hide hsb
        have HKB:=hide hkb
        have HFC:=hide hfc
        have HB5:=hide (Zac HB3.out hb45)
        have HG5:=hide (HG3.out.below hb45 (Nat.le_refl _))
        have HF5:=hide (HF3.out.keep hb45 (Nat.le_refl _))
        have HK5:=hide (HK3.out.keep hb45)
        have hs5:w4.heap.size+2≤W5.heap.size:=by have:=hkb.lt;omega
        clear ht hb4 hfy hfc hsa hsb hkx hkb hb5 hfk hb45 HF d0 d3 HG3 HF3 HK3 HF2 HK2 HG2
        unfold Rx.val Rw.val btV
        go_upto_block 2 with (first | refine Zab _ rfl rfl 33 (.tmp 10) (.tmp 66) rfl (.pointer (some ⟨w4.heap.size,0,none⟩)) (.agg #[.float .f64 y.r.key,.bool y.r.dead,.slice y.a y.n y.c,.int .i64 y.r.wr,.int .i64 y.r.cell,.int .i64 y.r.no]) rfl rfl Wa HSA.out ?_ | refine Zab _ rfl rfl 26 (.tmp 11) (.tmp 67) rfl (.pointer (some ⟨w4.heap.size+1,0,none⟩)) (.agg #[.int .i64 b4.1,.int .i64 b4.2]) rfl rfl W5 HSB.out ?_)
        go_cut [13,14] from 70 to 100 (fun xv ev wx=>∃(s':Sl) (L':List Lb) (c:Int),xv=.slice s'.a s'.len s'.cap∧ev=.int .i64 c∧Hid (Gl (fun _=>True) wx s' L')∧Hid (OKO (lfs L) (lfs L') x.r.key t c)∧Hid (Below W5.heap.size W5 wx))
        case first =>
         have d0:=HK5.out.c0
         have d1:=HK5.out.c1
         have d2:=HK5.out.c2
         have d3:=HK5.out.c3
         have d4:=HK5.out.c4
         have d5:=HK5.out.c5
         cases t with
         | false =>
          have hnone:findH (lfs L) x.r.key=none:=by
           rcases HFC.out with ⟨h1,_⟩ | ⟨g,_,_,_,h1⟩
           · exact h1
           · cases h1
          have HOP:=hide (Znr HM.out HMAY.out HWR.out HFT.out hnone)
          have hP:=HH.out.put W5 ⟨sa,sn,sc⟩ L x.r x.a x.n x.c Sl.nil [] HG5.out HF5.out HFT.out (Gi.none W5) HM.out
          rcases hX:putH (lfs L) x.r [] with ⟨pl,⟨b1,b2⟩,pe⟩
          rw [hX] at hP HOP
          have HP:=hide hP
          simp only [Rw.val,Sl.val,Sl.nil] at HP
          simp only at HOP
          clear hP hX hnone
          go_wp2_with fail
          refine HP.out.mono ?_
          rintro e w6 ⟨hb6,⟨xa,xn,xc⟩,L',rfl,hgx,hlx⟩
          have HGX:=hide hgx
          have HBX:=hide hb6
          have HOK:Hid (OKO (lfs L) (lfs L') x.r.key false pe):=by show OKO _ _ _ _ _;rw [hlx];exact HOP.out
          clear hb6 hgx hlx HP HOP d0 d1 d2 d3 d4 d5
          unfold btV
          go_wp2_with fail
          go_meet
          case rel=>exact ⟨⟨xa,xn,xc⟩,L',pe,rfl,rfl,HGX,HOK,HBX⟩
         | true =>
          obtain⟨g,hg,hb4⟩:∃g,findH (lfs L) x.r.key=some g∧b4=((g.i:Int),(g.k:Int)):=by
           rcases HFC.out with ⟨_,_,_,h1⟩ | ⟨g,h1,_,h2,_⟩
           · cases h1
           · exact⟨g,h1,h2⟩
          have hba:=HA2.out.2.2 i hlt3
          obtain⟨b7,off7,ha7,hc7⟩:=hba
          subst ha7
          have hc8:=Zat hc7 HB5.out
          have p0:=HKB.out.c0
          have p1:=HKB.out.c1
          obtain⟨v,hv⟩:∃v,v=xs.getD i 0:=⟨_,rfl⟩
          have hv256:v<256:=by rw [hv];exact Zhx HA2.out.2.1 i
          rw [← hv] at hc8
          clear hc7 hv
          by_cases hd:v % 3=0
          · have j6:(v:Int) % 3=0:=by omega
            have HOP:=hide (ZlX HM.out HMAY.out hg)
            have hP:=HH.out.drop W5 ⟨sa,sn,sc⟩ L b4 HG5.out HM.out
            rw [← hb4] at HOP
            rcases hX:dropH (lfs L) b4 with ⟨pl,pe⟩
            rw [hX] at hP HOP
            have HP:=hide hP
            simp only [Sl.val,btV] at HP
            simp only at HOP
            clear hP hX hg hb4
            go_wp2_with fail
            refine HP.out.mono ?_
            rintro e w6 ⟨hb6,⟨xa,xn,xc⟩,L',rfl,hgx,hlx⟩
            have HGX:=hide hgx
            have HBX:=hide hb6
            have HOK:Hid (OKO (lfs L) (lfs L') x.r.key true pe):=by show OKO _ _ _ _ _;rw [hlx];exact HOP.out
            clear hb6 hgx hlx HP HOP d0 d1 d2 d3 d4 d5 p0 p1 hc8
            go_wp2_with fail
            go_meet
            case rel=>exact ⟨⟨xa,xn,xc⟩,L',pe,rfl,rfl,HGX,HOK,HBX⟩
          · have j6:¬(v:Int) % 3=0:=by omega
            have HOP:=hide (Znq HM.out HMAY.out HFT.out hg)
            have hP:=HH.out.lay trivial W5 ⟨sa,sn,sc⟩ L b4 x.r x.a x.n x.c HG5.out HF5.out HFT.out HM.out
            rw [← hb4] at HOP
            rcases hX:layH (lfs L) b4 x.r false [] with ⟨pl,pe⟩
            rw [hX] at hP HOP
            have HP:=hide hP
            simp only [Rw.val,Sl.val,btV] at HP
            simp only at HOP
            clear hP hX hg hb4
            go_wp2_with fail
            refine HP.out.mono ?_
            rintro e w6 ⟨hb6,⟨xa,xn,xc⟩,L',rfl,hgx,hlx⟩
            have HGX:=hide hgx
            have HBX:=hide hb6
            have HOK:Hid (OKO (lfs L) (lfs L') x.r.key true pe):=by show OKO _ _ _ _ _;rw [hlx];exact HOP.out
            clear hb6 hgx hlx HP HOP d0 d1 d2 d3 d4 d5 p0 p1 hc8
            go_wp2_with fail
            go_meet
            case rel=>exact ⟨⟨xa,xn,xc⟩,L',pe,rfl,rfl,HGX,HOK,HBX⟩
        case rest =>
         obtain⟨⟨xa,xn,xc⟩,L',c,rfl,rfl,HGX,HOK,HWX⟩:=hcut
         have HBX:=hide (Zac HB5.out HWX.out)
         have HGN:=hide (HG5.out.below HWX.out (Nat.le_refl _))
         have HKX:=hide (HK5.out.keep HWX.out)
         clear HWX HG5 HF5 HK5 HKB HFC
         generalize wr.heap.size=g at *
         cases t with
         | true =>
          have hc0:c=0:=HOK.out.there rfl
          subst hc0
          go_wp2_with fail
          go_loopw [15] (fun kv wq=>∃k:Nat,k≤i∧kv=.int .i64 (k:Nat)∧Hid (Below wc.heap.size wc wq)) (fun kv _=>i-(intOf kv).toNat)
          case atStart=>exact ⟨0,Nat.zero_le _,rfl,Below.refl _ _⟩
          case round =>
           obtain⟨k,hk,rfl,HQ⟩:=hrel
           rcases Nat.lt_or_ge k i with hki | hki
           · have j5:(k:Int)<(i:Int):=by omega
             have hr6:=HR.out.keep (Zac HBX.out HQ.out) (Nat.le_refl _)
             obtain⟨b6,off6,ha6,hx6⟩:=hr6.at' k (by omega)
             cases ha6
             have hf6:=(hr6.fits _ (hr6.mem (j:=k) (by omega))).key
             obtain⟨z,hz⟩:∃z,z=l.getD k Rx.zero:=⟨_,rfl⟩
             rw [← hz] at hx6 hf6
             have HX6:=hide hx6
             have HK6:=hide (HKX.out.keep HQ.out)
             clear hr6 hz
             go_wp2_with fail
             refine Pl.q9 (ops:=Pl.find 19 ((Tryz.f5.body).getD .skip)) ?_
             cases hal:(Fl.key z.r.key == Fl.key x.r.key) with
             | true =>
              refine Zh1 wr wr b off len cap k g (by omega) z HX6.out x.r _ HK6.out hf6 HFT.out.key hal (Below.refl _ _) (by rfl) (by rfl) (by rfl) (by rfl) (by rfl) ?_
              intro u w7 hb7
              simp only [Act.put,List.setIfInBounds_toArray,List.set_cons_zero,List.set_cons_succ]
              have HQ7:=hide (Zac HQ.out hb7)
              clear hb7 hal hx6
              go_wp2_with fail
              go_roundw
              case rel=>exact ⟨k+1,by omega,by go_num,HQ7⟩
              case measure=>simp only [intOf];omega
             | false =>
              refine Zh0 wr wr b off len cap k g (by omega) z HX6.out x.r _ HK6.out hf6 HFT.out.key hal (Below.refl _ _) (by rfl) (by rfl) (by rfl) (by rfl) (by rfl) ?_
              intro u w7 hb7
              simp only [Act.put,List.setIfInBounds_toArray,List.set_cons_zero,List.set_cons_succ]
              have hne:x.r.key≠Fl.key z.r.key:=by
               intro e
               rw [← e,HKY.out] at hal
               simp at hal
              have HQ7:=hide (Zac HQ.out hb7)
              have HX7:=hide (HX6.out.keep hb7 (Nat.le_refl _))
              have z0:=HX7.out.c0
              have HG7:=hide ((HGN.out.below HQ.out (Nat.le_refl _)).below hb7 (Nat.le_refl _))
              have HF7:=hide (HH.out.find w7 ⟨sa,sn,sc⟩ L z.r.key HG7.out hf6 HM.out)
              simp only [Sl.val] at HF7
              have HEQ:=hide (HOK.out.find _ hne)
              have HZF:=hide hf6
              clear hb7 hal hx6 hne hf6
              go_wp2_with fail
              refine HF7.out.mono ?_
              intro e w8 ht
              obtain⟨x8,b8,t8,he,hb8,hfx8,hfc8⟩:=ht.form
              subst he
              obtain⟨Wc,W9,hsa8,hsb8,hkx8,hkb8,hb9,hfk8⟩:=ZbK w8 x8 b8
              have hb89:=Zac hb8 hb9
              have HSA8:=hide hsa8
              have HSB8:=hide hsb8
              have HKX8:=hide hkx8
              have HKB8:=hide hkb8
              have HFX8:=hide (hfk8 hfx8)
              have HFC8:=hide hfc8
              have HQ9:=hide (Zac HQ7.out hb89)
              have HX9:=hide (HX7.out.keep hb89 (Nat.le_refl _))
              have HGX9:=hide (HGX.out.below HQ9.out (Nat.le_refl _))
              have y0:=HX9.out.c0
              have hs8:w8.heap.size+2≤W9.heap.size:=by have:=hkb8.lt;omega
              have HF9:=hide (HH.out.find W9 ⟨xa,xn,xc⟩ L' z.r.key HGX9.out HZF.out HOK.out.may)
              simp only [Sl.val] at HF9
              clear ht hb8 hfx8 hfc8 hsa8 hsb8 hkx8 hkb8 hb9 hfk8 hb89 HF7 z0 HX7 HG7
              unfold Rx.val Rw.val btV
              go_wp2_with (first | refine Zab _ rfl rfl 33 (.tmp 16) (.tmp 138) rfl (.pointer (some ⟨w8.heap.size,0,none⟩)) (.agg #[.float .f64 x8.r.key,.bool x8.r.dead,.slice x8.a x8.n x8.c,.int .i64 x8.r.wr,.int .i64 x8.r.cell,.int .i64 x8.r.no]) rfl rfl Wc HSA8.out ?_ | refine Zab _ rfl rfl 26 (.tmp 17) (.tmp 139) rfl (.pointer (some ⟨w8.heap.size+1,0,none⟩)) (.agg #[.int .i64 b8.1,.int .i64 b8.2]) rfl rfl W9 HSB8.out ?_)
              refine HF9.out.mono ?_
              intro e w10 ht
              obtain⟨x10,b10,t10,he,hb10,hfx10,hfc10⟩:=ht.form
              subst he
              obtain⟨hxx,hbb,htt⟩:=ZfT (w:=w10) (w':=w10) (w2:=w10) (w2':=w10) HEQ.out HFC8.out hfc10
              subst hbb htt
              obtain⟨Wd,W11,hsa10,hsb10,hkx10,hkb10,hb11,hfk10⟩:=ZbK w10 x10 b8
              have hb01:=Zac hb10 hb11
              have HSA10:=hide hsa10
              have HSB10:=hide hsb10
              have HQ11:=hide (Zac HQ9.out hb01)
              have hxa:=HKX8.out.keep hb01
              have hba:=HKB8.out.keep hb01
              have HSM:=hide (ZdL (x:=x8) (y:=x10) hxx W11 (HFX8.out.keep hb01 (Nat.le_refl _)) (hfk10 hfx10))
              have a0:=hxa.c0
              have a1:=hxa.c1
              have a2:=hxa.c2
              have a3:=hxa.c3
              have a4:=hxa.c4
              have a5:=hxa.c5
              have b0:=hkx10.c0
              have b1:=hkx10.c1
              have b2:=hkx10.c2
              have b3:=hkx10.c3
              have b4:=hkx10.c4
              have b5:=hkx10.c5
              have p0:=hba.c0
              have p1:=hba.c1
              have q0:=hkb10.c0
              have q1:=hkb10.c1
              have hs10:W9.heap.size≤w10.heap.size:=hb10.size
              simp only [Rx.val,Rw.val] at HSM
              clear ht hb10 hfx10 hfc10 hsa10 hsb10 hkx10 hkb10 hb11 hfk10 hb01 hxx hxa hba HF9 y0 HX9 HGX9 HKX8 HKB8 HFX8 HFC8 HEQ
              unfold Rx.val Rw.val btV
              go_wp2_with (first | refine Zab _ rfl rfl 33 (.tmp 19) (.tmp 149) rfl (.pointer (some ⟨w10.heap.size,0,none⟩)) (.agg #[.float .f64 x10.r.key,.bool x10.r.dead,.slice x10.a x10.n x10.c,.int .i64 x10.r.wr,.int .i64 x10.r.cell,.int .i64 x10.r.no]) rfl rfl Wd HSA10.out ?_ | refine Zab _ rfl rfl 26 (.tmp 20) (.tmp 150) rfl (.pointer (some ⟨w10.heap.size+1,0,none⟩)) (.agg #[.int .i64 b8.1,.int .i64 b8.2]) rfl rfl W11 HSB10.out ?_)
              refine HSM.out.mono ?_
              rintro e w12 ⟨rfl,hb12⟩
              have HQ12:=hide (Zac HQ11.out hb12)
              clear hb12 a0 a1 a2 a3 a4 a5 b0 b1 b2 b3 b4 b5 p0 p1 q0 q1
              go_wp2_with fail
              go_roundw
              case rel=>exact ⟨k+1,by omega,by go_num,HQ12⟩
              case measure=>simp only [intOf];omega
           · have j5:¬(k:Int)<(i:Int):=by omega
             have HG6:=hide (HGX.out.below HQ.out (Nat.le_refl _))
             have HM6:=hide HOK.out.may
             have HB6:=hide (Zac HBX.out HQ.out)
             go_wp2_with fail
             go_roundw
             case rel=>exact ⟨i+1,⟨xa,xn,xc⟩,L',by omega,by go_num,rfl,HG6,HM6,HB6⟩
             case measure=>simp only [intOf];omega
         | false =>
          rcases HOK.out.new rfl with hc0 | hc0
          · subst hc0
            go_wp2_with fail
            go_loopw [15] (fun kv wq=>∃k:Nat,k≤i∧kv=.int .i64 (k:Nat)∧Hid (Below wc.heap.size wc wq)) (fun kv _=>i-(intOf kv).toNat)
            case atStart=>exact ⟨0,Nat.zero_le _,rfl,Below.refl _ _⟩
            case round =>
             obtain⟨k,hk,rfl,HQ⟩:=hrel
             rcases Nat.lt_or_ge k i with hki | hki
             · have j5:(k:Int)<(i:Int):=by omega
               have hr6:=HR.out.keep (Zac HBX.out HQ.out) (Nat.le_refl _)
               obtain⟨b6,off6,ha6,hx6⟩:=hr6.at' k (by omega)
               cases ha6
               have hf6:=(hr6.fits _ (hr6.mem (j:=k) (by omega))).key
               obtain⟨z,hz⟩:∃z,z=l.getD k Rx.zero:=⟨_,rfl⟩
               rw [← hz] at hx6 hf6
               have HX6:=hide hx6
               have HK6:=hide (HKX.out.keep HQ.out)
               clear hr6 hz
               go_wp2_with fail
               refine Pl.q9 (ops:=Pl.find 19 ((Tryz.f5.body).getD .skip)) ?_
               cases hal:(Fl.key z.r.key == Fl.key x.r.key) with
               | true =>
                refine Zh1 wr wr b off len cap k g (by omega) z HX6.out x.r _ HK6.out hf6 HFT.out.key hal (Below.refl _ _) (by rfl) (by rfl) (by rfl) (by rfl) (by rfl) ?_
                intro u w7 hb7
                simp only [Act.put,List.setIfInBounds_toArray,List.set_cons_zero,List.set_cons_succ]
                have HQ7:=hide (Zac HQ.out hb7)
                clear hb7 hal hx6
                go_wp2_with fail
                go_roundw
                case rel=>exact ⟨k+1,by omega,by go_num,HQ7⟩
                case measure=>simp only [intOf];omega
               | false =>
                refine Zh0 wr wr b off len cap k g (by omega) z HX6.out x.r _ HK6.out hf6 HFT.out.key hal (Below.refl _ _) (by rfl) (by rfl) (by rfl) (by rfl) (by rfl) ?_
                intro u w7 hb7
                simp only [Act.put,List.setIfInBounds_toArray,List.set_cons_zero,List.set_cons_succ]
                have hne:x.r.key≠Fl.key z.r.key:=by
                 intro e
                 rw [← e,HKY.out] at hal
                 simp at hal
                have HQ7:=hide (Zac HQ.out hb7)
                have HX7:=hide (HX6.out.keep hb7 (Nat.le_refl _))
                have z0:=HX7.out.c0
                have HG7:=hide ((HGN.out.below HQ.out (Nat.le_refl _)).below hb7 (Nat.le_refl _))
                have HF7:=hide (HH.out.find w7 ⟨sa,sn,sc⟩ L z.r.key HG7.out hf6 HM.out)
                simp only [Sl.val] at HF7
                have HEQ:=hide (HOK.out.find _ hne)
                have HZF:=hide hf6
                clear hb7 hal hx6 hne hf6
                go_wp2_with fail
                refine HF7.out.mono ?_
                intro e w8 ht
                obtain⟨x8,b8,t8,he,hb8,hfx8,hfc8⟩:=ht.form
                subst he
                obtain⟨Wc,W9,hsa8,hsb8,hkx8,hkb8,hb9,hfk8⟩:=ZbK w8 x8 b8
                have hb89:=Zac hb8 hb9
                have HSA8:=hide hsa8
                have HSB8:=hide hsb8
                have HKX8:=hide hkx8
                have HKB8:=hide hkb8
                have HFX8:=hide (hfk8 hfx8)
                have HFC8:=hide hfc8
                have HQ9:=hide (Zac HQ7.out hb89)
                have HX9:=hide (HX7.out.keep hb89 (Nat.le_refl _))
                have HGX9:=hide (HGX.out.below HQ9.out (Nat.le_refl _))
                have y0:=HX9.out.c0
                have hs8:w8.heap.size+2≤W9.heap.size:=by have:=hkb8.lt;omega
                have HF9:=hide (HH.out.find W9 ⟨xa,xn,xc⟩ L' z.r.key HGX9.out HZF.out HOK.out.may)
                simp only [Sl.val] at HF9
                clear ht hb8 hfx8 hfc8 hsa8 hsb8 hkx8 hkb8 hb9 hfk8 hb89 HF7 z0 HX7 HG7
                unfold Rx.val Rw.val btV
                go_wp2_with (first | refine Zab _ rfl rfl 33 (.tmp 16) (.tmp 138) rfl (.pointer (some ⟨w8.heap.size,0,none⟩)) (.agg #[.float .f64 x8.r.key,.bool x8.r.dead,.slice x8.a x8.n x8.c,.int .i64 x8.r.wr,.int .i64 x8.r.cell,.int .i64 x8.r.no]) rfl rfl Wc HSA8.out ?_ | refine Zab _ rfl rfl 26 (.tmp 17) (.tmp 139) rfl (.pointer (some ⟨w8.heap.size+1,0,none⟩)) (.agg #[.int .i64 b8.1,.int .i64 b8.2]) rfl rfl W9 HSB8.out ?_)
                refine HF9.out.mono ?_
                intro e w10 ht
                obtain⟨x10,b10,t10,he,hb10,hfx10,hfc10⟩:=ht.form
                subst he
                obtain⟨hxx,hbb,htt⟩:=ZfT (w:=w10) (w':=w10) (w2:=w10) (w2':=w10) HEQ.out HFC8.out hfc10
                subst hbb htt
                obtain⟨Wd,W11,hsa10,hsb10,hkx10,hkb10,hb11,hfk10⟩:=ZbK w10 x10 b8
                have hb01:=Zac hb10 hb11
                have HSA10:=hide hsa10
                have HSB10:=hide hsb10
                have HQ11:=hide (Zac HQ9.out hb01)
                have hxa:=HKX8.out.keep hb01
                have hba:=HKB8.out.keep hb01
                have HSM:=hide (ZdL (x:=x8) (y:=x10) hxx W11 (HFX8.out.keep hb01 (Nat.le_refl _)) (hfk10 hfx10))
                have a0:=hxa.c0
                have a1:=hxa.c1
                have a2:=hxa.c2
                have a3:=hxa.c3
                have a4:=hxa.c4
                have a5:=hxa.c5
                have b0:=hkx10.c0
                have b1:=hkx10.c1
                have b2:=hkx10.c2
                have b3:=hkx10.c3
                have b4:=hkx10.c4
                have b5:=hkx10.c5
                have p0:=hba.c0
                have p1:=hba.c1
                have q0:=hkb10.c0
                have q1:=hkb10.c1
                have hs10:W9.heap.size≤w10.heap.size:=hb10.size
                simp only [Rx.val,Rw.val] at HSM
                clear ht hb10 hfx10 hfc10 hsa10 hsb10 hkx10 hkb10 hb11 hfk10 hb01 hxx hxa hba HF9 y0 HX9 HGX9 HKX8 HKB8 HFX8 HFC8 HEQ
                unfold Rx.val Rw.val btV
                go_wp2_with (first | refine Zab _ rfl rfl 33 (.tmp 19) (.tmp 149) rfl (.pointer (some ⟨w10.heap.size,0,none⟩)) (.agg #[.float .f64 x10.r.key,.bool x10.r.dead,.slice x10.a x10.n x10.c,.int .i64 x10.r.wr,.int .i64 x10.r.cell,.int .i64 x10.r.no]) rfl rfl Wd HSA10.out ?_ | refine Zab _ rfl rfl 26 (.tmp 20) (.tmp 150) rfl (.pointer (some ⟨w10.heap.size+1,0,none⟩)) (.agg #[.int .i64 b8.1,.int .i64 b8.2]) rfl rfl W11 HSB10.out ?_)
                refine HSM.out.mono ?_
                rintro e w12 ⟨rfl,hb12⟩
                have HQ12:=hide (Zac HQ11.out hb12)
                clear hb12 a0 a1 a2 a3 a4 a5 b0 b1 b2 b3 b4 b5 p0 p1 q0 q1
                go_wp2_with fail
                go_roundw
                case rel=>exact ⟨k+1,by omega,by go_num,HQ12⟩
                case measure=>simp only [intOf];omega
             · have j5:¬(k:Int)<(i:Int):=by omega
               have HG6:=hide (HGX.out.below HQ.out (Nat.le_refl _))
               have HM6:=hide HOK.out.may
               have HB6:=hide (Zac HBX.out HQ.out)
               go_wp2_with fail
               go_roundw
               case rel=>exact ⟨i+1,⟨xa,xn,xc⟩,L',by omega,by go_num,rfl,HG6,HM6,HB6⟩
               case measure=>simp only [intOf];omega
          · subst hc0
            go_wp2_with fail
            go_loopw [15] (fun kv wq=>∃k:Nat,k≤i∧kv=.int .i64 (k:Nat)∧Hid (Below wc.heap.size wc wq)) (fun kv _=>i-(intOf kv).toNat)
            case atStart=>exact ⟨0,Nat.zero_le _,rfl,Below.refl _ _⟩
            case round =>
             obtain⟨k,hk,rfl,HQ⟩:=hrel
             rcases Nat.lt_or_ge k i with hki | hki
             · have j5:(k:Int)<(i:Int):=by omega
               have hr6:=HR.out.keep (Zac HBX.out HQ.out) (Nat.le_refl _)
               obtain⟨b6,off6,ha6,hx6⟩:=hr6.at' k (by omega)
               cases ha6
               have hf6:=(hr6.fits _ (hr6.mem (j:=k) (by omega))).key
               obtain⟨z,hz⟩:∃z,z=l.getD k Rx.zero:=⟨_,rfl⟩
               rw [← hz] at hx6 hf6
               have HX6:=hide hx6
               have HK6:=hide (HKX.out.keep HQ.out)
               clear hr6 hz
               go_wp2_with fail
               refine Pl.q9 (ops:=Pl.find 19 ((Tryz.f5.body).getD .skip)) ?_
               cases hal:(Fl.key z.r.key == Fl.key x.r.key) with
               | true =>
                refine Zh1 wr wr b off len cap k g (by omega) z HX6.out x.r _ HK6.out hf6 HFT.out.key hal (Below.refl _ _) (by rfl) (by rfl) (by rfl) (by rfl) (by rfl) ?_
                intro u w7 hb7
                simp only [Act.put,List.setIfInBounds_toArray,List.set_cons_zero,List.set_cons_succ]
                have HQ7:=hide (Zac HQ.out hb7)
                clear hb7 hal hx6
                go_wp2_with fail
                go_roundw
                case rel=>exact ⟨k+1,by omega,by go_num,HQ7⟩
                case measure=>simp only [intOf];omega
               | false =>
                refine Zh0 wr wr b off len cap k g (by omega) z HX6.out x.r _ HK6.out hf6 HFT.out.key hal (Below.refl _ _) (by rfl) (by rfl) (by rfl) (by rfl) (by rfl) ?_
                intro u w7 hb7
                simp only [Act.put,List.setIfInBounds_toArray,List.set_cons_zero,List.set_cons_succ]
                have hne:x.r.key≠Fl.key z.r.key:=by
                 intro e
                 rw [← e,HKY.out] at hal
                 simp at hal
                have HQ7:=hide (Zac HQ.out hb7)
                have HX7:=hide (HX6.out.keep hb7 (Nat.le_refl _))
                have z0:=HX7.out.c0
                have HG7:=hide ((HGN.out.below HQ.out (Nat.le_refl _)).below hb7 (Nat.le_refl _))
                have HF7:=hide (HH.out.find w7 ⟨sa,sn,sc⟩ L z.r.key HG7.out hf6 HM.out)
                simp only [Sl.val] at HF7
                have HEQ:=hide (HOK.out.find _ hne)
                have HZF:=hide hf6
                clear hb7 hal hx6 hne hf6
                go_wp2_with fail
                refine HF7.out.mono ?_
                intro e w8 ht
                obtain⟨x8,b8,t8,he,hb8,hfx8,hfc8⟩:=ht.form
                subst he
                obtain⟨Wc,W9,hsa8,hsb8,hkx8,hkb8,hb9,hfk8⟩:=ZbK w8 x8 b8
                have hb89:=Zac hb8 hb9
                have HSA8:=hide hsa8
                have HSB8:=hide hsb8
                have HKX8:=hide hkx8
                have HKB8:=hide hkb8
                have HFX8:=hide (hfk8 hfx8)
                have HFC8:=hide hfc8
                have HQ9:=hide (Zac HQ7.out hb89)
                have HX9:=hide (HX7.out.keep hb89 (Nat.le_refl _))
                have HGX9:=hide (HGX.out.below HQ9.out (Nat.le_refl _))
                have y0:=HX9.out.c0
                have hs8:w8.heap.size+2≤W9.heap.size:=by have:=hkb8.lt;omega
                have HF9:=hide (HH.out.find W9 ⟨xa,xn,xc⟩ L' z.r.key HGX9.out HZF.out HOK.out.may)
                simp only [Sl.val] at HF9
                clear ht hb8 hfx8 hfc8 hsa8 hsb8 hkx8 hkb8 hb9 hfk8 hb89 HF7 z0 HX7 HG7
                unfold Rx.val Rw.val btV
                go_wp2_with (first | refine Zab _ rfl rfl 33 (.tmp 16) (.tmp 138) rfl (.pointer (some ⟨w8.heap.size,0,none⟩)) (.agg #[.float .f64 x8.r.key,.bool x8.r.dead,.slice x8.a x8.n x8.c,.int .i64 x8.r.wr,.int .i64 x8.r.cell,.int .i64 x8.r.no]) rfl rfl Wc HSA8.out ?_ | refine Zab _ rfl rfl 26 (.tmp 17) (.tmp 139) rfl (.pointer (some ⟨w8.heap.size+1,0,none⟩)) (.agg #[.int .i64 b8.1,.int .i64 b8.2]) rfl rfl W9 HSB8.out ?_)
                refine HF9.out.mono ?_
                intro e w10 ht
                obtain⟨x10,b10,t10,he,hb10,hfx10,hfc10⟩:=ht.form
                subst he
                obtain⟨hxx,hbb,htt⟩:=ZfT (w:=w10) (w':=w10) (w2:=w10) (w2':=w10) HEQ.out HFC8.out hfc10
                subst hbb htt
                obtain⟨Wd,W11,hsa10,hsb10,hkx10,hkb10,hb11,hfk10⟩:=ZbK w10 x10 b8
                have hb01:=Zac hb10 hb11
                have HSA10:=hide hsa10
                have HSB10:=hide hsb10
                have HQ11:=hide (Zac HQ9.out hb01)
                have hxa:=HKX8.out.keep hb01
                have hba:=HKB8.out.keep hb01
                have HSM:=hide (ZdL (x:=x8) (y:=x10) hxx W11 (HFX8.out.keep hb01 (Nat.le_refl _)) (hfk10 hfx10))
                have a0:=hxa.c0
                have a1:=hxa.c1
                have a2:=hxa.c2
                have a3:=hxa.c3
                have a4:=hxa.c4
                have a5:=hxa.c5
                have b0:=hkx10.c0
                have b1:=hkx10.c1
                have b2:=hkx10.c2
                have b3:=hkx10.c3
                have b4:=hkx10.c4
                have b5:=hkx10.c5
                have p0:=hba.c0
                have p1:=hba.c1
                have q0:=hkb10.c0
                have q1:=hkb10.c1
                have hs10:W9.heap.size≤w10.heap.size:=hb10.size
                simp only [Rx.val,Rw.val] at HSM
                clear ht hb10 hfx10 hfc10 hsa10 hsb10 hkx10 hkb10 hb11 hfk10 hb01 hxx hxa hba HF9 y0 HX9 HGX9 HKX8 HKB8 HFX8 HFC8 HEQ
                unfold Rx.val Rw.val btV
                go_wp2_with (first | refine Zab _ rfl rfl 33 (.tmp 19) (.tmp 149) rfl (.pointer (some ⟨w10.heap.size,0,none⟩)) (.agg #[.float .f64 x10.r.key,.bool x10.r.dead,.slice x10.a x10.n x10.c,.int .i64 x10.r.wr,.int .i64 x10.r.cell,.int .i64 x10.r.no]) rfl rfl Wd HSA10.out ?_ | refine Zab _ rfl rfl 26 (.tmp 20) (.tmp 150) rfl (.pointer (some ⟨w10.heap.size+1,0,none⟩)) (.agg #[.int .i64 b8.1,.int .i64 b8.2]) rfl rfl W11 HSB10.out ?_)
                refine HSM.out.mono ?_
                rintro e w12 ⟨rfl,hb12⟩
                have HQ12:=hide (Zac HQ11.out hb12)
                clear hb12 a0 a1 a2 a3 a4 a5 b0 b1 b2 b3 b4 b5 p0 p1 q0 q1
                go_wp2_with fail
                go_roundw
                case rel=>exact ⟨k+1,by omega,by go_num,HQ12⟩
                case measure=>simp only [intOf];omega
             · have j5:¬(k:Int)<(i:Int):=by omega
               have HG6:=hide (HGX.out.below HQ.out (Nat.le_refl _))
               have HM6:=hide HOK.out.may
               have HB6:=hide (Zac HBX.out HQ.out)
               go_wp2_with fail
               go_roundw
               case rel=>exact ⟨i+1,⟨xa,xn,xc⟩,L',by omega,by go_num,rfl,HG6,HM6,HB6⟩
               case measure=>simp only [intOf];omega
open Go.ChangeShapes Go.WideShapes Go.ChangeAt Go.RowKit
section
variable {H : Type} {enc : TypeId × Value → H} {w : World} {base : Nat} {spare : Nat → Bool} {held : Bool}
end
end Go.Proofs.YtdojdcncncgncaaGreat
