/-
  Lemmas.
-/
import Derived.Test.YtdojdcncncgncaaGreatKnbd
import Derived.Test.YtdojdcncncgncaaGreatKnbc
namespace Go.Proofs.YtdojdcncncgncaaGreat
open Go.RowKit
set_option linter.unusedVariables false
set_option maxRecDepth 100000
set_option maxHeartbeats 4000000
variable {i n k:Nat}{s:List (List Nat)}{l:List Lf}{r:Rw}
theorem Zk1 (w : World) (b : Bt) : ∃ W, (Instr.storeAt 26 (.pointer (some ⟨w.heap.size, 0, none⟩)) (.agg #[.int .i64 b.1, .int .i64 b.2])).run Tryz.prog (w.alloc (.cells #[.int .i64 0, .int .i64 0] 26)) = .ok () W ∧ BtBlk W w.heap.size b ∧ Below w.heap.size w W := by
 have hz := Zay w (0, 0)
 have hf := ZbL (w.alloc (.cells #[.int .i64 0, .int .i64 0] 26)) w.heap.size b
 exact ⟨_, ZdJ _ w.heap.size _ hz b, Za7 hz b, (Zaa w _).trans (hf.below (by rw [Zae]; omega) (fun k hk => by rw [hk]; exact Nat.le_refl _))⟩
theorem ZeL : ∀ {s : List (List Nat)}, (∀ x ∈ s, x.length = 52) → needS s = 53 * s.length
  | [], _ => rfl
  | x :: t, h => by
    have h1 := h x List.mem_cons_self
    have h2 := ZeL (s := t) (fun y hy => h y (List.mem_cons_of_mem _ hy))
    simp only [needS, List.length_cons, h1, h2]
    omega
theorem ZhT (h : ∀ x ∈ s, x.length = 52) : atE s = s.length := by
 rcases Zbf s with ⟨e, _⟩ | ⟨e, e2, _⟩
 · exact e
 · rw [Zcl e, h _ (List.getElem_mem e)] at e2
   cases e2
theorem Zi5 (h : ∀ x ∈ s, x.length = 52) (y : List Nat) : insS s y = s ++ [y] := by
 unfold insS
 rw [if_pos (ZhT h)]
theorem ZjP {y : List Nat} (h : ∀ x ∈ s, x.length = 52) (hy : y.length = 52) (hs : s.length ≤ 8) : insA s y = ⟨s ++ [y], (s.length : Int), 0⟩ := by
 unfold insA
 have hn : need (s ++ [y]) = 18 + 53 * (s.length + 1) := by
  unfold need
  rw [Zcc, ZeL h, hy]
  omega
 rw [if_neg (by omega), Zi5 h, ZhT h, if_neg (by rw [hn]; simp only [List.length_append, List.length_cons, List.length_nil]; omega)]
theorem Zfp {y : List Nat} (h : ∀ x ∈ s, x.length = 52) (hy : y.length = 52) (hs : s.length = 9) : (insA s y).e ≠ 0 := by
 unfold insA
 have hn : need (s ++ [y]) = 18 + 53 * (s.length + 1) := by
  unfold need
  rw [Zcc, ZeL h, hy]
  omega
 rw [if_neg (by omega), Zi5 h, if_pos (by rw [hn]; omega)]
 show (7 : Int) ≠ 0
 decide
structure Nine (kf : Nat → Nat) (l : List Lf) (n k i : Nat) : Prop where
  len : l.length = n
  may : MayH l
  cnt : ∀ a, a < n → (lf l a).slots.length = min 9 (k - 9 * a)
  full : ∀ a, a < n → ∀ x ∈ (lf l a).slots, x.length = 52
  keys : ∀ a b r, decH (cellH l a b) = some r → ∃ j, j < i ∧ r.key = Fl.key (kf j)
  few : k ≤ 9 * n
theorem Nine.next {kf : Nat → Nat} {l : List Lf} {n k i : Nat} (h : Nine kf l n k i) : Nine kf l n k (i + 1) :=
  ⟨h.len, h.may, h.cnt, h.full, fun a b r hr => by obtain ⟨j, hj, e⟩ := h.keys a b r hr; exact ⟨j, by omega, e⟩, h.few⟩
theorem Nine.start (kf : Nat → Nat) {n : Nat} (h1 : 1 ≤ n) (h2 : n ≤ 62) : Nine kf (ZaH n) n 0 0 := by
  refine ⟨by unfold ZaH; rw [List.length_replicate], Zca h1 h2, fun a ha => by rw [Zdk]; simp, fun a ha x hx => ?_, fun a b r hr => ?_, Nat.zero_le _⟩
  · rw [Zdk] at hx; cases hx
  · rw [ZbR, ZbW] at hr; cases hr
theorem Nine.new {kf:Nat→Nat}(h:Nine kf l n k i)(hk:r.key=Fl.key (kf i))(hinj:∀j,j<i→Fl.key (kf j)≠Fl.key (kf i)):findH l r.key=none:=by
 refine ZcP.2 (fun a b q hq e=>?_)
 obtain⟨j,hj,hqk⟩:=h.keys a b q hq
 rw [hqk,hk,Fl.key_key] at e
 exact hinj j hj e
theorem Nine.none {kf:Nat→Nat}(h:Nine kf l n k i)(hm:r.may=true)(hw:r.wr≠0)(hk:r.key=Fl.key (kf i))(hinj:∀j,j<i→Fl.key (kf j)≠Fl.key (kf i))(hfull:k=9*n):putH l r []=⟨l,(0,0),7⟩:=by
 have hr:roomH (hpB r) l 0=Option.none:=by
  refine Zbn.2 (fun m hm'=>Zfp (h.full m (by rw [← h.len];exact hm')) (Zdz hm) ?_)
  rw [h.cnt m (by rw [← h.len];exact hm')]
  have:=h.len
  omega
 rcases Zgb h.may hm hw (h.new hk hinj) with ⟨_,e⟩ | ⟨j,p⟩
 · exact e
 · rw [p.room] at hr
   cases hr
theorem Nine.put {kf:Nat→Nat}(h:Nine kf l n k i)(hm:r.may=true)(hw:r.wr≠0)(hf:r.fits)(hk:r.key=Fl.key (kf i))(hinj:∀j,j<i→Fl.key (kf j)≠Fl.key (kf i))(hlt:k<9*n) :
    ∃l',putH l r []=⟨l',(((k / 9:Nat):Int),((k % 9:Nat):Int)),0⟩∧Nine kf l' n (k+1) (i+1):=by
  have hq:k / 9<n:=by omega
  have hql:k / 9<l.length:=by rw [h.len];exact hq
  have h52:=Zdz hm
  have hcnt:(lf l (k / 9)).slots.length=k % 9:=by rw [h.cnt _ hq];omega
  have hins:=ZjP (h.full _ hq) h52 (by rw [hcnt];omega)
  have hroom:roomH (hpB r) l 0=some (k / 9):=by
   refine ZgJ hql (by rw [hins]) (fun m hm'=>Zfp (h.full m (by omega)) h52 ?_)
   rw [h.cnt m (by omega)]
   omega
  rcases Zgb h.may hm hw (h.new hk hinj) with ⟨e,_⟩ | ⟨j,p⟩
  · rw [hroom] at e;cases e
  · have ej:j=k / 9:=by
     have:=p.room
     rw [hroom] at this
     cases this
     rfl
    subst ej
    have hat:atE (lf l (k / 9)).slots=k % 9:=by rw [ZhT (h.full _ hq),hcnt]
    have his:=p.is
    rw [hat] at his
    have hps:(putL (lf l (k / 9)) r []).slots=(lf l (k / 9)).slots ++ [hpB r]:=by unfold putL;rw [hins]
    have ht:=ZgP p.hi [] p.ins
    refine⟨_,his,⟨by rw [List.length_set];exact h.len,p.mayH h.may hf,fun a ha=>?_,fun a ha x hx=>?_,fun a b q hd=>?_,by omega⟩⟩
    · by_cases e:k / 9=a
      · subst e
        rw [Zb0 p.hi,hps,List.length_append,hcnt]
        simp only [List.length_cons,List.length_nil]
        omega
      · rw [ZbH e,h.cnt a ha]
        omega
    · by_cases e:k / 9=a
      · subst e
        rw [Zb0 p.hi,hps] at hx
        rcases List.mem_append.1 hx with hx | hx
        · exact h.full _ hq x hx
        · rw [List.mem_singleton.1 hx];exact h52
      · rw [ZbH e] at hx
        exact h.full a ha x hx
    · by_cases e:a=k / 9∧b=atE (lf l (k / 9)).slots
      · obtain⟨rfl,rfl⟩:=e
        rw [ht.here,ZeA hm hf] at hd
        cases hd
        exact⟨i,Nat.lt_succ_self _,hk⟩
      · rw [ht.other a b e] at hd
        obtain⟨j,hj,e2⟩:=h.keys a b q hd
        exact⟨j,by omega,e2⟩
def kfN (i : Nat) : Nat := FloatKind.f64.nearest (i : Int)
theorem ZiH : (List.range 40).all (fun i => decide (kfN i < 18446744073709551616) && (List.range i).all (fun j => !(Fl.key (kfN j) == Fl.key (kfN i)))) = true := by kernel_rfl
theorem ZlS (h : i < 40) : kfN i < 18446744073709551616 := by
 have := List.all_eq_true.1 ZiH i (List.mem_range.2 h)
 simp only [Bool.and_eq_true, decide_eq_true_eq] at this
 exact this.1
theorem ZiI (h : i < 40) : ∀ j, j < i → Fl.key (kfN j) ≠ Fl.key (kfN i) := by
 intro j hj
 have := List.all_eq_true.1 ZiH i (List.mem_range.2 h)
 simp only [Bool.and_eq_true] at this
 have := List.all_eq_true.1 this.2 j (List.mem_range.2 hj)
 simpa using this
theorem ZkJ (i : Nat) (w : World) : (convert 3 23 (.int .i64 (i : Int))).run Tryz.prog w = .ok (.float .f64 (kfN i)) w := by
 have h1 : Tryz.prog.underlying 3 = some (.int .i64) := by kernel_rfl
 have h2 : Tryz.prog.underlying 23 = some (.float .f64) := by kernel_rfl
 simp [convert, run_underlying h1, run_underlying h2, Conv.intToFloat, kfN]
theorem Zlg (w:World)(x:Rx)(v:Nat) :
    ∃Wa W,(Instr.storeAt 33 (.pointer (some ⟨w.heap.size,0,none⟩)) (.agg #[.float .f64 x.r.key,.bool x.r.dead,.slice x.a x.n x.c,.int .i64 x.r.wr,.int .i64 x.r.cell,.int .i64 x.r.no])).run Tryz.prog (w.alloc (.cells #[.float .f64 0,.bool false,.slice none 0 0,.int .i64 0,.int .i64 0,.int .i64 0] 33))=.ok () Wa ∧
     (Instr.storeAt 23 (.pointer (some ⟨w.heap.size,0,none⟩)) (.float .f64 v)).run Tryz.prog Wa=.ok () W∧RwBlk W w.heap.size { x.r with key:=v } (.slice x.a x.n x.c)∧Below w.heap.size w W:=by
 have hsf:∀(w:World) (a:Addr) (m:Mode) (x:Nat),(store a (.float .f64 x) m).run Tryz.prog w=stored Tryz.prog w a (.float .f64 x) m:=fun w a m x=>run_store Tryz.prog w a _ m rfl
 obtain⟨Wa,hst,hk,hb⟩:=ZkV w x
 have c0:=hk.c0
 have f0:=hk.fz
 have hf:Frm (fun k=>k=w.heap.size) Wa (Wa.setCell ⟨w.heap.size,0,none⟩ (.float .f64 v)):=(Frm.refl (fun k=>k=w.heap.size) Wa).setCell (p:=⟨w.heap.size,0,none⟩) rfl _
 refine⟨Wa,Wa.setCell ⟨w.heap.size,0,none⟩ (.float .f64 v),hst,?_,?_,hb.trans (hf.below hb.size (fun k hk=>by rw [hk];exact Nat.le_refl _))⟩
 · simp [go_sem,Instr.storeAt,stored,hsf,c0,f0]
 · unfold RwBlk at *
   rw [heap_setCell_same Wa w.heap.size 0 _ 33 (.float .f64 v) hk]
   rfl
theorem ZlZ {F:Prop}(HS:ZkC F)(w:World)(nn:Nat)(hnn:nn<256)(a:Option Addr)(len cap:Nat)(l:List Rx)(h:Rz w a len l)(hlen:len≤9223372036854775807) :
    Calls Tryz.prog 6 #[.int .u8 (nn:Int),.slice a len cap] w fun e w'=>e=.returned (.bool true)∧Below w.heap.size w w':=by
  have hsf:∀(w:World) (a:Addr) (m:Mode) (x:Nat),(store a (.float .f64 x) m).run Tryz.prog w=stored Tryz.prog w a (.float .f64 x) m:=fun w a m x=>run_store Tryz.prog w a _ m rfl
  have HH:=hide HS
  have HR:=hide h
  have he:Calls Tryz.prog 28 #[.int .i64 (1+(nn:Int) % 3)] w (ZhK w (1+nn % 3)):=by
   have:=Zef w (1+nn % 3) (by omega)
   rwa [show (((1+nn % 3:Nat)):Int)=1+(nn:Int) % 3 by omega] at this
  have HE:=hide he
  clear h HS he
  obtain⟨n,hn⟩:∃n,n=1+nn % 3:=⟨_,rfl⟩
  rw [← hn] at HE
  have hn1:1≤n:=by omega
  have hn3:n≤3:=by omega
  go_enter Tryz.func6,Tryz.ntmps6
  go_wp2_with fail
  refine HE.out.mono ?_
  rintro e w1 ⟨s0,L0,rfl,hE,hL⟩
  have HB1:=hide hE.below
  have HG1:=hide (hE.gl (by rw [← hE.own.len,hL];omega))
  have HN1:Hid (Nine kfN (lfs L0) n 0 0):=by
   show Nine kfN (lfs L0) n 0 0
   rw [hE.lfs,hL]
   exact Nine.start kfN hn1 (by omega)
  clear hE HE hn
  go_wp2_with fail
  go_loopw [5,6,7] (fun v kv iv wr=>∃(i k:Nat) (s:Sl) (L:List Lb),i≤40∧iv=.int .i64 (i:Nat)∧kv=.int .i64 (k:Nat)∧v=.slice s.a s.len s.cap∧Hid (Gl (fun _=>True) wr s L)∧Hid (Nine kfN (lfs L) n k i)∧Hid (Below w.heap.size w wr)) (fun _ _ iv _=>41-(intOf iv).toNat)
  case atStart=>exact ⟨0,0,s0,L0,Nat.zero_le _,rfl,rfl,rfl,HG1,HN1,HB1⟩
  case round =>
   obtain⟨i,k,⟨sa,sn,sc⟩,L,hi,rfl,rfl,rfl,HG,HN,HB⟩:=hrel
   rcases Nat.lt_or_ge i len with hlt | hge
   case inr =>
    have j1:¬(i:Int)<(len:Int):=by omega
    have HAW:=hide (ZdW HH.out wr)
    go_wp2_with fail
    refine HAW.out.mono ?_
    rintro e w9 ⟨rfl,hb9⟩
    have HB9:=hide (Zac HB.out hb9)
    clear hb9
    go_wp2_with fail
    go_ret
    exact⟨rfl,HB9.out⟩
   have j1:(i:Int)<(len:Int):=by omega
   rcases Nat.lt_or_ge i 40 with hlt2 | hge
   case inr =>
    have j2:¬(i:Int)<(40:Int):=by omega
    have HAW:=hide (ZdW HH.out wr)
    go_wp2_with fail
    refine HAW.out.mono ?_
    rintro e w9 ⟨rfl,hb9⟩
    have HB9:=hide (Zac HB.out hb9)
    clear hb9
    go_wp2_with fail
    go_ret
    exact⟨rfl,HB9.out⟩
   have j2:(i:Int)<(40:Int):=by omega
   have hr:=HR.out.keep HB.out (Nat.le_refl _)
   obtain⟨b,off,ha,hx⟩:=hr.at' i hlt
   replace ha:a=some ⟨b,off,none⟩:=ha
   subst ha
   have hcol:=hr.cols _ (hr.mem hlt)
   have hfit:=hr.fits _ (hr.mem hlt)
   obtain⟨x,hx0⟩:∃x,x=l.getD i Rx.zero:=⟨_,rfl⟩
   rw [← hx0] at hcol hfit hx
   obtain⟨Wa,W2,hs1,hs2,hk2,hb2⟩:=Zlg wr x (kfN i)
   have c0:=hx.c0
   have c1:=hx.c1
   have c2:=hx.c2
   have c3:=hx.c3
   have c4:=hx.c4
   have c5:=hx.c5
   have HS1:=hide hs1
   have HS2:=hide hs2
   have HK2:=hide hk2
   have HB2:=hide (Zac HB.out hb2)
   have HG2:=hide (HG.out.below hb2 (Nat.le_refl _))
   have HF2:=hide (hcol.keep hb2 (Nat.le_refl _))
   have HFT:Hid (({ x.r with key:=kfN i }:Rw).fits):=⟨ZlS hlt2,hfit.xs,hfit.wr,hfit.cell,hfit.no⟩
   have HCV:=hide (ZkJ i)
   have d0:=hk2.c0
   have d1:=hk2.c1
   have d2:=hk2.c2
   have d3:=hk2.c3
   have d4:=hk2.c4
   have d5:=hk2.c5
   have hxn:x.n≤9223372036854775807:=hcol.big
   clear hr hx hcol hfit hx0 hs1 hs2 hk2 hb2
   simp only at d0 d1 d2 d3 d4 d5
   by_cases hcn:20<x.n
   · have j3:(20:Int)<(x.n:Int):=by omega
     go_wp2_with (first | refine Zab _ rfl rfl 33 (.tmp 8) (.tmp 30) rfl (.pointer (some ⟨wr.heap.size,0,none⟩)) (.agg #[.float .f64 x.r.key,.bool x.r.dead,.slice x.a x.n x.c,.int .i64 x.r.wr,.int .i64 x.r.cell,.int .i64 x.r.no]) rfl rfl Wa HS1.out ?_ | refine ZdN _ rfl 3 23 (.tmp 31) rfl (.int .i64 (i:Int)) (.float .f64 (kfN i)) rfl _ (HCV.out _) ?_ | refine Zab _ rfl rfl 23 (.tmp 33) (.tmp 32) rfl (.pointer (some ⟨wr.heap.size,0,none⟩)) (.float .f64 (kfN i)) rfl rfl W2 HS2.out ?_)
     go_roundw
     case rel=>exact ⟨i+1,k,⟨sa,sn,sc⟩,L,by omega,by go_num,rfl,rfl,HG2,HN.out.next,HB2⟩
     case measure=>simp only [intOf];omega
   · have j3:¬(20:Int)<(x.n:Int):=by omega
     have HMY:=hide (ZeO { x.r with key:=kfN i } x.a x.n x.c W2 HF2.out HFT.out)
     simp only [Rw.val] at HMY
     obtain⟨m,hm⟩:∃m,m=({ x.r with key:=kfN i }:Rw).may:=⟨_,rfl⟩
     rw [← hm] at HMY
     have HM:=hide hm
     clear hm
     go_wp2_with (first | refine Zab _ rfl rfl 33 (.tmp 8) (.tmp 30) rfl (.pointer (some ⟨wr.heap.size,0,none⟩)) (.agg #[.float .f64 x.r.key,.bool x.r.dead,.slice x.a x.n x.c,.int .i64 x.r.wr,.int .i64 x.r.cell,.int .i64 x.r.no]) rfl rfl Wa HS1.out ?_ | refine ZdN _ rfl 3 23 (.tmp 31) rfl (.int .i64 (i:Int)) (.float .f64 (kfN i)) rfl _ (HCV.out _) ?_ | refine Zab _ rfl rfl 23 (.tmp 33) (.tmp 32) rfl (.pointer (some ⟨wr.heap.size,0,none⟩)) (.float .f64 (kfN i)) rfl rfl W2 HS2.out ?_)
     refine HMY.out.mono ?_
     rintro e w3 ⟨rfl,hb3⟩
     have HB3:=hide (Zac HB2.out hb3)
     have HG3:=hide (HG2.out.below hb3 (Nat.le_refl _))
     have HF3:=hide (HF2.out.keep hb3 (Nat.le_refl _))
     have hk3:=HK2.out.keep hb3
     have d0:=hk3.c0
     have d1:=hk3.c1
     have d2:=hk3.c2
     have d3:=hk3.c3
     have d4:=hk3.c4
     have d5:=hk3.c5
     simp only at d0 d1 d2 d3 d4 d5
     clear hb3 hk3 HMY c0 c1 c2 c3 c4 c5 HS1 HS2 HCV
     cases m with
     | false =>
      go_wp2_with fail
      go_roundw
      case rel=>exact ⟨i+1,k,⟨sa,sn,sc⟩,L,by omega,by go_num,rfl,rfl,HG3,HN.out.next,HB3⟩
      case measure=>simp only [intOf];omega
     | true =>
      by_cases hwr:x.r.wr=0
      · have j4:x.r.wr=0:=hwr
        go_wp2_with fail
        go_roundw
        case rel=>exact ⟨i+1,k,⟨sa,sn,sc⟩,L,by omega,by go_num,rfl,rfl,HG3,HN.out.next,HB3⟩
        case measure=>simp only [intOf];omega
      · have j4:¬x.r.wr=0:=hwr
        have hmay:({ x.r with key:=kfN i }:Rw).may=true:=HM.out.symm
        have hkey:({ x.r with key:=kfN i }:Rw).key=Fl.key (kfN i):=(Zdj hmay).symm
        have hP:=HH.out.put w3 ⟨sa,sn,sc⟩ L { x.r with key:=kfN i } x.a x.n x.c Sl.nil [] HG3.out HF3.out HFT.out (Gi.none w3) HN.out.may
        have hsn:sn=n:=by
         have q1:=HG3.out.len
         have q2:=HN.out.len
         rw [Za6] at q2
         simp only at q1
         omega
        have hkn:=HN.out.few
        subst hsn
        have hk27:k≤27:=by omega
        by_cases hfull:k=9*sn
        · have j5:(k:Int)=9*(sn:Int):=by omega
          rw [HN.out.none hmay hwr hkey (ZiI hlt2) hfull] at hP
          have HP:=hide hP
          simp only [Rw.val,Sl.val,Sl.nil] at HP
          clear hP hmay hkey hkn
          go_wp2_with fail
          refine HP.out.mono ?_
          rintro e w4 ⟨hb4,⟨ta,tn,tc⟩,L4,rfl,hg4,hl4⟩
          obtain⟨W5,hst5,hbt5,hb5⟩:=Zk1 w4 (0,0)
          have HST5:=hide hst5
          have HB5:=hide (Zac HB3.out (Zac hb4 hb5))
          have HG5:=hide ((HG3.out.below hb4 (Nat.le_refl _)).below hb5 (Nat.le_refl _))
          clear hb4 hb5 hst5 hbt5 hg4 hl4 HP d0 d1 d2 d3 d4 d5
          unfold btV
          go_wp2_with (refine Zab _ rfl rfl 26 (.tmp 10) (.tmp 53) rfl (.pointer (some ⟨w4.heap.size,0,none⟩)) (.agg #[.int .i64 0,.int .i64 0]) rfl rfl W5 HST5.out ?_)
          go_roundw
          case rel=>exact ⟨i+1,k,⟨sa,sn,sc⟩,L,by omega,by go_num,by rw [j5],rfl,HG5,HN.out.next,HB5⟩
          case measure=>simp only [intOf];omega
        · have j5:¬(k:Int)=9*(sn:Int):=by omega
          obtain⟨l',hput,hnine⟩:=HN.out.put hmay hwr HFT.out hkey (ZiI hlt2) (by omega)
          obtain⟨q0,hq0⟩:∃q:Int,q=((k / 9:Nat):Int):=⟨_,rfl⟩
          obtain⟨q1,hq1⟩:∃q:Int,q=((k % 9:Nat):Int):=⟨_,rfl⟩
          rw [← hq0,← hq1] at hput
          have HQ0:=hide hq0
          have HQ1:=hide hq1
          clear hq0 hq1
          rw [hput] at hP
          have HP:=hide hP
          have HN':=hide hnine
          simp only [Rw.val,Sl.val,Sl.nil] at HP
          clear hP hput hnine hmay hkey hkn
          go_wp2_with fail
          refine HP.out.mono ?_
          rintro e w4 ⟨hb4,⟨ta,tn,tc⟩,L4,rfl,hg4,hl4⟩
          obtain⟨W5,hst5,hbt5,hb5⟩:=Zk1 w4 (q0,q1)
          have HST5:=hide hst5
          have p0:=hbt5.c0
          have p1:=hbt5.c1
          simp only at p0 p1
          have HB5:=hide (Zac HB3.out (Zac hb4 hb5))
          have HG5:=hide (hg4.below hb5 (Nat.le_refl _))
          have HL4:=hide hl4
          clear hb4 hb5 hst5 hbt5 hg4 hl4 HP d0 d1 d2 d3 d4 d5
          unfold btV
          go_wp2_with (refine Zab _ rfl rfl 26 (.tmp 10) (.tmp 53) rfl (.pointer (some ⟨w4.heap.size,0,none⟩)) (.agg #[.int .i64 q0,.int .i64 q1]) rfl rfl W5 HST5.out ?_)
          all_goals first | (exfalso;have e0:=HQ0.out;have e1:=HQ1.out;rename_i hh;(try simp at hh);omega) | skip
          go_roundw
          case rel=>exact ⟨i+1,k+1,⟨ta,tn,tc⟩,L4,by omega,by go_num,by go_num,rfl,HG5,(by show Nine kfN (lfs L4) sn (k+1) (i+1);rw [HL4.out];exact HN'.out),HB5⟩
          case measure=>simp only [intOf];omega
open Go.ChangeShapes Go.WideShapes Go.ChangeAt Go.RowKit
section
variable {H : Type} {enc : TypeId × Value → H} {w : World} {base : Nat} {spare : Nat → Bool} {held : Bool}
end
end Go.Proofs.YtdojdcncncgncaaGreat
