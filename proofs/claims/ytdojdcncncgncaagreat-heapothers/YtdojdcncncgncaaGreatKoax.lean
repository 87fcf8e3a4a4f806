/-
  Lemmas.
-/
import Derived.Test.YtdojdcncncgncaaGreatKoar
import Derived.Test.YtdojdcncncgncaaGreatKoaw
namespace Go.Proofs.YtdojdcncncgncaaGreat
open Go.RowKit
set_option linter.unusedVariables false
set_option maxRecDepth 100000
set_option maxHeartbeats 4000000
variable {w w' w0:World}{R:List Rx}{x:Bt}{s s4 s5:Sl}{p b i o:Nat}{B:List Bt}
structure Lb where
  u : Sl
  v : Sl
  t : List Int
  l : List Sb
def Lb.zero : Lb := ⟨Sl.nil, Sl.nil, [], []⟩
def Lb.lf (x : Lb) : Lf := ⟨x.t, bss x.l⟩
def lfs (L : List Lb) : List Lf := L.map Lb.lf
theorem ZaA (L : List Lb) : (lfs L).length = L.length := by simp [lfs]
theorem Zck (L : List Lb) (i : Nat) : lf (lfs L) i = (L.getD i Lb.zero).lf := by
 unfold lf lfs
 by_cases h : i < L.length
 · simp [List.getD, h]
 · have h' : L.length ≤ i := Nat.le_of_not_lt h
   simp [List.getD, h', Lb.zero, Lb.lf, Lf.zero, bss]
theorem Zk1 (L : List Lb) (i : Nat) (x : Lb) : lfs (L.set i x) = (lfs L).set i x.lf := by simp [lfs, List.map_set]
structure Gl (D : Nat → Prop) (w : World) (s : Sl) (L : List Lb) : Prop where
  len : L.length = s.len
  nil : s.a = none → s.cap = 0
  le : s.len ≤ s.cap
  big : s.len ≤ 900
  home : ∀ ad, s.a = some ad → 0 < s.len → D ad.block
  cell : ∀ i, i < s.len → ∃ b off, s.a = some ⟨b, off, none⟩ ∧ w.cell? ⟨b, off + i * 2, none⟩ = some (L.getD i Lb.zero).u.val ∧ w.cell? ⟨b, off + i * 2 + 1, none⟩ = some (L.getD i Lb.zero).v.val
  it : ∀ x ∈ L, Gi D w x.u x.t ∧ Gb D w x.v x.l
theorem Zey {L : List Lb} {i : Nat} (h : i < L.length) : L.getD i Lb.zero ∈ L := by simp [List.getD, h]
theorem Gl.keep {D : Nat → Prop} {L : List Lb} (h : Gl D w s L) (hk : Kept D w w') : Gl D w' s L := by
 refine ⟨h.len, h.nil, h.le, h.big, h.home, fun i hi => ?_, fun x hx => ⟨(h.it x hx).1.keep hk, (h.it x hx).2.keep hk⟩⟩
 obtain ⟨b, off, ha, c0, c1⟩ := h.cell i hi
 have hD := h.home _ ha (by omega)
 exact ⟨b, off, ha, hk.cell c0 hD, hk.cell c1 hD⟩
theorem Gl.below {D : Nat → Prop} {B : Nat} {w w' : World} {s : Sl} {L : List Lb} (h : Gl D w s L) (hb : Below B w w') (hB : w.heap.size ≤ B) : Gl D w' s L := h.keep (Kept.all hb hB)
theorem Gl.wide {D E : Nat → Prop} {w : World} {s : Sl} {L : List Lb} (h : Gl D w s L) (hE : ∀ k, D k → E k) : Gl E w s L :=
  ⟨h.len, h.nil, h.le, h.big, fun ad ha hl => hE _ (h.home ad ha hl), h.cell, fun x hx => ⟨(h.it x hx).1.wide hE, (h.it x hx).2.wide hE⟩⟩
theorem Gl.at {D : Nat → Prop} {w : World} {s : Sl} {L : List Lb} (h : Gl D w s L) {i : Nat} (hi : i < s.len) : Gi D w (L.getD i Lb.zero).u (L.getD i Lb.zero).t ∧ Gb D w (L.getD i Lb.zero).v (L.getD i Lb.zero).l :=
  h.it _ (Zey (by rw [h.len]; exact hi))
theorem Zc4 (b o len cap k:Nat)(hk:k<len)(w:World):(Instr.indexAt 22 (.slice (some ⟨b,o,none⟩) len cap) (.int .i64 (k:Nat))).run Tryz.prog w=.ok (.pointer (some ⟨b,o+k*2,none⟩)) w:=by
 have h22:Tryz.prog.underlying 22=some (.slice (Tryz.prog.elem 22)):=by kernel_rfl
 have h1:(0:Int)≤(k:Int):=by omega
 simp [go_sem,Instr.indexAt,run_underlying h22,h1,Addr.add_lit]
 omega
theorem ZaU {u v : Sl} (c0 : w.cell? ⟨b, o, none⟩ = some u.val) (c1 : w.cell? ⟨b, o + 1, none⟩ = some v.val) : (Instr.loadAt 67 (.pointer (some ⟨b, o, none⟩))).run Tryz.prog w = .ok (lfV u v) w := by
 unfold Sl.val at c0 c1
 simp [go_sem, c0, c1, lfV, Sl.val]
structure ColF (w : World) (x : Rx) : Prop where
  fs : Fs w x.a x.n x.c x.r.xs
  home : ∀ b off, x.a = some ⟨b, off, none⟩ → 0 < x.n → ∃ C fr, w.heap[b]? = some (Obj.cells C 23 fr)
theorem ColF.colR {w : World} {x : Rx} (h : ColF w x) (w0 : World) : ColR w0 w x := ⟨h.fs, fun b off ha hn => .inr (h.home b off ha hn)⟩
theorem ColF.frm {F:Nat→Prop}{W:World}{x:Rx}(h:ColF w x)(f:Frm F w W)(hF:∀k,F k→∀C fr,w.heap[k]? ≠ some (Obj.cells C 23 fr)):ColF W x:=by
 have hsame:∀b off,x.a=some ⟨b,off,none⟩→0<x.n→W.heap[b]? = w.heap[b]?:=by
  intro b off ha hn
  obtain⟨C,fr,hk⟩:=h.home b off ha hn
  exact f.block b (Array.getElem?_eq_some_iff.1 hk).1 (fun e=>hF b e C fr hk)
 refine⟨h.fs.same hsame,fun b off ha hn=>?_⟩
 obtain⟨C,fr,hk⟩:=h.home b off ha hn
 exact⟨C,fr,(hsame b off ha hn).trans hk⟩
theorem ColF.keep {w W : World} {x : Rx} (h : ColF w x) (hb : Below w.heap.size w W) : ColF W x := h.frm (F := fun _ => False) (Frm.ofBelow hb) (fun _ h => h.elim)
theorem ColF.owns {base : Nat} {u : Rw} {a : Option Addr} {n c : Nat} (h : OwnsV 23 w base (.slice a n c) (fVals u.xs)) (hf : Fs w a n c u.xs) : ColF w ⟨u, a, n, c⟩ := by
 refine ⟨hf, fun b off ha hn => ?_⟩
 rcases h.2 with ⟨hv, h0⟩ | ⟨g, cp, cur, hv, _, hg, _⟩
 · simp only [Value.slice.injEq] at hv
   simp only at ha
   rw [hv.1] at ha
   cases ha
 · simp only [Value.slice.injEq] at hv
   simp only at ha
   rw [hv.1] at ha
   cases ha
   exact ⟨_, _, hg⟩
structure AllI (w0 w : World) (s4 s5 : Sl) (R : List Rx) (B : List Bt) : Prop where
  rows : Rq w0 w s4 R
  bts : Zeb w s5 B
  new : ∀ k, s5.blk = some k → w0.heap.size ≤ k
  below : Below w0.heap.size w0 w
  flt : ∀ x ∈ R, ColF w x
theorem AllI.start (w : World) : AllI w ((w.alloc (.cells #[] 33)).alloc (.cells #[] 26)) ⟨some ⟨w.heap.size, 0, none⟩, 0, 0⟩ ⟨some ⟨(w.alloc (.cells #[] 33)).heap.size, 0, none⟩, 0, 0⟩ [] [] := by
 have h1 := Zaa w (.cells #[] 33)
 have h2 := Zaa (w.alloc (.cells #[] 33)) (.cells #[] 26)
 refine ⟨(Rq.new0 w w (Below.refl _ _)).keep h2, Zeb.new0 _, fun k hk => ?_, Zac h1 h2, fun x hx => by cases hx⟩
 have e : some (w.alloc (.cells #[] 33)).heap.size = some k := hk
 cases e
 exact h1.size
theorem AllI.keep {w0 w w' : World} {s4 s5 : Sl} {R : List Rx} {B : List Bt} (h : AllI w0 w s4 s5 R B) (hb : Below w.heap.size w w') : AllI w0 w' s4 s5 R B :=
  ⟨h.rows.keep hb, Own.frame h.bts (fun k hk => hb.block k (Own.lt h.bts hk)), h.new, Zac h.below hb, fun x hx => (h.flt x hx).keep hb⟩
theorem AllI.row (h:AllI w0 w s4 s5 R B)(x:Rx)(hx:ColF w x)(hf:x.r.fits)(hl:R.length+1≤1000000) :
    ∃s' W,(∀ty,(Builtin.append_ #[38,38] ty #[s4.val,.slice (some ⟨w.heap.size,0,none⟩) 1 1]).run Tryz.prog (w.alloc (.cells #[.float .f64 x.r.key,.bool x.r.dead,.slice x.a x.n x.c,.int .i64 x.r.wr,.int .i64 x.r.cell,.int .i64 x.r.no] 33))=.ok s'.val W)∧AllI w0 W s' s5 (R ++ [x]) B:=by
  obtain⟨s',W,hrun,hq,hfr⟩:=h.rows.one x (hx.colR w0) hf hl
  have hF:∀k,s4.blk=some k→∀C fr,w.heap[k]? ≠ some (Obj.cells C 23 fr):=by
   intro k hk C fr hc
   obtain⟨cur,hcur⟩:=h.rows.own.kind hk
   rw [hc] at hcur
   simp only [Option.some.injEq,Obj.cells.injEq] at hcur
   exact absurd hcur.2.1 (by decide)
  refine⟨s',W,hrun,hq,Own.frame h.bts (fun k hk=>hfr.block k (Own.lt h.bts hk) (fun e=>Own.apart h.rows.own h.bts (by decide) k e hk)),h.new,hq.below,fun y hy=>?_⟩
  rcases List.mem_append.1 hy with hy | hy
  · exact(h.flt y hy).frm hfr hF
  · rw [List.mem_singleton.1 hy]
    exact hx.frm hfr hF
theorem AllI.bt (h:AllI w0 w s4 s5 R B)(x:Bt)(hl:B.length+1≤1000000) :
    ∃s' W,(∀ty,(Builtin.append_ #[82,82] ty #[s5.val,.slice (some ⟨w.heap.size,0,none⟩) 1 1]).run Tryz.prog (w.alloc (.cells #[.int .i64 x.1,.int .i64 x.2] 26))=.ok s'.val W)∧AllI w0 W s4 s' R (B ++ [x]):=by
  obtain⟨s',W,hrun,ho,hfr,hbk⟩:=Zeb.one h.bts x hl
  have hb:Below w0.heap.size w0 W:=h.below.trans (hfr.below h.below.size (fun k e=>h.new k e))
  have hF:∀k,s5.blk=some k→∀C fr,w.heap[k]? ≠ some (Obj.cells C 23 fr):=by
   intro k hk C fr hc
   obtain⟨cur,hcur⟩:=Own.kind h.bts hk
   rw [hc] at hcur
   simp only [Option.some.injEq,Obj.cells.injEq] at hcur
   exact absurd hcur.2.1 (by decide)
  refine⟨s',W,hrun,⟨Own.frame h.rows.own (fun k hk=>hfr.block k (h.rows.own.lt hk) (fun e=>Own.apart h.rows.own h.bts (by decide) k hk e)),h.rows.new,hb,fun y hy=>((h.flt y hy).frm hfr hF).colR w0,h.rows.fits⟩,ho,fun k hk=>?_,hb,fun y hy=>(h.flt y hy).frm hfr hF⟩
  rcases hbk with e | e
  · exact h.new k (by rw [← e];exact hk)
  · exact Nat.le_trans h.below.size (e k hk)
def hrsR (l : List Hr) : List Rw := l.map Hr.r
def hrsB (l : List Hr) : List Bt := l.map fun h => ((h.i : Int), (h.k : Int))
structure ZaS (w w' : World) (s4 s5 : Sl) (R : List Rx) (l : List Hr) : Prop where
  i : AllI w w' s4 s5 R (hrsB l)
  r : rws R = hrsR l
def ZmB (w : World) (l : List Hr) (e : Ending) (w' : World) : Prop := ∃ (s4 s5 : Sl) (R : List Rx), e = .returned (.tuple #[.slice s4.a s4.len s4.cap, .slice s5.a s5.len s5.cap]) ∧ ZaS w w' s4 s5 R l
theorem Zdw (i : Nat) : ∀ (s : List (List Nat)) (k : Nat), (rowsS i s k).length ≤ s.length
  | [], _ => by simp [rowsS]
  | x :: s, k => by
    have := Zdw i s (k + 1)
    simp only [rowsS, List.length_append, List.length_cons]
    cases decH x <;> simp only [List.length_nil, List.length_cons] <;> omega
theorem Ziz : ∀ (l : List Lf) (i : Nat), (∀ f ∈ l, f.slots.length ≤ 1000) → (rowsH l i).length ≤ l.length * 1000
  | [], _, _ => by simp [rowsH]
  | f :: l, i, h => by
    have h1 := Ziz l (i + 1) (fun g hg => h g (List.mem_cons_of_mem _ hg))
    have h2 := Zdw i f.slots 0
    have h3 := h f (List.mem_cons_self ..)
    simp only [rowsH, List.length_append, List.length_cons]
    omega
theorem Gl.few {D:Nat→Prop}{L:List Lb}(h:Gl D w s L)(i k:Nat)(hi:i≤s.len):(rowsH ((lfs L).take i) 0 ++ rowsS i ((L.getD i Lb.zero).lf.slots.take k) 0).length≤901000:=by
 have hs:∀f∈lfs L,f.slots.length≤1000:=by
  intro f hf
  obtain⟨x,hx,rfl⟩:=List.mem_map.1 hf
  have:=(h.it x hx).2
  show (bss x.l).length≤1000
  rw [Zah,this.len]
  exact this.big
 have h1:=Ziz ((lfs L).take i) 0 (fun f hf=>hs f (List.mem_of_mem_take hf))
 have h2:=Zdw i ((L.getD i Lb.zero).lf.slots.take k) 0
 have h3:(L.getD i Lb.zero).lf.slots.length≤1000:=by
  rw [← Zck]
  rcases Nat.lt_or_ge i (lfs L).length with hlt | hge
  · exact hs _ (Zbc hlt)
  · have e:lf (lfs L) i=Lf.zero:=by simp [lf,List.getD,List.getElem?_eq_none hge]
    rw [e]
    exact Nat.zero_le _
 have h4:=h.big
 rw [List.length_append]
 rw [List.length_take] at h1 h2
 have h5:min i (lfs L).length*1000≤900*1000:=Nat.mul_le_mul_right _ (by omega)
 omega
theorem Zmh {D:Nat→Prop}(w:World)(s:Sl)(L:List Lb)(h:Gl D w s L) :
    Calls Tryz.prog 42 #[s.val] w (ZmB w (allH (lfs L))):=by
  obtain⟨a,len,cap⟩:=s
  have hsf:∀(w:World) (a:Addr) (m:Mode) (x:Nat),(store a (.float .f64 x) m).run Tryz.prog w=stored Tryz.prog w a (.float .f64 x) m:=fun w a m x=>run_store Tryz.prog w a _ m rfl
  have HS:=hide (AllI.start w)
  have H:=hide h
  have hbig:len≤900:=h.big
  have HL:Hid (L.length=len):=h.len
  clear h
  rw [Zaf] at HS
  unfold Sl.val
  simp only
  go_enter Tryz.func42,Tryz.ntmps42
  go_wp2_with fail
  generalize (w.alloc (.cells #[] 33)).alloc (.cells #[] 26)=W0 at *
  go_loopw [4,5,6] (fun v4 v5 iv wr=>∃(i:Nat) (s4 s5:Sl) (R:List Rx),i≤len∧iv=.int .i64 (i:Nat)∧v4=.slice s4.a s4.len s4.cap∧v5=.slice s5.a s5.len s5.cap∧Hid (ZaS w wr s4 s5 R (rowsH ((lfs L).take i) 0))) (fun _ _ iv _=>len-(intOf iv).toNat)
  case atStart=>exact ⟨0,_,_,[],Nat.zero_le _,rfl,rfl,rfl,⟨HS.out,rfl⟩⟩
  case round =>
   obtain⟨i,s4,s5,R,hi,rfl,rfl,rfl,hI⟩:=hrel
   rcases Nat.lt_or_ge i len with hlt | hge
   · have j1:(i:Int)<(len:Int):=by omega
     have hgw:=H.out
     have hlt':i<(Sl.mk a len cap).len:=hlt
     obtain⟨b,off,ha,c0,c1⟩:=hgw.cell i hlt'
     replace ha:a=some ⟨b,off,none⟩:=ha
     subst ha
     have HFW:=hide (hgw.few i · (Nat.le_of_lt hlt'))
     have hit:=(hgw.at hlt').2
     obtain⟨x,hx⟩:∃x,x=L.getD i Lb.zero:=⟨_,rfl⟩
     rw [← hx] at c1 hit HFW
     have HXI:=hide hx
     obtain⟨xu,⟨va,vn,vc⟩,xt,xl⟩:=x
     have hvl:xl.length=vn:=hit.len
     have hvb:vn≤1000:=hit.big
     have HGB:Hid (Gb D w ⟨va,vn,vc⟩ xl):=hit
     have HF:Hid ((Lb.mk xu ⟨va,vn,vc⟩ xt xl).lf=lf (lfs L) i):=by show _=_;rw [Zck,hx]
     have HSL:Hid ((lf (lfs L) i).slots=bss xl):=by show _=_;rw [← HF.out];rfl
     have HSN:Hid ((bss xl).length=vn):=by show _=_;rw [Zah];exact hvl
     have HII:Hid (ZaS w wr s4 s5 R (rowsH ((lfs L).take i) 0 ++ rowsS i ((bss xl).take 0) 0)):=by
      show ZaS _ _ _ _ _ _
      rw [List.take_zero]
      unfold rowsS
      rw [List.append_nil]
      exact hI.out
     unfold Sl.val at c1
     simp only at c1
     have HC1:=hide c1
     have HBLT:=hide (World.block_lt_of_cell? _ _ c1)
     clear hgw hit hx hI c0 hvl
     go_wp2_with fail
     go_loopw [4,5,7] (fun v4 v5 kv wr2=>∃(k:Nat) (s4 s5:Sl) (R:List Rx),k≤vn∧kv=.int .i64 (k:Nat)∧v4=.slice s4.a s4.len s4.cap∧v5=.slice s5.a s5.len s5.cap∧Hid (ZaS w wr2 s4 s5 R (rowsH ((lfs L).take i) 0 ++ rowsS i ((bss xl).take k) 0))) (fun _ _ kv _=>vn-(intOf kv).toNat)
     case atStart=>exact ⟨0,s4,s5,R,Nat.zero_le _,rfl,rfl,rfl,HII⟩
     case round =>
      rename World=>wr2
      obtain⟨k,s4,s5,R,hk,rfl,rfl,rfl,hI2⟩:=hrel
      have hW2:=hide hI2.out.i.below
      have d1:wr2.cell? ⟨b,off+i*2+1,none⟩=some (.slice va vn vc):=(hW2.out.cell (HBLT.out)).trans HC1.out
      rcases Nat.lt_or_ge k vn with hkl | hkg
      · have j2:(k:Int)<(vn:Int):=by omega
        have hgb:=HGB.out.below hW2.out (Nat.le_refl _)
        have hkl':k<(Sl.mk va vn vc).len:=hkl
        obtain⟨vb,vo,hva,e0⟩:=hgb.cell k hkl'
        replace hva:va=some ⟨vb,vo,none⟩:=hva
        subst hva
        have hcm:=(hgb.at hkl').1
        obtain⟨⟨sa,sn,sc⟩,hsb⟩:∃s,s=(xl.getD k Sb.zero).s:=⟨_,rfl⟩
        rw [← hsb] at e0 hcm
        have hD:=hide (ZlB sa sn sc (sl (bss xl) k) wr2 hcm.came)
        unfold Sl.val at e0
        simp only at e0
        have hfew:=HFW.out k
        rw [HF.out,HSL.out] at hfew
        have hsn:=Zf6 (i:=i) (s:=bss xl) (k:=k) (by rw [HSN.out];exact hkl)
        have HSNOC:=hide hsn
        have HFEW:=hide hfew
        have HI2:=hide hI2.out
        clear hgb hcm hsb hsn hfew hI2 HII
        go_wp2_with fail
        refine hD.out.mono ?_
        intro e w3 ht
        have HI3:Hid (ZaS w w3 s4 s5 R (rowsH ((lfs L).take i) 0 ++ rowsS i ((bss xl).take k) 0)):=⟨HI2.out.i.keep ht.1,HI2.out.r⟩
        cases hd:decH (sl (bss xl) k) with
        | none =>
         have hre:=ht.2.1 hd
         subst hre
         rw [hd] at HSNOC
         simp only [List.append_nil] at HSNOC
         have hA:=Zaa w3 (.cells #[.float .f64 0,.bool false,.slice none 0 0,.int .i64 0,.int .i64 0,.int .i64 0] 33)
         have HI4:Hid (ZaS w (w3.alloc (.cells #[.float .f64 0,.bool false,.slice none 0 0,.int .i64 0,.int .i64 0,.int .i64 0] 33)) s4 s5 R (rowsH ((lfs L).take i) 0 ++ rowsS i ((bss xl).take (k+1)) 0)):=by
          show ZaS _ _ _ _ _ _
          rw [HSNOC.out]
          exact⟨HI3.out.i.keep hA,HI3.out.r⟩
         clear ht hd hD HI2 HI3 hA d1 e0
         unfold ZcI
         go_wp2_with fail
         go_roundw
         case rel=>exact ⟨k+1,s4,s5,R,by omega,by go_num,rfl,rfl,HI4⟩
         case measure=>simp only [intOf];omega
        | some r =>
         obtain⟨hrf,ra,rl,rc,hre,hfs,hown⟩:=ht.2.2 r hd
         subst hre
         rw [hd] at HSNOC
         simp only at HSNOC
         have hA:=Zaa w3 (.cells #[.float .f64 r.key,.bool r.dead,.slice ra rl rc,.int .i64 r.wr,.int .i64 r.cell,.int .i64 r.no] 33)
         have hX:=Zai w3 r (.slice ra rl rc)
         have hI4:=HI3.out.i.keep hA
         have hcl:ColF (w3.alloc (.cells #[.float .f64 r.key,.bool r.dead,.slice ra rl rc,.int .i64 r.wr,.int .i64 r.cell,.int .i64 r.no] 33)) ⟨r,ra,rl,rc⟩:=(ColF.owns hown hfs).keep hA
         unfold Rw.val
         have hst:=Zcu r.key r.dead ra rl rc r.wr r.cell r.no w3
         generalize hW4:w3.alloc (.cells #[.float .f64 r.key,.bool r.dead,.slice ra rl rc,.int .i64 r.wr,.int .i64 r.cell,.int .i64 r.no] 33)=W4 at hX hI4 hcl hst
         have hRl:R.length=(rowsH ((lfs L).take i) 0 ++ rowsS i ((bss xl).take k) 0).length:=by
          have:=congrArg List.length HI3.out.r
          rw [ZkX] at this
          rw [this]
          simp [hrsR]
         have hfw:=HFEW.out
         obtain⟨s4',W5,hrun5,hI5⟩:=hI4.row ⟨r,ra,rl,rc⟩ hcl hrf (by omega)
         obtain⟨s5',W6,hrun6,hI6⟩:=hI5.bt ((i:Int),(k:Int)) (by simp only [hrsB,List.length_map];omega)
         have HR5:=hide hrun5
         have HR6:=hide hrun6
         have x0:=hX.c0
         have x1:=hX.c1
         have x2:=hX.c2
         have x3:=hX.c3
         have x4:=hX.c4
         have x5:=hX.c5
         have HI6:Hid (ZaS w W6 s4' s5' (R ++ [⟨r,ra,rl,rc⟩]) (rowsH ((lfs L).take i) 0 ++ rowsS i ((bss xl).take (k+1)) 0)):=by
          show ZaS _ _ _ _ _ _
          rw [HSNOC.out,← List.append_assoc]
          refine⟨?_,?_⟩
          · simpa [hrsB] using hI6
          · have:=HI3.out.r
            simp only [rws,hrsR,List.map_append] at this ⊢
            rw [this]
            rfl
         have HX4:=hide hX
         clear ht hd hD HI2 HI3 hA d1 e0 hX hI4 hcl hrun5 hI5 hrun6 hI6 hRl hfw hfs hown HSNOC
         unfold Sl.val at HR5 HR6
         simp only at HR5 HR6
         have HST:=hide hst
         clear hW4 hst
         go_wp2_with (first | refine Zab _ rfl rfl 33 (.tmp 8) (.tmp 38) rfl (.pointer (some ⟨w3.heap.size,0,none⟩)) (.agg #[.float .f64 r.key,.bool r.dead,.slice ra rl rc,.int .i64 r.wr,.int .i64 r.cell,.int .i64 r.no]) rfl rfl W4 HST.out ?_ | (at_builtin;first | refine Zaj _ rfl 38 (.tmp 41) (.tmp 43) rfl (.slice s4.a s4.len s4.cap) (.slice (some ⟨W4.heap.size,0,none⟩) 1 1) (.slice s4'.a s4'.len s4'.cap) rfl rfl W5 HR5.out ?_ | refine Zaj _ rfl 82 (.tmp 45) (.tmp 49) rfl (.slice s5.a s5.len s5.cap) (.slice (some ⟨W5.heap.size,0,none⟩) 1 1) (.slice s5'.a s5'.len s5'.cap) rfl rfl W6 HR6.out ?_))
         go_roundw
         case rel=>exact ⟨k+1,s4',s5',_,by omega,by go_num,rfl,rfl,HI6⟩
         case measure=>simp only [intOf];omega
      · have j2:¬(k:Int)<(vn:Int):=by omega
        have e0:k=vn:=by omega
        have HN:Hid (ZaS w wr2 s4 s5 R (rowsH ((lfs L).take (i+1)) 0)):=by
         have:=hI2.out
         rw [e0,List.take_of_length_le (l:=bss xl) (by rw [HSN.out];exact Nat.le_refl _),← HSL.out] at this
         show ZaS _ _ _ _ _ _
         rw [Zf4 (by rw [ZaA,HL.out];exact hlt)]
         exact this
        clear hI2 HII e0
        go_wp2_with fail
        go_roundw
        case rel=>exact ⟨i+1,s4,s5,R,by omega,by go_num,rfl,rfl,HN⟩
        case measure=>simp only [intOf];omega
   · have j1:¬(i:Int)<(len:Int):=by omega
     have e0:i=len:=by omega
     have HT:Hid (ZaS w wr s4 s5 R (allH (lfs L))):=by
      have:=hI.out
      rw [e0,List.take_of_length_le (by rw [ZaA,HL.out];exact Nat.le_refl _)] at this
      exact this
     clear hI e0
     go_wp2_with fail
     go_ret2
     exact⟨s4,s5,R,rfl,HT.out⟩
theorem Zg6 (p o : Nat) (w : World) : (Instr.fieldAt 33 (.pointer (some ⟨p, o, none⟩)) 0).run Tryz.prog w = .ok (.pointer (some ⟨p, o, none⟩)) w := by simp [go_sem, Instr.fieldAt]
theorem Zbd {b o : Nat} {x : Nat} {w : World} (h : w.cell? ⟨b, o, none⟩ = some (.float .f64 x)) : (Instr.loadAt 23 (.pointer (some ⟨b, o, none⟩))).run Tryz.prog w = .ok (.float .f64 x) w := ZaB b o x w h
theorem Zee {a:Nat}{m : Bool} (h : (Fl.key a == Fl.key b) = m) (ha : a < 18446744073709551616) (hb : b < 18446744073709551616) (w : World) : Calls Tryz.prog 30 #[.float .f64 a, .float .f64 b] w fun e w' => e = .returned (.bool m) ∧ Below w.heap.size w w' := by
 refine (Zhb a b ha hb w).mono ?_
 rintro e w' ⟨rfl, hw⟩
 obtain rfl := hw.symm
 exact ⟨by rw [h], Below.refl _ _⟩
theorem Znj {b o : Nat} {x : Bt} {w : World} (c0 : w.cell? ⟨b, o, none⟩ = some (.int .i64 x.1)) (c1 : w.cell? ⟨b, o + 1, none⟩ = some (.int .i64 x.2)) : (Instr.loadAt 26 (.pointer (some ⟨b, o, none⟩))).run Tryz.prog w = .ok (btV x) w := by
  simp [go_sem, c0, c1, btV]
def BtBlk (w : World) (p : Nat) (x : Bt) : Prop := w.heap[p]? = some (Obj.cells #[.int .i64 x.1, .int .i64 x.2] 26 (0, 0))
theorem BtBlk.lt {w : World} {p : Nat} {x : Bt} (h : BtBlk w p x) : p < w.heap.size := (Array.getElem?_eq_some_iff.1 h).1
theorem BtBlk.keep {w w' : World} {p : Nat} {x : Bt} (h : BtBlk w p x) (hb : Below w.heap.size w w') : BtBlk w' p x := (hb.block p h.lt).trans h
theorem BtBlk.c0 {w : World} {p : Nat} {x : Bt} (h : BtBlk w p x) : w.cell? ⟨p, 0, none⟩ = some (.int .i64 x.1) := by unfold BtBlk at h; rw [cell_of_row _ _ _ _ _ _ h]; rfl
theorem BtBlk.c1 {w : World} {p : Nat} {x : Bt} (h : BtBlk w p x) : w.cell? ⟨p, 1, none⟩ = some (.int .i64 x.2) := by unfold BtBlk at h; rw [cell_of_row _ _ _ _ _ _ h]; rfl
theorem BtBlk.fz {w : World} {p : Nat} {x : Bt} (h : BtBlk w p x) (o : Nat) : w.frozen? ⟨p, o, none⟩ = false := frozen_of_row w p _ _ _ h
theorem Za7 (w : World) (x : Bt) : BtBlk (w.alloc (.cells #[.int .i64 x.1, .int .i64 x.2] 26)) w.heap.size x := heap_alloc_new w _
theorem Zeg : ∀ args w, (callFunc 30 args).run Tryz.prog w = .ok (.enter 30 args) w := Pl.enters Tryz.func30 (by kernel_rfl) (by kernel_rfl)
theorem Zob (w0 w:World)(b off len c i k:Nat)(hi:i<len)(hk:k<len)(x y:Rx)(hx:RwAt w0 b (off+i*6) x)(hy:RwAt w0 b (off+k*6) y)(hxf:x.r.key<18446744073709551616)(hyf:y.r.key<18446744073709551616)(h:(Fl.key x.r.key == Fl.key y.r.key)=true)(hW:Below w0.heap.size w0 w)
    {Q:Exit→Act→World→Prop}{A:Act}(hsz:A.tmps.size=85)(hdf:A.defers=[])(s6:A.tmps.getD 6 undef=.slice (some ⟨b,off,none⟩) len c)(s8:A.tmps.getD 8 undef=.int .i64 (i:Int))(s9:A.tmps.getD 9 undef=.int .i64 (k:Int))
    (hend:∀(u:Nat→Value) w',Below w0.heap.size w0 w'→Q .normal ((((((((((((A).put (some 60) (u 60)).put (some 61) (u 61)).put (some 62) (u 62)).put (some 63) (u 63)).put (some 64) (u 64)).put (some 65) (u 65)).put (some 66) (u 66)).put (some 67) (u 67)).put (some 68) (u 68)).put (some 69) (u 69)).put (some 70) (.bool true)) w') :
    (Code.region 19 (Pl.find 19 ((Tryz.f13.body).getD .skip)) true).wp Tryz.prog Q A w:=by
  have hS0:Below w0.heap.size w0 w.drew:=hW.drew
  have hA:=Pl.At.same (v:=.int .i64 (k:Int)) (d:=9) (Pl.At.same (v:=.int .i64 (i:Int)) (d:=8) (Pl.At.same (v:=.slice (some ⟨b,off,none⟩) len c) (d:=6) (Pl.At.here hsz hdf) s6) s8) s9
  refine Pl.qa (S:=fun w'=>Below w0.heap.size w0 w') hA hS0 ?_
  rw [show (Pl.find 19 ((Tryz.f13.body).getD .skip)).size=11 by kernel_rfl]
  refine Pl.q0 0 60 (.slice (some ⟨b,off,none⟩) len c) (Pl.q1) (Pl.q2 (.tmp 6)) hS0 ?_
  refine Pl.q0 1 61 (.int .i64 (i:Int)) (Pl.q1) (Pl.q2 (.tmp 8)) hS0 ?_
  refine Pl.q0 2 62 (.pointer (some ⟨b,off+i*6,none⟩)) (Pl.q1) (Pl.qd 38 (.tmp 60) (.tmp 61) (Zc5 b off len c i hi)) hS0 ?_
  refine Pl.q0 3 63 (.pointer (some ⟨b,off+i*6,none⟩)) (Pl.q1) (Pl.q5 33 (.tmp 62) 0 (Zg6 b (off+i*6))) hS0 ?_
  refine Pl.q0 4 64 (.float .f64 x.r.key) (Pl.q1) (Pl.q4 23 (.tmp 63) (fun w' hS=>Zbd (hx.keep hS (Nat.le_refl _)).c0)) hS0 ?_
  refine Pl.q0 5 65 (.slice (some ⟨b,off,none⟩) len c) (Pl.q1) (Pl.q2 (.tmp 6)) hS0 ?_
  refine Pl.q0 6 66 (.int .i64 (k:Int)) (Pl.q1) (Pl.q2 (.tmp 9)) hS0 ?_
  refine Pl.q0 7 67 (.pointer (some ⟨b,off+k*6,none⟩)) (Pl.q1) (Pl.qd 38 (.tmp 65) (.tmp 66) (Zc5 b off len c k hk)) hS0 ?_
  refine Pl.q0 8 68 (.pointer (some ⟨b,off+k*6,none⟩)) (Pl.q1) (Pl.q5 33 (.tmp 67) 0 (Zg6 b (off+k*6))) hS0 ?_
  refine Pl.q0 9 69 (.float .f64 y.r.key) (Pl.q1) (Pl.q4 23 (.tmp 68) (fun w' hS=>Zbd (hy.keep hS (Nat.le_refl _)).c0)) hS0 ?_
  refine Pl.qc 10 70 30 [(.tmp 64),(.tmp 69)] #[23,23] (Pl.q1) Zeg (Calls.mono (Zee h hxf hyf w.drew) ?_)
  rintro e w1 ⟨rfl,hb1⟩
  have hS1:Below w0.heap.size w0 w1:=Zac hS0 hb1
  refine⟨.bool true,rfl,hS1,?_⟩
  refine Pl.q8 (fun A' hA'=>?_)
  rw [Pl.At.ext hA' (((((((((((hA.put 60 _).put 61 _).put 62 _).put 63 _).put 64 _).put 65 _).put 66 _).put 67 _).put 68 _).put 69 _).put 70 _)]
  exact hend hA'.fn _ hS1
theorem Zoa (w0 w:World)(b off len c i k:Nat)(hi:i<len)(hk:k<len)(x y:Rx)(hx:RwAt w0 b (off+i*6) x)(hy:RwAt w0 b (off+k*6) y)(hxf:x.r.key<18446744073709551616)(hyf:y.r.key<18446744073709551616)(h:(Fl.key x.r.key == Fl.key y.r.key)=false)(hW:Below w0.heap.size w0 w)
    {Q:Exit→Act→World→Prop}{A:Act}(hsz:A.tmps.size=85)(hdf:A.defers=[])(s6:A.tmps.getD 6 undef=.slice (some ⟨b,off,none⟩) len c)(s8:A.tmps.getD 8 undef=.int .i64 (i:Int))(s9:A.tmps.getD 9 undef=.int .i64 (k:Int))
    (hend:∀(u:Nat→Value) w',Below w0.heap.size w0 w'→Q .normal ((((((((((((A).put (some 60) (u 60)).put (some 61) (u 61)).put (some 62) (u 62)).put (some 63) (u 63)).put (some 64) (u 64)).put (some 65) (u 65)).put (some 66) (u 66)).put (some 67) (u 67)).put (some 68) (u 68)).put (some 69) (u 69)).put (some 70) (.bool false)) w') :
    (Code.region 19 (Pl.find 19 ((Tryz.f13.body).getD .skip)) true).wp Tryz.prog Q A w:=by
  have hS0:Below w0.heap.size w0 w.drew:=hW.drew
  have hA:=Pl.At.same (v:=.int .i64 (k:Int)) (d:=9) (Pl.At.same (v:=.int .i64 (i:Int)) (d:=8) (Pl.At.same (v:=.slice (some ⟨b,off,none⟩) len c) (d:=6) (Pl.At.here hsz hdf) s6) s8) s9
  refine Pl.qa (S:=fun w'=>Below w0.heap.size w0 w') hA hS0 ?_
  rw [show (Pl.find 19 ((Tryz.f13.body).getD .skip)).size=11 by kernel_rfl]
  refine Pl.q0 0 60 (.slice (some ⟨b,off,none⟩) len c) (Pl.q1) (Pl.q2 (.tmp 6)) hS0 ?_
  refine Pl.q0 1 61 (.int .i64 (i:Int)) (Pl.q1) (Pl.q2 (.tmp 8)) hS0 ?_
  refine Pl.q0 2 62 (.pointer (some ⟨b,off+i*6,none⟩)) (Pl.q1) (Pl.qd 38 (.tmp 60) (.tmp 61) (Zc5 b off len c i hi)) hS0 ?_
  refine Pl.q0 3 63 (.pointer (some ⟨b,off+i*6,none⟩)) (Pl.q1) (Pl.q5 33 (.tmp 62) 0 (Zg6 b (off+i*6))) hS0 ?_
  refine Pl.q0 4 64 (.float .f64 x.r.key) (Pl.q1) (Pl.q4 23 (.tmp 63) (fun w' hS=>Zbd (hx.keep hS (Nat.le_refl _)).c0)) hS0 ?_
  refine Pl.q0 5 65 (.slice (some ⟨b,off,none⟩) len c) (Pl.q1) (Pl.q2 (.tmp 6)) hS0 ?_
  refine Pl.q0 6 66 (.int .i64 (k:Int)) (Pl.q1) (Pl.q2 (.tmp 9)) hS0 ?_
  refine Pl.q0 7 67 (.pointer (some ⟨b,off+k*6,none⟩)) (Pl.q1) (Pl.qd 38 (.tmp 65) (.tmp 66) (Zc5 b off len c k hk)) hS0 ?_
  refine Pl.q0 8 68 (.pointer (some ⟨b,off+k*6,none⟩)) (Pl.q1) (Pl.q5 33 (.tmp 67) 0 (Zg6 b (off+k*6))) hS0 ?_
  refine Pl.q0 9 69 (.float .f64 y.r.key) (Pl.q1) (Pl.q4 23 (.tmp 68) (fun w' hS=>Zbd (hy.keep hS (Nat.le_refl _)).c0)) hS0 ?_
  refine Pl.qc 10 70 30 [(.tmp 64),(.tmp 69)] #[23,23] (Pl.q1) Zeg (Calls.mono (Zee h hxf hyf w.drew) ?_)
  rintro e w1 ⟨rfl,hb1⟩
  have hS1:Below w0.heap.size w0 w1:=Zac hS0 hb1
  refine⟨.bool false,rfl,hS1,?_⟩
  refine Pl.q8 (fun A' hA'=>?_)
  rw [Pl.At.ext hA' (((((((((((hA.put 60 _).put 61 _).put 62 _).put 63 _).put 64 _).put 65 _).put 66 _).put 67 _).put 68 _).put 69 _).put 70 _)]
  exact hend hA'.fn _ hS1
def rk (R : List Rx) (i : Nat) : Nat := (R.getD i Rx.zero).r.key
theorem Zom {l : List Hr} (h : rws R = hrsR l) (hi : i < l.length) : (R.getD i Rx.zero).r = l[i].r := by
 have hl : R.length = l.length := by have := congrArg List.length h; simpa [rws, hrsR] using this
 have h1 : (rws R)[i]? = (hrsR l)[i]? := by rw [h]
 have hi' : i < R.length := by omega
 simp only [rws, hrsR, List.getElem?_map, List.getElem?_eq_getElem hi, List.getElem?_eq_getElem hi', Option.map_some, Option.some.injEq] at h1
 simp [List.getD, hi', h1]
theorem Zi0 {R : List Rx} {l : List Hr} (h : rws R = hrsR l) : R.length = l.length := by have := congrArg List.length h; simpa [rws, hrsR] using this
theorem ZhB {l:List Lf}(h:rws R=hrsR (allH l)):ZbB (allH l)↔∀i,i<R.length→∀k,k<i→(Fl.key (rk R i) == Fl.key (rk R k))=false:=by
 have hl:=Zi0 h
 unfold ZbB
 rw [List.pairwise_iff_getElem]
 have key:∀i,(hi:i<(allH l).length)→Fl.key (rk R i)=(allH l)[i].r.key:=by
  intro i hi
  unfold rk
  rw [Zom h hi]
  exact(ZcX (List.getElem_mem hi)).1
 constructor
 · intro hp i hi k hk
   rw [key i (by omega),key k (by omega)]
   rw [beq_eq_false_iff_ne]
   exact fun e=>hp k i (by omega) (by omega) hk e.symm
 · intro hp k i hk hi hlt
   have:=hp i (by omega) k hlt
   rw [key i hi,key k hk,beq_eq_false_iff_ne] at this
   exact fun e=>this e.symm
def ZfD (l : List Lf) (e : Ending) : Prop := ∃ r : Bool, e = .returned (.bool r) ∧ (r = true ↔ MayH l)
theorem Ze9 {l : List Lf} (h : ¬ MayH l) : ZfD l (.returned (.bool false)) := ⟨false, rfl, by simp [h]⟩
theorem ZeF {D:Nat→Prop}(w:World)(s:Sl)(L:List Lb)(h:Gl D w s L) :
    Calls Tryz.prog 13 #[s.val] w fun e w'=>ZfD (lfs L) e∧Below w.heap.size w w':=by
  have HALL:=hide (fun w' (hb:Below w.heap.size w w')=>Zmh w' s L (h.below hb (Nat.le_refl _)))
  obtain⟨a,len,cap⟩:=s
  have H:=hide h
  have hbig:len≤900:=h.big
  have HL:Hid ((lfs L).length=len):=by show _=_;rw [ZaA];exact h.len
  clear h
  unfold Sl.val at *
  simp only at *
  go_enter Tryz.func13,Tryz.ntmps13
  go_wp2_with fail
  go_loopw [3,4] (fun nv iv wr=>∃i:Nat,i≤len∧iv=.int .i64 (i:Nat)∧nv=.int .i64 ((fillH ((lfs L).take i):Nat):Int)∧fillH ((lfs L).take i)≤i*1000∧Hid (∀j,j<i→MayL (lf (lfs L) j))∧Hid (Below w.heap.size w wr)) (fun _ iv _=>len-(intOf iv).toNat)
  case atStart=>exact ⟨0,Nat.zero_le _,rfl,rfl,Nat.zero_le _,(fun j hj=>absurd hj (Nat.not_lt_zero _)),Below.refl _ _⟩
  case round =>
   obtain⟨i,hi,rfl,rfl,hn,hmay,hW⟩:=hrel
   rcases Nat.lt_or_ge i len with hlt | hge
   · have j1:(i:Int)<(len:Int):=by omega
     have hgw:=H.out.below hW.out (Nat.le_refl _)
     have hlt':i<(Sl.mk a len cap).len:=hlt
     obtain⟨b,off,ha,c0,c1⟩:=hgw.cell i hlt'
     replace ha:a=some ⟨b,off,none⟩:=ha
     subst ha
     have hit:=hgw.at hlt'
     obtain⟨x,hx⟩:∃x,x=L.getD i Lb.zero:=⟨_,rfl⟩
     rw [← hx] at c0 c1 hit
     obtain⟨⟨ua,un,uc⟩,⟨va,vn,vc⟩,xt,xl⟩:=x
     have HF:Hid (lf (lfs L) i=⟨xt,bss xl⟩):=by show _=_;rw [Zck,← hx];rfl
     have HC0:=hide c0
     have HC1:=hide c1
     have HLD:=hide (ZaU c0 c1)
     have HIX:=hide (Zc4 b off len cap i hlt)
     have HMAY:=hide (ZkP wr ⟨ua,un,uc⟩ ⟨va,vn,vc⟩ xt xl hit.1 hit.2)
     have HGB:=hide hit.2
     unfold lfV Sl.val at HMAY HLD
     simp only at HMAY HLD
     clear hgw hit hx c0 c1
     unfold Sl.val at HC0 HC1
     simp only at HC0 HC1
     have c0:=HC0.out
     have c1:=HC1.out
     go_wp2_with fail
     refine HMAY.out.mono ?_
     rintro e w1 ⟨⟨r,rfl,hr⟩,hb1⟩
     have HW1:=hide (Zac hW.out hb1)
     cases r with
     | false =>
      have hnm:¬MayL ⟨xt,bss xl⟩:=fun hh=>by have:=hr.2 hh;cases this
      have HNO:Hid (¬MayH (lfs L)):=fun hh=>hnm (by rw [← HF.out];exact hh.leaf _ (Zbc (by rw [HL.out];exact hlt)))
      clear hr hnm hb1 HMAY c0 c1 hmay
      go_wp2_with fail
      go_ret
      exact⟨Ze9 HNO.out,HW1.out⟩
     | true =>
      have hm:=hr.1 rfl
      have HM:=hide hm
      have HMAYS:Hid (∀j,j<i+1→MayL (lf (lfs L) j)):=by
       intro j hj
       rcases Nat.lt_or_ge j i with h1 | h1
       · exact hmay.out j h1
       · rw [show j=i by omega,HF.out];exact hm
      have HSN:Hid ((bss xl).length=vn):=by show _=_;rw [Zah];exact HGB.out.len
      have hvb:vn≤1000:=HGB.out.big
      have d1:w1.cell? ⟨b,off+i*2+1,none⟩=some (.slice va vn vc):=Zat HC1.out hb1
      have HD1:=hide d1
      have HG1:=hide (HGB.out.below hb1 (Nat.le_refl _))
      obtain⟨n0,hn0⟩:∃n,n=fillH ((lfs L).take i):=⟨_,rfl⟩
      rw [← hn0] at hn ⊢
      have HN0:=hide hn0
      clear hr hm hb1 HMAY c0 c1 hmay hn0 HGB
      go_wp2_with fail
      go_loopw [3,5] (fun nv kv wr2=>∃k:Nat,k≤vn∧kv=.int .i64 (k:Nat)∧wr2=w1∧nv=.int .i64 ((n0+fillS ((bss xl).take k):Nat):Int)∧fillS ((bss xl).take k)≤k) (fun _ kv _=>vn-(intOf kv).toNat)
      case atStart=>exact ⟨0,Nat.zero_le _,rfl,rfl,by simp [fillS],by simp [fillS]⟩
      case round =>
       obtain⟨k,hk,rfl,rfl,rfl,hfk⟩:=hrel
       rcases Nat.lt_or_ge k vn with hkl | hkg
       · have j2:(k:Int)<(vn:Int):=by omega
         have hkl':k<(Sl.mk va vn vc).len:=hkl
         obtain⟨vb,vo,hva,e0⟩:=HG1.out.cell k hkl'
         replace hva:va=some ⟨vb,vo,none⟩:=hva
         subst hva
         have hcm:=(HG1.out.at hkl').1
         obtain⟨⟨sa,sn,sc⟩,hsb⟩:∃s,s=(xl.getD k Sb.zero).s:=⟨_,rfl⟩
         rw [← hsb] at e0 hcm
         have hsl:(sl (bss xl) k).length=sn:=hcm.came.bs.1
         have hsn:=ZiQ (s:=bss xl) (k:=k) (by rw [HSN.out];exact hkl)
         rw [hsl] at hsn
         unfold Sl.val at e0
         simp only at e0
         have hw1:IntKind.i64.wrap (((n0+fillS ((bss xl).take k):Nat):Int)+1)=((n0+fillS ((bss xl).take k):Nat):Int)+1:=by rw [IntKind.wrap_i64];omega
         have d1:=HD1.out
         by_cases hp:0<sn
         · have j3:(0:Int)<(sn:Int):=by omega
           rw [if_pos hp] at hsn
           have HSNOC:=hide hsn
           obtain⟨q,hq⟩:∃q,q=fillS ((bss xl).take k):=⟨_,rfl⟩
           rw [← hq] at hfk HSNOC hw1 ⊢
           clear hsb hcm hsl hsn hq
           go_wp2_with fail
           go_roundw
           case rel=>exact ⟨k+1,by omega,by go_num,trivial,by rw [HSNOC.out];go_num,by rw [HSNOC.out];omega⟩
           case measure=>simp only [intOf];omega
         · have j3:¬(0:Int)<(sn:Int):=by omega
           rw [if_neg hp,Nat.add_zero] at hsn
           have HSNOC:=hide hsn
           obtain⟨q,hq⟩:∃q,q=fillS ((bss xl).take k):=⟨_,rfl⟩
           rw [← hq] at hfk HSNOC hw1 ⊢
           clear hsb hcm hsl hsn hq
           go_wp2_with fail
           go_roundw
           case rel=>exact ⟨k+1,by omega,by go_num,trivial,by rw [HSNOC.out];rfl,by rw [HSNOC.out];omega⟩
           case measure=>simp only [intOf];omega
       · have j2:¬(k:Int)<(vn:Int):=by omega
         have e0:k=vn:=by omega
         have hst:fillS ((bss xl).take k)=fillS (bss xl):=by rw [List.take_of_length_le (by rw [HSN.out];exact hkg)]
         have hsn:fillH ((lfs L).take (i+1))=n0+fillS (bss xl):=by rw [ZiP (by rw [HL.out];exact hlt),HF.out,HN0.out]
         rw [hst] at hfk ⊢
         have HSNOC:=hide hsn
         have d1:=HD1.out
         obtain⟨q,hq⟩:∃q,q=fillS (bss xl):=⟨_,rfl⟩
         rw [← hq] at hfk HSNOC ⊢
         clear hst hsn hq e0
         go_wp2_with fail
         go_roundw
         case rel=>exact ⟨i+1,by omega,by go_num,by rw [HSNOC.out],by rw [HSNOC.out];omega,HMAYS,HW1⟩
         case measure=>simp only [intOf];omega
   · have j1:¬(i:Int)<(len:Int):=by omega
     have e0:i=len:=by omega
     have hft:fillH ((lfs L).take i)=fillH (lfs L):=by rw [List.take_of_length_le (by rw [HL.out];exact hge)]
     have HLEAF:Hid (∀f∈lfs L,MayL f):=by
      intro f hf
      obtain⟨j,hj,rfl⟩:=List.getElem_of_mem hf
      rw [← Zdm hj]
      exact hmay.out j (by rw [HL.out] at hj;omega)
     have HA1:=hide (HALL.out wr hW.out)
     rw [hft] at hn ⊢
     have hn9:fillH (lfs L)≤900000:=by have:i*1000≤900*1000:=Nat.mul_le_mul_right _ (by omega);omega
     obtain⟨N,hN⟩:∃N,N=fillH (lfs L):=⟨_,rfl⟩
     rw [← hN] at hn9 ⊢
     have HNN:=hide hN
     clear hn hN hft e0 hmay
     go_wp2_with fail
     refine HA1.out.mono ?_
     rintro e w1 ⟨⟨ra,rn,rc⟩,⟨ba,bn,bc⟩,R,rfl,hT⟩
     have hrz:=hT.i.rows.rz
     have hrl:R.length=rn:=hrz.len
     have HW1:=hide (Zac hW.out hT.i.below)
     have HRL:=hide hrl
     have HRZ:=hide hrz
     have HKEY:=hide (ZhB hT.r)
     have HALEN:Hid ((allH (lfs L)).length=rn):=by show _=_;rw [← Zi0 hT.r,hrl]
     have hrn:rn≤N:=by rw [← HALEN.out,HNN.out];exact (ZdK (lfs L) 0).1
     clear hT hrz hrl HA1
     go_wp2_with fail
     go_loopw [8] (fun iv wr2=>∃i:Nat,i≤rn∧iv=.int .i64 (i:Nat)∧Hid (∀j,j<i→∀k,k<j→(Fl.key (rk R j) == Fl.key (rk R k))=false)∧Hid (Below w1.heap.size w1 wr2)) (fun iv _=>rn-(intOf iv).toNat)
     case atStart=>exact ⟨0,Nat.zero_le _,rfl,(fun j hj=>absurd hj (Nat.not_lt_zero _)),Below.refl _ _⟩
     case round =>
      rename World=>wi
      obtain⟨i,hi,rfl,hks,hWi⟩:=hrel
      rcases Nat.lt_or_ge i rn with hlt | hge
      · have j1:(i:Int)<(rn:Int):=by omega
        go_wp2_with fail
        go_loopw [9] (fun kv wr2=>∃k:Nat,k≤i∧kv=.int .i64 (k:Nat)∧Hid (∀m,m<k→(Fl.key (rk R i) == Fl.key (rk R m))=false)∧Hid (Below w1.heap.size w1 wr2)) (fun kv _=>i-(intOf kv).toNat)
        case atStart=>exact ⟨0,Nat.zero_le _,rfl,(fun j hj=>absurd hj (Nat.not_lt_zero _)),hWi⟩
        case round =>
         rename World=>wk
         obtain⟨k,hk,rfl,hms,hWk⟩:=hrel
         rcases Nat.lt_or_ge k i with hkl | hkg
         · have j2:(k:Int)<(i:Int):=by omega
           have hrz:=HRZ.out.keep hWk.out (Nat.le_refl _)
           obtain⟨b1,o1,hra,hx⟩:=hrz.at' i hlt
           obtain⟨b2,o2,hra2,hy⟩:=hrz.at' k (by omega)
           rw [hra] at hra2
           simp only [Option.some.injEq,Addr.mk.injEq,and_true] at hra2
           obtain⟨rfl,rfl⟩:=hra2
           subst hra
           have hxf:=(HRZ.out.fits _ (HRZ.out.mem hlt)).key
           have hyf:=(HRZ.out.fits _ (HRZ.out.mem (show k<rn by omega))).key
           have HX:=hide hx
           have HY:=hide hy
           have HXF:=hide hxf
           have HYF:=hide hyf
           clear hrz hx hy hxf hyf
           go_wp2_with fail
           refine Pl.q9 (ops:=Pl.find 19 ((Tryz.f13.body).getD .skip)) ?_
           cases hq:(Fl.key (rk R i) == Fl.key (rk R k)) with
           | true =>
            refine Zob wk wk b1 o1 rn rc i k hlt (by omega) _ _ HX.out HY.out HXF.out HYF.out hq (Below.refl _ _) (by rfl) (by rfl) (by rfl) (by rfl) (by rfl) ?_
            intro u w3 hb3
            simp only [Act.put,List.setIfInBounds_toArray,List.set_cons_zero,List.set_cons_succ]
            have HNO:Hid (¬MayH (lfs L)):=by
             intro hh
             have:=HKEY.out.1 hh.keys i (by rw [HRL.out];exact hlt) k hkl
             rw [hq] at this
             cases this
            have HW3:=hide (Zac HW1.out (Zac hWk.out hb3))
            clear hb3 hq
            go_wp2_with fail
            go_ret
            exact⟨Ze9 HNO.out,HW3.out⟩
           | false =>
            refine Zoa wk wk b1 o1 rn rc i k hlt (by omega) _ _ HX.out HY.out HXF.out HYF.out hq (Below.refl _ _) (by rfl) (by rfl) (by rfl) (by rfl) (by rfl) ?_
            intro u w3 hb3
            simp only [Act.put,List.setIfInBounds_toArray,List.set_cons_zero,List.set_cons_succ]
            have HM3:Hid (∀m,m<k+1→(Fl.key (rk R i) == Fl.key (rk R m))=false):=by
             intro m hm
             rcases Nat.lt_or_ge m k with h1 | h1
             · exact hms.out m h1
             · rw [show m=k by omega];exact hq
            have HW3:=hide (Zac hWk.out hb3)
            clear hb3 hq hms
            go_wp2_with fail
            go_roundw
            case rel=>exact ⟨k+1,by omega,by go_num,HM3,HW3⟩
            case measure=>simp only [intOf];omega
         · have j2:¬(k:Int)<(i:Int):=by omega
           have HK2:Hid (∀j,j<i+1→∀m,m<j→(Fl.key (rk R j) == Fl.key (rk R m))=false):=by
            intro j hj m hm
            rcases Nat.lt_or_ge j i with h1 | h1
            · exact hks.out j h1 m hm
            · have e:j=i:=by omega
              subst e
              exact hms.out m (by omega)
           clear hms hks
           go_wp2_with fail
           go_roundw
           case rel=>exact ⟨i+1,by omega,by go_num,HK2,hWk⟩
           case measure=>simp only [intOf];omega
      · have j1:¬(i:Int)<(rn:Int):=by omega
        have HONE:Hid (ZbB (allH (lfs L))):=HKEY.out.2 (fun j hj k hk=>hks.out j (by rw [HRL.out] at hj;omega) k hk)
        have HW3:=hide (Zac HW1.out hWi.out)
        have HEND:Hid (∀r:Bool,(r=true↔(N=rn∧1≤len∧len≤62))→ZfD (lfs L) (.returned (.bool r))):=by
         intro r hr
         refine⟨r,rfl,hr.trans ⟨fun hh=>⟨HLEAF.out,?_,HONE.out,by rw [HL.out];exact hh.2.1,by rw [HL.out];exact hh.2.2⟩,fun hh=>⟨?_,?_,?_⟩⟩⟩
         · exact Zfv.1 (by rw [HALEN.out,← HNN.out];exact hh.1)
         · rw [HNN.out,← HALEN.out];exact Zfv.2 hh.rows
         · rw [← HL.out];exact hh.pos
         · rw [← HL.out];exact hh.few
        clear hks hWi
        by_cases e1:N=rn
        · have i1:(N:Int)=(rn:Int):=by omega
          by_cases e2:1≤len
          · have i2:(1:Int)≤(len:Int):=by omega
            by_cases e3:len≤62
            · have i3:(len:Int)≤62:=by omega
              have HE:=hide (HEND.out true (by simp [e1,e2,e3]))
              go_wp2_with fail
              go_ret
              exact⟨HE.out,HW3.out⟩
            · have i3:¬(len:Int)≤62:=by omega
              have HE:=hide (HEND.out false (by simp [e3]))
              go_wp2_with fail
              go_ret
              exact⟨HE.out,HW3.out⟩
          · have i2:¬(1:Int)≤(len:Int):=by omega
            have HE:=hide (HEND.out false (by simp [e2]))
            go_wp2_with fail
            go_ret
            exact⟨HE.out,HW3.out⟩
        · have i1:¬(N:Int)=(rn:Int):=by omega
          have HE:=hide (HEND.out false (by simp [e1]))
          go_wp2_with fail
          go_ret
          exact⟨HE.out,HW3.out⟩
end Go.Proofs.YtdojdcncncgncaaGreat
