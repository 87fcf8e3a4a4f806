/-
  Lemmas.
-/
import Derived.Test.YtdojdcncncgncaaGreatKsau
namespace Go.Proofs.YtdojdcncncgncaaGreat
open Go.RowKit
set_option linter.unusedVariables false
set_option maxRecDepth 100000
set_option maxHeartbeats 4000000
variable {w W:World}{l' l:List Sb}{u v u' v':Sl}{g:Nat}{t' t:List Int}
def Told (w : World) (t : List Int) (s : List (List Nat)) (mk : Value → Value) (e : Ending) (w' : World) : Prop :=
  Below w.heap.size w w' ∧ ∃ (u' v' : Sl) (l' : List Sb), e = .returned (mk (lfV u' v')) ∧ Gi (fun k => w.heap.size ≤ k) w' u' t ∧ Gb (fun k => w.heap.size ≤ k) w' v' l' ∧ bss l' = s
theorem Gi.none {D : Nat → Prop} (w : World) : Gi D w Sl.nil [] := ⟨rfl, fun _ => rfl, Nat.le_refl _, Nat.zero_le _, fun _ h => (by cases h), fun _ h => absurd h (Nat.not_lt_zero _)⟩
theorem Gb.none {D : Nat → Prop} (w : World) : Gb D w Sl.nil [] := ⟨rfl, fun _ => rfl, Nat.le_refl _, Nat.zero_le _, fun _ h => (by cases h), fun _ h => absurd h (Nat.not_lt_zero _), fun _ h => (by cases h)⟩
theorem ZeV {w1:World}{x y:Value}(k:LfBlk w1 (w.heap.size+1) x y)(e:Below w.heap.size w w1)(gi:Gi (fun k=>w.heap.size+2≤k) w1 u' t)(gb:Gb (fun k=>w.heap.size+2≤k) w1 v' l') :
    ∃W,(Instr.storeAt 67 (.pointer (some ⟨w.heap.size+1,0,none⟩)) (lfV u' v')).run Tryz.prog w1=.ok () W∧LfBlk W (w.heap.size+1) u'.val v'.val∧∀mk,Told w t (bss l') mk (.returned (mk (lfV u' v'))) W:=by
  obtain⟨W,hst,k',f⟩:=ZbB w1 _ _ _ k u' v'
  have hk:Kept (fun k=>w.heap.size+2≤k) w1 W:=Kept.frm f (fun k hk e=>by omega)
  refine⟨W,hst,k',fun mk=>⟨e.trans (f.below e.size (fun k hk=>by rw [hk];exact Nat.le_succ _)),u',v',l',rfl,(gi.keep hk).wide (fun k h=>by omega),(gb.keep hk).wide (fun k h=>by omega),rfl⟩⟩
theorem Lw.gi {B : Nat} {w : World} {u v : Sl} {t : List Int} {l : List Sb} (h : Lw B w u v t l) (hl : t.length ≤ 1000000) : Gi (fun k => B ≤ k) w u t := OwnN.gi h.oi h.ui (by have := OwnN.len h.oi; omega)
theorem Lw.gb {B : Nat} {w : World} {u v : Sl} {t : List Int} {l : List Sb} (h : Lw B w u v t l) (hl : l.length ≤ 1000) : Gb (fun k => B ≤ k) w v l := OwnB.gb h.ob (fun x hx => ⟨(h.bs x hx).1.wide (fun k hk => hk.1), (h.bs x hx).2⟩) h.vi (by have := OwnB.len h.ob; omega)
theorem bss_len {l l' : List Sb} (h : bss l' = bss l) : l'.length = l.length := by rw [← Zah, h, Zah]
structure Nx (w W : World) (g : Nat) (u v u' v' : Sl) (t' : List Int) (l' : List Sb) : Prop where
  k1 : LfBlk W w.heap.size u.val v.val
  k2 : LfBlk W (w.heap.size + 1) (.slice none 0 0) (.slice none 0 0)
  k9 : LfBlk W g u'.val v'.val
  oi : OwnN W u' t'
  ob : OwnB W v' l'
  ui : ∀ k, u'.blk = some k → w.heap.size + 2 ≤ k
  vi : ∀ k, v'.blk = some k → w.heap.size + 2 ≤ k
  bs : ∀ x ∈ l', Cm (fun k => Off (w.heap.size + 2) u' v' k ∧ k ≠ g) W x.s x.bs ∧ x.bs.length ≤ 1000
  gi : w.heap.size + 2 ≤ g
  e : Below w.heap.size w W
theorem Nx.below {w W W' : World} {g : Nat} {u v u' v' : Sl} {t' : List Int} {l' : List Sb} (h : Nx w W g u v u' v' t' l') (hb : Below W.heap.size W W') : Nx w W' g u v u' v' t' l' :=
  ⟨h.k1.below hb, h.k2.below hb, h.k9.below hb, Own.below h.oi hb, Own.below h.ob hb, h.ui, h.vi, fun x hx => ⟨(h.bs x hx).1.keep (Kept.all hb (Nat.le_refl _)), (h.bs x hx).2⟩, h.gi, Zab h.e hb⟩
theorem Nx.start {D:Nat→Prop}{W1 W2:World}(T:Tb D w W1 u v l)(hb:Below W1.heap.size W1 W2)(lw:Lw (W1.heap.size+2) W2 u' v' t l') :
    ∃W3,(Instr.storeAt 67 (.pointer (some ⟨W2.heap.size,0,none⟩)) (lfV u' v')).run Tryz.prog (W2.alloc (.cells #[.slice none 0 0,.slice none 0 0] 67))=.ok () W3∧Nx w W3 W2.heap.size u v u' v' t l':=by
  have T2:=T.below hb
  have hA:=Zaa W2 (.cells #[.slice none 0 0,.slice none 0 0] 67)
  have hs:=T.sz
  have kn:=Zan W2 (.slice none 0 0) (.slice none 0 0)
  obtain⟨W3,hst,k',f⟩:=ZbB _ _ _ _ kn u' v'
  have s2:=T2.sz
  have hB:Below W2.heap.size W2 W3:=hA.trans (f.below hA.size (fun k hk=>by omega))
  refine⟨W3,hst,T2.k1.below hB,T2.k2.below hB,k',Own.below lw.oi hB,Own.below lw.ob hB,fun k hk=>by have:=lw.ui k hk;omega,fun k hk=>by have:=lw.vi k hk;omega,fun x hx=>⟨?_,(lw.bs x hx).2⟩,T2.sz,Zab T2.e hB⟩
  refine((lw.bs x hx).1.mono (fun k hk hl=>?_)).keep (Kept.all hB (Nat.le_refl _))
  exact⟨⟨by have:=hk.1;omega,hk.2⟩,by omega⟩
theorem Nx.fin {w W : World} {g : Nat} {u v u' v' : Sl} {t' : List Int} {l' : List Sb} (h : Nx w W g u v u' v' t' l') (ht : t'.length ≤ 1000000) (hl : l'.length ≤ 1000) :
    ∃ W', (Instr.storeAt 67 (.pointer (some ⟨w.heap.size + 1, 0, none⟩)) (lfV u' v')).run Tryz.prog W = .ok () W' ∧ LfBlk W' (w.heap.size + 1) u'.val v'.val ∧ ∀ mk, Told w t' (bss l') mk (.returned (mk (lfV u' v'))) W' :=
  ZeV h.k2 h.e (OwnN.gi h.oi h.ui (by have := OwnN.len h.oi; omega)) (OwnB.gb h.ob (fun x hx => ⟨(h.bs x hx).1.wide (fun k hk => hk.1.1), (h.bs x hx).2⟩) h.vi (by have := OwnB.len h.ob; omega))
theorem Nx.setI {b o n c:Nat}(h:Nx w W g u v ⟨some ⟨b,o,none⟩,n,c⟩ v' t' l')(i:Nat)(hi:i<n)(x:Int) :
    ∃W',(Instr.storeAt 3 (.pointer (some ⟨b,o+i,none⟩)) (.int .i64 x)).run Tryz.prog W=.ok () W'∧Nx w W' g u v ⟨some ⟨b,o,none⟩,n,c⟩ v' (t'.set i x) l':=by
  obtain⟨W',hst,o',f⟩:=Zom W b o n c t' h.oi i hi x
  have hb:=h.ui b rfl
  refine⟨W',hst,h.k1.off f (by omega),h.k2.off f (by omega),h.k9.off f (fun e=>Own.unbox h.oi h.k9 (by decide) (by rw [e];rfl)),o',Own.kept h.ob f (fun e=>Own.apart h.oi h.ob (by decide) b rfl e),h.ui,h.vi,fun x hx=>⟨(h.bs x hx).1.keep (Kept.frm f (fun k hk e=>hk.1.2.1 (by rw [e];rfl))),(h.bs x hx).2⟩,h.gi,h.e.trans (f.below h.e.size (fun k hk=>by omega))⟩
theorem Nx.setE {b o n c:Nat}(h:Nx w W g u v u' ⟨some ⟨b,o,none⟩,n,c⟩ t' l')(i:Nat)(hi:i<n) :
    ∃W',(Instr.storeAt 56 (.pointer (some ⟨b,o+i,none⟩)) (.slice none 0 0)).run Tryz.prog W=.ok () W'∧Nx w W' g u v u' ⟨some ⟨b,o,none⟩,n,c⟩ t' (l'.set i Sb.zero):=by
  obtain⟨W',hst,o',f⟩:=ZfX W b o n c l' h.ob i hi Sb.zero
  have hb:=h.vi b rfl
  refine⟨W',hst,h.k1.off f (by omega),h.k2.off f (by omega),h.k9.off f (fun e=>Own.unbox h.ob h.k9 (by decide) (by rw [e];rfl)),Own.kept h.oi f (fun e=>Own.apart h.oi h.ob (by decide) b e rfl),o',h.ui,h.vi,fun x hx=>?_,h.gi,h.e.trans (f.below h.e.size (fun k hk=>by omega))⟩
  rcases List.mem_or_eq_of_mem_set hx with hx | rfl
  · exact⟨(h.bs x hx).1.keep (Kept.frm f (fun k hk e=>hk.1.2.2 (by rw [e];rfl))),(h.bs x hx).2⟩
  · exact⟨Cm.none W',Nat.zero_le _⟩
theorem Nx.setR {W':World}(h:Nx w W g u v u' v' t' l'){i:Nat}{xs:List Nat}{s:Sl}(y:Ly W W' g u' v' l' i xs s)(hx:Bytes xs)(hl:xs.length≤1000):Nx w W' g u v u' v' t' (l'.set i ⟨s,xs⟩):=by
 have hoi:OwnN W' u' t':=Own.frame h.oi (fun k hk=>y.f.block k (Own.lt h.oi hk) (Own.apart h.oi h.ob (by decide) k hk))
 refine⟨y.f.lf h.k1 (fun e=>by have:=h.vi _ e;omega),y.f.lf h.k2 (fun e=>by have:=h.vi _ e;omega),y.k,hoi,y.ob,h.ui,h.vi,fun x hx'=>?_,h.gi,h.e.trans (y.f.below h.e.size (fun k hk=>by have:=h.vi k hk;omega))⟩
 rcases List.mem_or_eq_of_mem_set hx' with hx' | rfl
 · exact⟨(h.bs x hx').1.keep (Kept.frm y.f (fun k hk=>hk.1.2.2)),(h.bs x hx').2⟩
 · have hc:=Own.offs y.os hx (B:=W.heap.size) y.si hoi y.ob
   refine⟨hc.wide (fun k hk=>⟨⟨?_,hk.2⟩,?_⟩),hl⟩
   · have:=hk.1
     have:=h.e.size
     have:=h.k2.lt
     omega
   · have:=hk.1
     have:=h.k9.lt
     omega
theorem Nx.slots {v2:Sl}{l2:List Sb}(h:Nx w W g u v u' v' t' l')(ob:OwnB W v2 l2)(hv:∀k,v2.blk=some k→w.heap.size+2≤k)(hb:∀x∈l2,Cm (fun k=>Off (w.heap.size+2) u' v2 k∧k≠g) W x.s x.bs∧x.bs.length≤1000) :
    ∃W',(Instr.storeAt 65 (.pointer (some ⟨g,1,none⟩)) v2.val).run Tryz.prog W=.ok () W'∧Nx w W' g u v u' v2 t' l2:=by
  obtain⟨W',hst,k',f⟩:=Ziq W g _ _ h.k9 v2
  have hg:=h.gi
  refine⟨W',hst,h.k1.off f (by omega),h.k2.off f (by omega),k',Own.kept h.oi f (Own.unbox h.oi h.k9 (by decide)),Own.kept ob f (Own.unbox ob h.k9 (by decide)),h.ui,hv,fun x hx=>⟨(hb x hx).1.keep (Kept.frm f (fun k hk=>hk.2)),(hb x hx).2⟩,h.gi,h.e.trans (f.below h.e.size (fun k hk=>by omega))⟩
def mk2 (c : Int) (x : Value) : Value := .tuple #[x, .int .i64 c]
theorem ZmX {D:Nat→Prop}(w:World)(u v:Sl)(t:List Int)(l:List Sb)(hi:Gi D w u t)(hg:Gb D w v l)(hm:MayL ⟨t,bss l⟩)(p:Int)(r:Sl)(live:List Int)(hr:Gi D w r live)(X:Js)(hX1:p<1∨2147483647<p→X=⟨t,1⟩)(hX0:1≤p→p≤2147483647→t.contains p=true→X=⟨t,0⟩)(hX8:1≤p→p≤2147483647→t.contains p=false→freeI t live = -1→X=⟨t,8⟩)(hXs:1≤p→p≤2147483647→t.contains p=false→∀f:Nat,freeI t live=(f:Int)→X=⟨t.set f p,0⟩) :
    Calls Tryz.prog 49 #[lfV u v,.int .i64 p,r.val] w fun e w'=>Told w X.t (bss l) (mk2 X.e) e w':=by
  have hT:=Tb.start u hg
  have HT:=hide hT
  have HCK:=hide (ZbY _ u v t l (hi.below hT.e (Nat.le_refl _)) hT.g hm)
  have HCP:Hid (∀W,Below w.heap.size w W→_):=fun W hW=>Zb5 W u v t l (hi.below hW (Nat.le_refl _)) (hg.below hW (Nat.le_refl _))
  have HCT:Hid (∀W,Below w.heap.size w W→_):=fun W hW=>ZbZ W u t (hi.below hW (Nat.le_refl _)) p
  have HFP:Hid (∀W,Below w.heap.size w W→_):=fun W hW=>Zgs W u t (hi.below hW (Nat.le_refl _)) r live (hr.below hW (Nat.le_refl _))
  have HTL:Hid (t.length=4):=hm.itl.1
  have HLL:Hid (l.length≤1000):=by have:=hg.len;have:=hg.big;show _≤_;omega
  have HFR:=hide (Zic (t:=t) live)
  have HX1:=hide hX1
  have HX0:=hide hX0
  have HX8:=hide hX8
  have HXs:=hide hXs
  clear hT hi hg hm hr hX1 hX0 hX8 hXs
  obtain⟨a,len,cap⟩:=v
  obtain⟨ua,ul,uc⟩:=u
  obtain⟨ra,rl,rc⟩:=r
  unfold lfV Sl.val at *
  simp only at *
  go_enter Tryz.func49,Tryz.ntmps49
  go_wp2_with fail
  refine HCK.out.mono ?_
  rintro e w1 ⟨rfl,hb⟩
  have T1:=HT.out.below hb
  have c0:=T1.k1.c0
  have c1:=T1.k1.c1
  have HT1:=hide T1
  clear hb T1 HT HCK
  unfold Sl.val at *
  simp only at *
  go_wp2_with fail
  refine(HCP.out w1 HT1.out.e).mono ?_
  rintro e w2 ⟨hb2,⟨a2,n2,k2⟩,⟨a5,n5,k5⟩,l',rfl,lw,hbs⟩
  obtain⟨W3,hst3,nx⟩:=Nx.start HT1.out hb2 lw
  have HST3:=hide hst3
  have HBS:=hide hbs
  have hlen:l'.length≤1000:=by rw [bss_len hbs];exact HLL.out
  obtain⟨W9,hst9,k9,hf9⟩:=nx.fin (by rw [HTL.out];decide) hlen
  have HST9:=hide hst9
  have HK9:=hide k9
  have c0:=nx.k9.c0
  have c1:=nx.k9.c1
  have d0:=nx.k1.c0
  have d1:=nx.k1.c1
  have HNX:=hide nx
  clear lw hb2 hbs nx HT1 HCP hst3 hst9 k9 hlen
  unfold lfV Sl.val at *
  simp only at *
  by_cases hp1:p<1
  · have HXE:=hide (HX1.out (.inl hp1))
    have HF:Hid (Told w X.t (bss l) (mk2 X.e) (.returned (mk2 1 (lfV ⟨a2,n2,k2⟩ ⟨a5,n5,k5⟩))) W9):=by rw [HXE.out,← HBS.out];exact hf9 (mk2 1)
    clear hf9 HXE
    go_wp2_with (first | refine Zaw _ rfl 67 rfl (.pointer (some ⟨w2.heap.size,0,none⟩)) (w2.alloc (.cells #[.slice none 0 0,.slice none 0 0] 67)) (Zaz w2) ?_ | refine Zac _ rfl rfl 67 (.tmp 9) (.tmp 18) rfl (.pointer (some ⟨w2.heap.size,0,none⟩)) (.agg #[.slice a2 n2 k2,.slice a5 n5 k5]) rfl rfl W3 HST3.out ?_ | refine Zac _ rfl rfl 67 (.tmp 6) (.tmp 25) rfl (.pointer (some ⟨w.heap.size+1,0,none⟩)) (.agg #[.slice a2 n2 k2,.slice a5 n5 k5]) rfl rfl W9 HST9.out ?_)
    refine bodyPost_ret (Zao (u:=⟨a2,n2,k2⟩) (v:=⟨a5,n5,k5⟩) rfl HK9.out _ rfl rfl) rfl ?_
    exact HF.out
  · by_cases hp2:2147483647<p
    · have HXE:=hide (HX1.out (.inr hp2))
      have HF:Hid (Told w X.t (bss l) (mk2 X.e) (.returned (mk2 1 (lfV ⟨a2,n2,k2⟩ ⟨a5,n5,k5⟩))) W9):=by rw [HXE.out,← HBS.out];exact hf9 (mk2 1)
      clear hf9 HXE
      go_wp2_with (first | refine Zaw _ rfl 67 rfl (.pointer (some ⟨w2.heap.size,0,none⟩)) (w2.alloc (.cells #[.slice none 0 0,.slice none 0 0] 67)) (Zaz w2) ?_ | refine Zac _ rfl rfl 67 (.tmp 9) (.tmp 18) rfl (.pointer (some ⟨w2.heap.size,0,none⟩)) (.agg #[.slice a2 n2 k2,.slice a5 n5 k5]) rfl rfl W3 HST3.out ?_ | refine Zac _ rfl rfl 67 (.tmp 6) (.tmp 25) rfl (.pointer (some ⟨w.heap.size+1,0,none⟩)) (.agg #[.slice a2 n2 k2,.slice a5 n5 k5]) rfl rfl W9 HST9.out ?_)
      refine bodyPost_ret (Zao (u:=⟨a2,n2,k2⟩) (v:=⟨a5,n5,k5⟩) rfl HK9.out _ rfl rfl) rfl ?_
      exact HF.out
    · have q1:1≤p:=by omega
      have q2:p≤2147483647:=by omega
      have HC3:=hide (HCT.out W3 HNX.out.e)
      clear HCT
      cases hct:t.contains p with
      | true =>
       rw [hct] at HC3
       have HXE:=hide (HX0.out q1 q2 hct)
       have HF:Hid (Told w X.t (bss l) (mk2 X.e) (.returned (mk2 0 (lfV ⟨a2,n2,k2⟩ ⟨a5,n5,k5⟩))) W9):=by rw [HXE.out,← HBS.out];exact hf9 (mk2 0)
       clear hf9 HXE hct
       go_wp2_with (first | refine Zaw _ rfl 67 rfl (.pointer (some ⟨w2.heap.size,0,none⟩)) (w2.alloc (.cells #[.slice none 0 0,.slice none 0 0] 67)) (Zaz w2) ?_ | refine Zac _ rfl rfl 67 (.tmp 9) (.tmp 18) rfl (.pointer (some ⟨w2.heap.size,0,none⟩)) (.agg #[.slice a2 n2 k2,.slice a5 n5 k5]) rfl rfl W3 HST3.out ?_)
       refine HC3.out.mono ?_
       rintro e w4 ⟨rfl,hw⟩
       obtain rfl:=hw
       go_wp2_with (first | refine Zac _ rfl rfl 67 (.tmp 6) (.tmp 30) rfl (.pointer (some ⟨w.heap.size+1,0,none⟩)) (.agg #[.slice a2 n2 k2,.slice a5 n5 k5]) rfl rfl W9 HST9.out ?_)
       refine bodyPost_ret (Zao (u:=⟨a2,n2,k2⟩) (v:=⟨a5,n5,k5⟩) rfl HK9.out _ rfl rfl) rfl ?_
       exact HF.out
      | false =>
       rw [hct] at HC3
       have HX8':=hide (HX8.out q1 q2 hct)
       have HXs':=hide (HXs.out q1 q2 hct)
       clear HX8 HXs HX1 HX0 hct hf9 HST9 HK9
       go_wp2_with (first | refine Zaw _ rfl 67 rfl (.pointer (some ⟨w2.heap.size,0,none⟩)) (w2.alloc (.cells #[.slice none 0 0,.slice none 0 0] 67)) (Zaz w2) ?_ | refine Zac _ rfl rfl 67 (.tmp 9) (.tmp 18) rfl (.pointer (some ⟨w2.heap.size,0,none⟩)) (.agg #[.slice a2 n2 k2,.slice a5 n5 k5]) rfl rfl W3 HST3.out ?_)
       refine HC3.out.mono ?_
       rintro e w4 ⟨rfl,hw⟩
       obtain rfl:=hw
       have HF4:=hide (HFP.out w4 HNX.out.e)
       clear HFP HC3
       go_wp2_with fail
       refine HF4.out.mono ?_
       rintro e w5 ⟨rfl,hb5⟩
       have nx5:=HNX.out.below hb5
       have c0:=nx5.k9.c0
       have c1:=nx5.k9.c1
       have HNX5:=hide nx5
       clear hb5 nx5 HF4 HNX
       unfold Sl.val at *
       simp only at *
       obtain⟨z,hz⟩:∃z,z=freeI t live:=⟨_,rfl⟩
       rw [← hz] at HX8' HXs' HFR
       rw [← hz]
       clear hz
       by_cases h8:z = -1
       · subst h8
         obtain⟨W9,hst9,k9,hf9⟩:=HNX5.out.fin (by rw [HTL.out];decide) (by rw [bss_len HBS.out];exact HLL.out)
         have HF:Hid (Told w X.t (bss l) (mk2 X.e) (.returned (mk2 8 (lfV ⟨a2,n2,k2⟩ ⟨a5,n5,k5⟩))) W9):=by rw [HX8'.out rfl,← HBS.out];exact hf9 (mk2 8)
         have HST9:=hide hst9
         have HK9:=hide k9
         clear hst9 k9 hf9 HX8' HXs'
         unfold lfV Sl.val at *
         simp only at *
         go_wp2_with (first | refine Zac _ rfl rfl 67 (.tmp 6) (.tmp 37) rfl (.pointer (some ⟨w.heap.size+1,0,none⟩)) (.agg #[.slice a2 n2 k2,.slice a5 n5 k5]) rfl rfl W9 HST9.out ?_)
         refine bodyPost_ret (Zao (u:=⟨a2,n2,k2⟩) (v:=⟨a5,n5,k5⟩) rfl HK9.out _ rfl rfl) rfl ?_
         exact HF.out
       · have hfr:=HFR.out
         rw [HTL.out] at hfr
         obtain⟨f,rfl⟩:=Int.eq_ofNat_of_zero_le (by omega:0≤z)
         have hf4:f<4:=by omega
         have h82:((f:Int) == -1)=false:=by simp
         have hn4:n2=4:=by have:=OwnN.len HNX5.out.oi;rw [HTL.out] at this;exact this.symm
         subst hn4
         obtain⟨b2,o2,ha2⟩:=OwnN.pos HNX5.out.oi (by show 0<4;omega)
         replace ha2:a2=some ⟨b2,o2,none⟩:=ha2
         subst ha2
         have i1:(f:Int)<4:=by omega
         obtain⟨W6,hst6,nx6⟩:=HNX5.out.setI f hf4 p
         obtain⟨W9,hst9,k9,hf9⟩:=nx6.fin (by rw [List.length_set,HTL.out];decide) (by rw [bss_len HBS.out];exact HLL.out)
         have HF:Hid (Told w X.t (bss l) (mk2 X.e) (.returned (mk2 0 (lfV ⟨some ⟨b2,o2,none⟩,4,k2⟩ ⟨a5,n5,k5⟩))) W9):=by rw [HXs'.out f rfl,← HBS.out];exact hf9 (mk2 0)
         have HST6:=hide hst6
         have HST9:=hide hst9
         have HK9:=hide k9
         have e0:=nx6.k9.c0
         have e1:=nx6.k9.c1
         clear hst9 k9 hf9 HX8' HXs' hst6 nx6 hfr HNX5 HFR
         unfold lfV Sl.val at *
         simp only at *
         go_wp2_with (first | refine Zac _ rfl rfl 3 (.tmp 42) (.tmp 41) rfl (.pointer (some ⟨b2,o2+f,none⟩)) (.int .i64 p) rfl rfl W6 HST6.out ?_ | refine Zac _ rfl rfl 67 (.tmp 6) (.tmp 43) rfl (.pointer (some ⟨w.heap.size+1,0,none⟩)) (.agg #[.slice (some ⟨b2,o2,none⟩) 4 k2,.slice a5 n5 k5]) rfl rfl W9 HST9.out ?_)
         refine bodyPost_ret (Zao (u:=⟨some ⟨b2,o2,none⟩,4,k2⟩) (v:=⟨a5,n5,k5⟩) rfl HK9.out _ rfl rfl) rfl ?_
         exact HF.out
theorem ZfK {D : Nat → Prop} (w : World) (u v : Sl) (t : List Int) (l : List Sb) (hi : Gi D w u t) (hg : Gb D w v l) (hm : MayL ⟨t, bss l⟩) (p : Int) (r : Sl) (live : List Int) (hr : Gi D w r live) :
    Calls Tryz.prog 49 #[lfV u v, .int .i64 p, r.val] w fun e w' => Told w (joinI t p live).t (bss l) (mk2 (joinI t p live).e) e w' := by
  refine ZmX w u v t l hi hg hm p r live hr _ (fun h => ?_) (fun h1 h2 h3 => ?_) (fun h1 h2 h3 h4 => ?_) (fun h1 h2 h3 f h4 => ?_)
  · unfold joinI; rw [if_pos h]
  · unfold joinI; rw [if_neg (by omega), if_pos h3]
  · unfold joinI; rw [if_neg (by omega), if_neg (by rw [h3]; decide), if_pos (by rw [h4]; decide)]
  · unfold joinI; rw [if_neg (by omega), if_neg (by rw [h3]; decide), if_neg (by rw [h4]; omega), h4, Int.toNat_natCast]
theorem Nx.grow (h:Nx w W g u v u' v' t' l')(hl:v'.len≤1000) :
    ∃(a1:Option Addr) (c1:Nat) (W1 W2:World),(∀ty,(Builtin.append_ #[65,65] ty #[v'.val,.slice (some ⟨W.heap.size,0,none⟩) 1 1]).run Tryz.prog (W.alloc (.cells #[.slice none 0 0] 56))=.ok (.slice a1 (v'.len+1) c1) W1)∧v'.len+1≤c1 ∧
     LfBlk W1 g u'.val v'.val∧(Instr.storeAt 65 (.pointer (some ⟨g,1,none⟩)) (.slice a1 (v'.len+1) (v'.len+1))).run Tryz.prog W1=.ok () W2∧Nx w W2 g u v u' ⟨a1,v'.len+1,v'.len+1⟩ t' (l' ++ [Sb.zero]):=by
 have hA:=Zaa W (.cells #[.slice none 0 0] 56)
 have h1:=h.below hA
 have hs:Src Tryz.prog 1 65 (.slice (some ⟨W.heap.size,0,none⟩) 1 1) 1 (Za6 [Sb.zero]) (W.alloc (.cells #[.slice none 0 0] 56)):=by
  refine Src.ofSlice _ Tryz.underlying65 _ 1 1 (Za6 [Sb.zero]) rfl (fun j u hj=>?_) (Zd4 _)
  cases j with
  | zero =>
   have e:Value.slice none 0 0=u:=Option.some.inj hj
   subst e
   have hn:=heap_alloc_new W (.cells #[.slice none 0 0] 56)
   rw [Addr.add_lit]
   simp only [World.cell?]
   rw [hn]
   rfl
  | succ j=>simp [Za6] at hj
 obtain⟨v1,W1,hrun,ho,hlen,hf,hbk⟩:=ZaR Tryz.underlying65 ZfG rfl (by decide) _ v' (Za6 l') h1.ob (Zd4 l') _ 1 _ hs (by omega) 0
 have ho':OwnB W1 v1 (l' ++ [Sb.zero]):=by
  have e:Za6 (l' ++ [Sb.zero])=Za6 l' ++ Za6 [Sb.zero]:=by simp [Za6]
  unfold OwnB
  rw [e]
  exact ho
 have ho2:OwnB W1 ⟨v1.a,v'.len+1,v'.len+1⟩ (l' ++ [Sb.zero]):=by
  have:=Own.cut ho' (n:=v'.len+1) (by omega)
  rw [List.take_of_length_le (by rw [Zbf,OwnB.len ho'];omega)] at this
  exact this
 have k9:LfBlk W1 g u'.val v'.val:=hf.lf h1.k9 (fun e=>Own.unbox h1.ob h1.k9 (by decide) e)
 have hoi:OwnN W1 u' t':=Own.frame h1.oi (fun k hk=>hf.block k (Own.lt h1.oi hk) (Own.apart h1.oi h1.ob (by decide) k hk))
 have hv2:∀k,Sl.blk ⟨v1.a,v'.len+1,v'.len+1⟩=some k→w.heap.size+2≤k:=by
  intro k hk
  have hk':v1.blk=some k:=hk
  rcases hbk with e | ⟨e,_⟩
  · rw [e] at hk';exact h1.vi k hk'
  · rw [e] at hk';cases hk';have:=h1.k2.lt;omega
 have hcm:∀x∈l' ++ [Sb.zero],Cm (fun k=>Off (w.heap.size+2) u' ⟨v1.a,v'.len+1,v'.len+1⟩ k∧k≠g) W1 x.s x.bs∧x.bs.length≤1000:=by
  intro x hx
  rcases List.mem_append.1 hx with hx | hx
  · refine⟨((h1.bs x hx).1.mono (E:=fun k=>(Off (w.heap.size+2) u' ⟨v1.a,v'.len+1,v'.len+1⟩ k∧k≠g)∧v'.blk≠some k) (fun k hk hl=>⟨⟨⟨hk.1.1,hk.1.2.1,fun e=>?_⟩,hk.2⟩,hk.1.2.2⟩)).keep (Kept.frm hf (fun k hk=>hk.2)) |>.wide (fun k hk=>hk.1),(h1.bs x hx).2⟩
    have e':v1.blk=some k:=e
    rcases hbk with e2 | ⟨e2,_⟩
    · rw [e2] at e';exact hk.1.2.2 e'
    · rw [e2] at e';cases e';omega
  · rw [List.mem_singleton] at hx
    subst hx
    exact⟨Cm.none W1,Nat.zero_le _⟩
 have hB:Below w.heap.size w W1:=h1.e.trans (hf.below h1.e.size (fun k hk=>by have:=h1.vi k hk;omega))
 obtain⟨W2,hst,k2',f2⟩:=Ziq W1 g _ _ k9 ⟨v1.a,v'.len+1,v'.len+1⟩
 have hg:=h.gi
 have hne:∀k,k<w.heap.size+2→v'.blk≠some k:=fun k hk e=>by have:=h1.vi k e;omega
 refine⟨v1.a,v1.cap,W1,W2,fun ty=>?_,by have:=Own.lecap ho;omega,k9,hst,?_⟩
 · have:(Builtin.append_ #[65,65] ty #[v'.val,.slice (some ⟨W.heap.size,0,none⟩) 1 1]).run Tryz.prog (W.alloc (.cells #[.slice none 0 0] 56))=.ok v1.val W1:=hrun
   rw [this]
   unfold Sl.val
   rw [hlen]
 · exact⟨(hf.lf h1.k1 (hne _ (by omega))).off f2 (by omega),(hf.lf h1.k2 (hne _ (by omega))).off f2 (by omega),k2',Own.kept hoi f2 (Own.unbox hoi k9 (by decide)),Own.kept ho2 f2 (Own.unbox ho2 k9 (by decide)),h1.ui,hv2,fun x hx=>⟨(hcm x hx).1.keep (Kept.frm f2 (fun k hk=>hk.2)),(hcm x hx).2⟩,h.gi,hB.trans (f2.below hB.size (fun k hk=>by omega))⟩
section
variable {ops : Array Oper} {rest : List Oper} {o : Oper} {a : Act} {Q : Exit → Act → World → Prop}
theorem Zaj (w:World)(hgd:o.guard=none)(S:TypeId)(s y:Operand)(ho:o.op=.call { callee:=.builtin .append,args:=#[s,y],argTypes:=#[S,S] })(x1 x2 v:Value)(hs:a.eval s=x1)(hy:a.eval y=x2)(w':World)(hrun:∀ty,(Builtin.append_ #[S,S] ty #[x1,x2]).run Tryz.prog w=.ok v w')
    (hK:wpList Tryz.prog ops Q rest (a.put o.dst v) w'):wpList Tryz.prog ops Q (o :: rest) a w:=by
  refine wpList_plain hgd fun K hK'=>?_
  unfold Oper.wp
  simp [execOp,ho,resolve,invoke,builtin,hs,hy,hrun,Result.andThen]
  exact hK' _ _ hK
end
def layS (s : List (List Nat)) (k : Nat) (r : List Nat) : List (List Nat) := if k = s.length then s ++ [r] else s.set k r
theorem Zhk {D:Nat→Prop}(w:World)(u v:Sl)(t:List Int)(l:List Sb)(hi:Gi D w u t)(hg:Gb D w v l)(hm:MayL ⟨t,bss l⟩)(k:Nat)(hk:k≤v.len)(x:Sb)(hx:Cm D w x.s x.bs)(hx2:x.bs.length≤255)(X:Ans)(hX0:MayL ⟨t,layS (bss l) k x.bs⟩→X=⟨layS (bss l) k x.bs,0⟩)(hX7:¬MayL ⟨t,layS (bss l) k x.bs⟩→X=⟨bss l,7⟩) :
    Calls Tryz.prog 101 #[lfV u v,.int .i64 (k:Int),x.s.val] w fun e w'=>Told w t X.s (mk2 X.e) e w':=by
  have hT:=Tb.start u hg
  have HT:=hide hT
  have HCP:Hid (∀W,Below w.heap.size w W→_):=fun W hW=>Zb5 W u v t l (hi.below hW (Nat.le_refl _)) (hg.below hW (Nat.le_refl _))
  have HU:Hid (∀W,Below w.heap.size w W→Calls Tryz.prog 133 #[x.s.val] W fun e w'=>Below W.heap.size W w'∧∃s:Sl,e=.returned s.val∧Own 5 1 w' s (vals x.bs)∧s.len=x.s.len∧s.cap=x.s.len∧∀k,s.blk=some k→W.heap.size≤k):=fun W hW=>ZgF W _ _ (hx.keep (Kept.all hW (Nat.le_refl _))) (by have:=hx.len;omega)
  have HTL:Hid (t.length=4):=hm.itl.1
  have HLL:Hid (l.length≤64):=by have:=hm.slots.1;rw [Zah] at this;exact this
  have HL:=hide hg.len
  have HXB:=hide hx.came.bs.2.1
  have HXL:=hide hx.len.symm
  have HX0:=hide hX0
  have HX7:=hide hX7
  have hlen:v.len≤64:=by have:=hm.slots.1;have:=hg.len;rw [Zah] at *;omega
  have HE:Hid (∀(W:World) (g:Nat) (u' v':Sl) (l':List Sb),Nx w W g u v u' v' t l'→bss l'=layS (bss l) k x.bs→l'.length≤1000→Calls Tryz.prog 94 #[lfV u' v'] W fun e w'=>Zmq t (layS (bss l) k x.bs) e∧Below W.heap.size W w'):=by
   intro W g u' v' l' nx hb hl
   rw [← hb]
   exact Zd7 W u' v' t l' (D:=fun _=>True) (OwnN.gi nx.oi (fun _ _=>trivial) (by have:=OwnN.len nx.oi;have:=hm.itl.1;simp only at *;omega)) (OwnB.gb nx.ob (fun x hx=>⟨(nx.bs x hx).1.wide (fun _ _=>trivial),(nx.bs x hx).2⟩) (fun _ _=>trivial) (by have:=OwnB.len nx.ob;omega))
  clear hT hi hg hm hx hX0 hX7
  obtain⟨a,len,cap⟩:=v
  obtain⟨ua,ul,uc⟩:=u
  obtain⟨⟨xa,xl,xc⟩,xs⟩:=x
  unfold lfV Sl.val at *
  simp only at *
  go_enter Tryz.func101,Tryz.ntmps101
  go_wp2_with fail
  refine(HCP.out _ HT.out.e).mono ?_
  rintro e w2 ⟨hb2,⟨a2,n2,k2⟩,⟨a5,n5,k5⟩,l',rfl,lw,hbs⟩
  obtain⟨W3,hst3,nx⟩:=Nx.start HT.out hb2 lw
  have HST3:=hide hst3
  have HBS:=hide hbs
  have hn5:n5=len:=by have h1:=OwnB.len lw.ob;have h2:=HL.out;rw [bss_len hbs] at h1;show n5=len;simp only at h1 h2;omega
  subst hn5
  have c0:=nx.k9.c0
  have c1:=nx.k9.c1
  have d0:=nx.k1.c0
  have d1:=nx.k1.c1
  have HNX:=hide nx
  clear lw hb2 hbs nx hst3 HT
  unfold lfV Sl.val at *
  simp only at *
  by_cases hkl:k=n5
  · subst hkl
    obtain⟨a6,c6,W4,W5,hap,hc6,k4,hst5,nx5⟩:=HNX.out.grow (by show k≤1000;omega)
    have HAP:=hide hap
    have HST5:=hide hst5
    have HNX5:=hide nx5
    have HCUT:=hide (ZcV W4 a6 (k+1) c6 (k+1) hc6)
    have ek:((k+1:Nat):Int)=(k:Int)+1:=by omega
    rw [ek] at HCUT
    have e0:=k4.c0
    have e1:=k4.c1
    clear hap k4 hst5 nx5 ek
    unfold Sl.val at *
    simp only at *
    go_wp2_with (first | refine Zaw _ rfl 67 rfl (.pointer (some ⟨w2.heap.size,0,none⟩)) (w2.alloc (.cells #[.slice none 0 0,.slice none 0 0] 67)) (Zaz w2) ?_ | refine Zac _ rfl rfl 67 (.tmp 8) (.tmp 10) rfl (.pointer (some ⟨w2.heap.size,0,none⟩)) (.agg #[.slice a2 n2 k2,.slice a5 k k5]) rfl rfl W3 HST3.out ?_ | (at_builtin;refine Zaj _ rfl 65 (.tmp 17) (.tmp 18) rfl (.slice a5 k k5) (.slice (some ⟨W3.heap.size,0,none⟩) 1 1) (.slice a6 (k+1) c6) rfl rfl W4 HAP.out ?_))
    refine HCUT.out.mono ?_
    rintro e w4 ⟨rfl,hw⟩
    obtain rfl:=hw
    clear HCUT HAP HST3 HNX c0 c1 d0 d1
    go_wp2_with (refine Zac _ rfl rfl 65 (.tmp 23) (.tmp 22) rfl (.pointer (some ⟨w2.heap.size,1,none⟩)) (.slice a6 (k+1) (k+1)) rfl rfl W5 HST5.out ?_)
    clear e0 e1 HST5
    obtain⟨b6,o6,ha6⟩:=OwnB.pos HNX5.out.ob (by show 0<k+1;omega)
    replace ha6:a6=some ⟨b6,o6,none⟩:=ha6
    subst ha6
    obtain⟨l6,hl6⟩:∃l6,l6=l' ++ [Sb.zero]:=⟨_,rfl⟩
    have HL6:Hid (l6.length≤1000):=by show _≤_;rw [hl6,List.length_append,bss_len HBS.out,HL.out];show k+1≤1000;omega
    have HB6:Hid (∀s7:Sl,bss (l6.set k ⟨s7,xs⟩)=layS (bss l) k xs):=by
     intro s7
     have h1:(bss l).length=k:=by rw [Zah];exact HL.out
     have h2:bss l6=bss l ++ [[]]:=by rw [hl6,← HBS.out];simp [bss,Sb.zero]
     unfold layS
     rw [Zei,h2,if_pos h1.symm,← h1,List.set_append_right _ _ (Nat.le_refl _)]
     simp
    rw [← hl6] at HNX5
    clear hl6
    have hk6:k<k+1:=Nat.lt_succ_self k
    obtain⟨WX,hWX⟩:∃W,W=W5:=⟨_,rfl⟩
    rw [← hWX] at HNX5
    rw [← hWX]
    clear hWX
    refine Pl.q9 (ops:=Pl.find 4 ((Tryz.f101.body).getD .skip)) ?_
    refine lay4 WX w2.heap.size b6 o6 (k+1) (k+1) k ⟨a2,n2,k2⟩ ⟨xa,xl,xc⟩ l6 xs hk6 HXL.out HNX5.out.k9 HNX5.out.ob (fun W hW=>HU.out W (Zab HNX5.out.e hW)) (by rfl) rfl (by rfl) (by rfl) (by rfl) ?_
    intro q w7 s7 ly
    have nx7:=HNX5.out.setR ly HXB.out (by omega)
    have hl7:(l6.set k ⟨s7,xs⟩).length≤1000:=by rw [List.length_set];exact HL6.out
    have hb7:=HB6.out s7
    have f0:=nx7.k9.c0
    have f1:=nx7.k9.c1
    have g0:=nx7.k1.c0
    have g1:=nx7.k1.c1
    have HCK:=hide (HE.out w7 _ _ _ _ nx7 hb7 hl7)
    have HNX7:=hide nx7
    have HB7:=hide hb7
    have HL7:=hide hl7
    clear ly nx7 hb7 hl7 HE HNX5 HL6 HB6 HU HXB
    simp only [Act.put,List.setIfInBounds_toArray,List.set_cons_zero,List.set_cons_succ]
    unfold Sl.val at *
    simp only at *
    go_wp2_with fail
    refine HCK.out.mono ?_
    rintro e w8 ⟨hc,hb8⟩
    have nx8:=HNX7.out.below hb8
    have m0:=nx8.k9.c0
    have m1:=nx8.k9.c1
    have p0:=nx8.k1.c0
    have p1:=nx8.k1.c1
    clear f0 f1 g0 g1 hb8 HNX7 HCK
    rcases hc with ⟨hm,rfl⟩ | ⟨hm,rfl⟩
    · obtain⟨W9,hst9,k9,hf9⟩:=nx8.fin (by rw [HTL.out];decide) HL7.out
      have HF:Hid (Told w t X.s (mk2 X.e) (.returned (mk2 0 (lfV ⟨a2,n2,k2⟩ ⟨some ⟨b6,o6,none⟩,k+1,k+1⟩))) W9):=by rw [HX0.out hm,← HB7.out];exact hf9 (mk2 0)
      have HST9:=hide hst9
      have HK9:=hide k9
      clear hst9 k9 hf9 nx8 HX0 HX7 hm HCP
      unfold lfV Sl.val at *
      simp only at *
      go_wp2_with (refine Zac _ rfl rfl 67 (.tmp 6) (.tmp 35) rfl (.pointer (some ⟨w.heap.size+1,0,none⟩)) (.agg #[.slice a2 n2 k2,.slice (some ⟨b6,o6,none⟩) (k+1) (k+1)]) rfl rfl W9 HST9.out ?_)
      refine bodyPost_ret (Zao (u:=⟨a2,n2,k2⟩) (v:=⟨some ⟨b6,o6,none⟩,k+1,k+1⟩) rfl HK9.out _ rfl rfl) rfl ?_
      exact HF.out
    · have HXE:=hide (HX7.out hm)
      have HCP8:=hide (HCP.out w8 nx8.e)
      have HNX8:=hide nx8
      clear nx8 HX0 HX7 hm HCP
      unfold Sl.val at *
      simp only at *
      go_wp2_with fail
      refine HCP8.out.mono ?_
      rintro e w9 ⟨hb9,⟨a8,n8,k8⟩,⟨a9,n9,k9⟩,l9,rfl,lw9,hbs9⟩
      have nx9:=HNX8.out.below hb9
      have hw8:w.heap.size+2≤w8.heap.size+2:=by have:=HNX8.out.k2.lt;omega
      obtain⟨W9,hst9,kk9,hf9⟩:=ZeV nx9.k2 nx9.e ((lw9.gi (by rw [HTL.out];decide)).wide (fun k hk=>Nat.le_trans hw8 hk)) ((lw9.gb (by rw [bss_len hbs9];have:=HLL.out;omega)).wide (fun k hk=>Nat.le_trans hw8 hk))
      have HF:Hid (Told w t X.s (mk2 X.e) (.returned (mk2 7 (lfV ⟨a8,n8,k8⟩ ⟨a9,n9,k9⟩))) W9):=by rw [HXE.out,← hbs9];exact hf9 (mk2 7)
      have HST9:=hide hst9
      have HK9:=hide kk9
      clear hst9 kk9 hf9 nx9 lw9 hbs9 hw8 hb9 HXE HCP8 HNX8
      unfold lfV Sl.val at *
      simp only at *
      go_wp2_with (refine Zac _ rfl rfl 67 (.tmp 6) (.tmp 34) rfl (.pointer (some ⟨w.heap.size+1,0,none⟩)) (.agg #[.slice a8 n8 k8,.slice a9 n9 k9]) rfl rfl W9 HST9.out ?_)
      refine bodyPost_ret (Zao (u:=⟨a8,n8,k8⟩) (v:=⟨a9,n9,k9⟩) rfl HK9.out _ rfl rfl) rfl ?_
      exact HF.out
  · have hkl2:k<n5:=by omega
    have i1:¬(k:Int)=(n5:Int):=by omega
    have i2:((k:Int) == (n5:Int))=false:=by simp;omega
    go_wp2_with (first | refine Zaw _ rfl 67 rfl (.pointer (some ⟨w2.heap.size,0,none⟩)) (w2.alloc (.cells #[.slice none 0 0,.slice none 0 0] 67)) (Zaz w2) ?_ | refine Zac _ rfl rfl 67 (.tmp 8) (.tmp 10) rfl (.pointer (some ⟨w2.heap.size,0,none⟩)) (.agg #[.slice a2 n2 k2,.slice a5 n5 k5]) rfl rfl W3 HST3.out ?_)
    clear HST3 c0 c1 d0 d1
    obtain⟨b6,o6,ha6⟩:=OwnB.pos HNX.out.ob (by show 0<n5;omega)
    replace ha6:a5=some ⟨b6,o6,none⟩:=ha6
    subst ha6
    obtain⟨l6,hl6⟩:∃l6,l6=l':=⟨_,rfl⟩
    have HL6:Hid (l6.length≤1000):=by show _≤_;rw [hl6,bss_len HBS.out,HL.out];show n5≤1000;omega
    have HB6:Hid (∀s7:Sl,bss (l6.set k ⟨s7,xs⟩)=layS (bss l) k xs):=by
     intro s7
     have h1:(bss l).length=n5:=by rw [Zah];exact HL.out
     unfold layS
     rw [Zei,hl6,HBS.out,if_neg (by rw [h1];omega)]
    rw [← hl6] at HNX
    clear hl6
    have hk6:k<n5:=hkl2
    obtain⟨WX,hWX⟩:∃W,W=W3:=⟨_,rfl⟩
    rw [← hWX] at HNX
    rw [← hWX]
    clear hWX i1 i2
    refine Pl.q9 (ops:=Pl.find 4 ((Tryz.f101.body).getD .skip)) ?_
    refine lay4 WX w2.heap.size b6 o6 (n5) (k5) k ⟨a2,n2,k2⟩ ⟨xa,xl,xc⟩ l6 xs hk6 HXL.out HNX.out.k9 HNX.out.ob (fun W hW=>HU.out W (Zab HNX.out.e hW)) (by rfl) rfl (by rfl) (by rfl) (by rfl) ?_
    intro q w7 s7 ly
    have nx7:=HNX.out.setR ly HXB.out (by omega)
    have hl7:(l6.set k ⟨s7,xs⟩).length≤1000:=by rw [List.length_set];exact HL6.out
    have hb7:=HB6.out s7
    have f0:=nx7.k9.c0
    have f1:=nx7.k9.c1
    have g0:=nx7.k1.c0
    have g1:=nx7.k1.c1
    have HCK:=hide (HE.out w7 _ _ _ _ nx7 hb7 hl7)
    have HNX7:=hide nx7
    have HB7:=hide hb7
    have HL7:=hide hl7
    clear ly nx7 hb7 hl7 HE HNX HL6 HB6 HU HXB
    simp only [Act.put,List.setIfInBounds_toArray,List.set_cons_zero,List.set_cons_succ]
    unfold Sl.val at *
    simp only at *
    go_wp2_with fail
    refine HCK.out.mono ?_
    rintro e w8 ⟨hc,hb8⟩
    have nx8:=HNX7.out.below hb8
    have m0:=nx8.k9.c0
    have m1:=nx8.k9.c1
    have p0:=nx8.k1.c0
    have p1:=nx8.k1.c1
    clear f0 f1 g0 g1 hb8 HNX7 HCK
    rcases hc with ⟨hm,rfl⟩ | ⟨hm,rfl⟩
    · obtain⟨W9,hst9,k9,hf9⟩:=nx8.fin (by rw [HTL.out];decide) HL7.out
      have HF:Hid (Told w t X.s (mk2 X.e) (.returned (mk2 0 (lfV ⟨a2,n2,k2⟩ ⟨some ⟨b6,o6,none⟩,n5,k5⟩))) W9):=by rw [HX0.out hm,← HB7.out];exact hf9 (mk2 0)
      have HST9:=hide hst9
      have HK9:=hide k9
      clear hst9 k9 hf9 nx8 HX0 HX7 hm HCP
      unfold lfV Sl.val at *
      simp only at *
      go_wp2_with (refine Zac _ rfl rfl 67 (.tmp 6) (.tmp 35) rfl (.pointer (some ⟨w.heap.size+1,0,none⟩)) (.agg #[.slice a2 n2 k2,.slice (some ⟨b6,o6,none⟩) (n5) (k5)]) rfl rfl W9 HST9.out ?_)
      refine bodyPost_ret (Zao (u:=⟨a2,n2,k2⟩) (v:=⟨some ⟨b6,o6,none⟩,n5,k5⟩) rfl HK9.out _ rfl rfl) rfl ?_
      exact HF.out
    · have HXE:=hide (HX7.out hm)
      have HCP8:=hide (HCP.out w8 nx8.e)
      have HNX8:=hide nx8
      clear nx8 HX0 HX7 hm HCP
      unfold Sl.val at *
      simp only at *
      go_wp2_with fail
      refine HCP8.out.mono ?_
      rintro e w9 ⟨hb9,⟨a8,n8,k8⟩,⟨a9,n9,k9⟩,l9,rfl,lw9,hbs9⟩
      have nx9:=HNX8.out.below hb9
      have hw8:w.heap.size+2≤w8.heap.size+2:=by have:=HNX8.out.k2.lt;omega
      obtain⟨W9,hst9,kk9,hf9⟩:=ZeV nx9.k2 nx9.e ((lw9.gi (by rw [HTL.out];decide)).wide (fun k hk=>Nat.le_trans hw8 hk)) ((lw9.gb (by rw [bss_len hbs9];have:=HLL.out;omega)).wide (fun k hk=>Nat.le_trans hw8 hk))
      have HF:Hid (Told w t X.s (mk2 X.e) (.returned (mk2 7 (lfV ⟨a8,n8,k8⟩ ⟨a9,n9,k9⟩))) W9):=by rw [HXE.out,← hbs9];exact hf9 (mk2 7)
      have HST9:=hide hst9
      have HK9:=hide kk9
      clear hst9 kk9 hf9 nx9 lw9 hbs9 hw8 hb9 HXE HCP8 HNX8
      unfold lfV Sl.val at *
      simp only at *
      go_wp2_with (refine Zac _ rfl rfl 67 (.tmp 6) (.tmp 34) rfl (.pointer (some ⟨w.heap.size+1,0,none⟩)) (.agg #[.slice a8 n8 k8,.slice a9 n9 k9]) rfl rfl W9 HST9.out ?_)
      refine bodyPost_ret (Zao (u:=⟨a8,n8,k8⟩) (v:=⟨a9,n9,k9⟩) rfl HK9.out _ rfl rfl) rfl ?_
      exact HF.out
end Go.Proofs.YtdojdcncncgncaaGreat
