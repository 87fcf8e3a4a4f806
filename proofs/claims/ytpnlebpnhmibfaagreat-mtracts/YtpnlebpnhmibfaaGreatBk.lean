/-
  Lemmas.
-/
import Derived.Test.YtpnlebpnhmibfaaGreatBj
namespace Go.Proofs.YtpnlebpnhmibfaaGreat
open Go.RowKit
set_option linter.unusedVariables false
set_option maxRecDepth 100000
set_option maxHeartbeats 4000000
variable {w:World}{p d mb n c B:Nat}{L:Dl}{P:Po}{v s:Sl}
def more (Y:Nat→Prop) (s:Sl) (k:Nat):Prop:=Y k∨(0<s.len∧s.blk=some k)
theorem ZkQ {k:Nat}(h:s.blk=some k):∃ad,s.a=some ad∧ad.block=k:=by
 unfold Sl.blk at h;cases e:s.a with
 | none=>rw [e] at h;cases h
 | some ad=>rw [e] at h;exact ⟨ad,rfl,Option.some.inj h⟩
theorem Zlv {l:List Sp}(Y:Nat→Prop)(h:Gs (fun k=>B≤k) w s l):Gs (more Y s) w s l:=⟨h.len,h.nil,h.le,h.big,fun ad e hl=>.inr ⟨hl,by unfold Sl.blk;rw [e];rfl⟩,h.cell,h.ty⟩
theorem ZdD {l:List Sp}(h:Gs (fun k=>B≤k) w s l)(k:Nat)(hl:0<s.len)(hk:s.blk=some k):B≤k∧TyB w k:=by
 obtain⟨ad,e,rfl⟩:=ZkQ hk;obtain⟨C,fz,hc⟩:=h.ty ad e hl;exact⟨h.home ad e hl,C,_,fz,hc,.inl rfl⟩
theorem ZhJ {vs:List Value}(h:Own 5 1 w s vs)(hb:∀k,s.blk=some k→B≤k)(k:Nat)(hl:0<s.len)(hk:s.blk=some k):B≤k∧TyB w k:=by
 obtain⟨C,hc⟩:=h.kind hk;exact⟨hb k hk,C,_,_,hc,.inr rfl⟩
theorem PoIn.more {w1:World}{Y:Nat→Prop}{f:Int→Option Value}(h:PoIn w p d P L Y v mb f)(hb:Below w.heap.size w w1)(s:Sl)(hs:∀k,0<s.len→s.blk=some k→w.heap.size≤k∧TyB w1 k):PoIn w1 p d P L (more Y s) v mb f:=by
 have h1:=h.keep hb;refine h1.widen (fun i e=>.inl e) (fun e=>?_) (fun e=>?_) (fun i e=>?_) (fun i e=>?_) (fun i e=>e.elim (h1.ty i) (fun e=>(hs i e.1 e.2).2))
 · rcases e with e | e
   · exact h.yp e
   · have:=h.blk.lt;have:=(hs _ e.1 e.2).1;omega
 · rcases e with e | e
   · exact h.ym e
   · have:=h.map.lt;have:=(hs _ e.1 e.2).1;omega
 · rcases e with e | e
   · exact h1.lt i e
   · exact(hs i e.1 e.2).2.lt
 · rcases e with e | e
   · exact h.ap i (.inr (.inr e))
   · intro hF;have:=h.dev.lt hF;have:=(hs i e.1 e.2).1;omega
theorem Did.after {w1 w2:World}{L1:Dl}{Y Y1:Nat→Prop}{Q:Po}(fr:Frm (fun k=>k=p∨k=mb∨L.F d k) w w1)(hy:∀k,Y1 k→Y k∨w.heap.size≤k)(hl:∀k,L1.F d k→L.F d k∨w.heap.size≤k)(h:Did w1 p d mb L1 Y1 w2 Q):Did w p d mb L Y w2 Q:=by
 obtain⟨L2,Y2,v2,f2,aa,ac,ab⟩:=h.ex;refine⟨⟨L2,Y2,v2,f2,aa,fun i e=>?_,fun i e=>?_⟩,fr.trans h.frm (fun i ad e=>?_)⟩
 · rcases ac i e with e | e
   · exact hy i e
   · exact .inr (Nat.le_trans fr.size e)
 · rcases ab i e with e | e
   · exact hl i e
   · exact .inr (Nat.le_trans fr.size e)
 · rcases e with e | e | e
   · exact .inl e
   · exact .inr (.inl e)
   · rcases hl i e with e | e
     · exact .inr (.inr e)
     · omega
theorem ZhD {Y:Nat→Prop}{f:Int→Option Value}(h:PoIn w p d P L Y v mb f)(hF:P.Fine n c)(k:Nat)(hk:k<n):Calls Tryz.prog 100 #[at0 p,.int .i64 (k:Int)] w fun e w'=>Did w p d mb L Y w' ((P.clock (touch P.l P.h (k:Int)).l (touch P.l P.h (k:Int)).h).left (touch P.l P.h (k:Int)).was)∧e=.returned (.tuple #[]):=by
 have ap:=hF.wet.dev.n2;have az:isPg (k:Int)=true:=ZaY.2 ⟨by omega,by omega⟩;obtain⟨m1,m2,m3,m4,mg⟩:=ZaI.1 hF.ok.may;have ax:(touch P.l P.h (k:Int)).was<0∨∃x:Nat,(touch P.l P.h (k:Int)).was=(x:Int)∧x<n∧(P.m x).isSome=true:=by
  rcases ZeE hF.ok.may az with ⟨_,av,_⟩ | ⟨i,T⟩
  · have h1:=av 0 (by omega);rw [hF.ok.pin 0 (by omega)] at h1;cases h1
  · rcases T.was with ⟨_,hw⟩ | ⟨_,hw,_⟩
    · left;omega
    · by_cases h0:(fr P.l i).page<0
      · left;omega
      · obtain⟨x,hx⟩:∃x:Nat,(fr P.l i).page=(x:Int):=⟨(fr P.l i).page.toNat,by omega⟩;have ay:=(hF.ok.inn x).2 ⟨i,T.lt,hx⟩;obtain⟨s,hs⟩:=Option.isSome_iff_exists.1 ay;exact .inr ⟨x,by rw [hw,hx],(hF.wet.sh x s hs).1,ay⟩
 have HT:=hide (ZkG w v P.h P.l h.ck (k:Int) hF.ok.may);have c1:=h.blk.c1;have c2:=h.blk.c2;have HI:=hide h;have HL:Hid (∀l z,(P.clock l z).Lite n c):=fun l z=>⟨hF.wet.clock l z,Nat.le_trans hF.cap (by omega),hF.ss⟩;have HN:=hide ap;clear hF az m1 m2 m3 m4 mg h hk ap;obtain⟨va,vl,vc⟩:=v;simp only [ckV,Sl.val] at *;generalize touch P.l P.h (k:Int)=tc at *;unfold at0 at *;rcases ax with bc | ⟨x,hx,bd,ba⟩
 · (have ac:(P.clock tc.l tc.h).left tc.was=P.clock tc.l tc.h:=by unfold Po.left;exact if_neg (fun e=>by omega));rw [ac];(have bf:¬0≤tc.was:=by omega);clear ac;go_enter Tryz.func100,Tryz.ntmps100;go_wp2_with fail;refine HT.out.mono ?_;rintro e w1 ⟨ai,⟨sa,sl,sc⟩,rfl,ag⟩;simp only;have af:=HI.out.more ai ⟨sa,sl,sc⟩ (ZdD ag);have ae:=Zaa w1 (.cells #[.slice sa sl sc,.int .i64 tc.h] 40);have ad:=af.keep ae;obtain⟨W3,aq,ab,aa,aj⟩:=Zn5 ad.blk ⟨sa,sl,sc⟩ tc.h;have ao:Gs (more Y ⟨sa,sl,sc⟩) (w1.alloc (.cells #[.slice sa sl sc,.int .i64 tc.h] 40)) ⟨sa,sl,sc⟩ tc.l:=frmG (Zlv Y ag) (fun i hi=>ae.block i (af.lt i hi)) (fun _ e=>e);have am:=ad.clock ⟨sa,sl,sc⟩ tc.l tc.h ab aa (frmG ao (fun i hi=>aa.block i (ad.lt i hi) (fun e=>af.yp (e ▸ hi))) (fun _ e=>e));have an:Frm (fun i=>i=p∨i=mb∨L.F d i) w W3:=((Frm.ofBelow (F:=fun i=>i=p∨i=mb∨L.F d i) ai).trans (Frm.ofBelow (F:=fun i=>i=p) ae) (fun _ _ e=>.inl e)).trans aa (fun _ _ e=>.inl e);have ar:=hide am;have ak:=hide an;have au:Hid (∀i,more Y ⟨sa,sl,sc⟩ i→Y i∨w.heap.size≤i):=fun i e=>e.imp id (fun e=>(ZdD ag i e.1 e.2).1);have aw:Hid ((w1.alloc (.cells #[.slice sa sl sc,.int .i64 tc.h] 40)).cell? ⟨p,1,none⟩=some (.slice va vl vc)):=ad.blk.c1;have al:=hide aq;simp only [ckV,Sl.val] at al;clear af ae ad aq ab aa aj ao am an ai ag c1 c2;have ah:Hid (Frm (fun i=>i=p∨i=mb∨L.F d i) w W3):=ak;go_wp2_with (refine Zab _ rfl rfl 40 (.tmp 22) (.tmp 20) rfl (.pointer (some ⟨p,1,none⟩)) (.agg #[.slice sa sl sc,.int .i64 tc.h]) rfl rfl W3 al.out ?_);go_end0;exact⟨⟨⟨L,_,_,_,ar.out,au.out,fun _ e=>.inl e⟩,ak.out⟩,rfl⟩
 · have ac:(P.clock tc.l tc.h).left tc.was=(P.clock tc.l tc.h).out x:=by
    unfold Po.left;rw [hx,Int.toNat_natCast];exact if_pos ⟨by omega,ba⟩
   rw [ac];rw [hx] at HT;(have be:(0:Int)≤(x:Int):=by omega);(have bb:Hid (x<1000000):=by have:=HN.out;show x<1000000;omega);clear ac hx bd ba;go_enter Tryz.func100,Tryz.ntmps100;go_wp2_with fail;refine HT.out.mono ?_;rintro e w1 ⟨ai,⟨sa,sl,sc⟩,rfl,ag⟩;simp only;have af:=HI.out.more ai ⟨sa,sl,sc⟩ (ZdD ag);have ae:=Zaa w1 (.cells #[.slice sa sl sc,.int .i64 tc.h] 40);have ad:=af.keep ae;obtain⟨W3,aq,ab,aa,aj⟩:=Zn5 ad.blk ⟨sa,sl,sc⟩ tc.h;have ao:Gs (more Y ⟨sa,sl,sc⟩) (w1.alloc (.cells #[.slice sa sl sc,.int .i64 tc.h] 40)) ⟨sa,sl,sc⟩ tc.l:=frmG (Zlv Y ag) (fun i hi=>ae.block i (af.lt i hi)) (fun _ e=>e);have am:=ad.clock ⟨sa,sl,sc⟩ tc.l tc.h ab aa (frmG ao (fun i hi=>aa.block i (ad.lt i hi) (fun e=>af.yp (e ▸ hi))) (fun _ e=>e));have an:Frm (fun i=>i=p∨i=mb∨L.F d i) w W3:=((Frm.ofBelow (F:=fun i=>i=p∨i=mb∨L.F d i) ai).trans (Frm.ofBelow (F:=fun i=>i=p) ae) (fun _ _ e=>.inl e)).trans aa (fun _ _ e=>.inl e);have ar:=hide am;have ak:=hide an;have au:Hid (∀i,more Y ⟨sa,sl,sc⟩ i→Y i∨w.heap.size≤i):=fun i e=>e.imp id (fun e=>(ZdD ag i e.1 e.2).1);have aw:Hid ((w1.alloc (.cells #[.slice sa sl sc,.int .i64 tc.h] 40)).cell? ⟨p,1,none⟩=some (.slice va vl vc)):=ad.blk.c1;have al:=hide aq;simp only [ckV,Sl.val] at al;clear af ae ad aq ab aa aj ao am an ai ag c1 c2;have ah:Hid (Frm (fun i=>i=p∨i=mb∨L.F d i) w W3):=ak;have HO:=hide (ZhH ar.out (HL.out tc.l tc.h) x bb.out);unfold at0 at HO;go_wp2_with (refine Zab _ rfl rfl 40 (.tmp 22) (.tmp 20) rfl (.pointer (some ⟨p,1,none⟩)) (.agg #[.slice sa sl sc,.int .i64 tc.h]) rfl rfl W3 al.out ?_);refine HO.out.mono ?_;rintro e w4 ⟨hD,rfl⟩;have HD:=hide (Did.after ak.out au.out (fun _ e=>.inl e) hD);clear hD;go_wp2_with fail;go_end0;exact⟨HD.out,rfl⟩
theorem Zfo (P:Po)(k:Nat):(P.write k).l=P.l∧(P.write k).h=P.h:=by
 unfold Po.write;cases P.m k with
 | none=>exact ⟨rfl,rfl⟩
 | some s =>
  simp only;split
  · exact ZcG P k s
  · exact⟨rfl,rfl⟩
theorem ZhI (P:Po)(k:Nat):(P.out k).l=P.l∧(P.out k).h=P.h:=Zfo P k
theorem Ziv {Y:Nat→Prop}{f:Int→Option Value}(h:PoIn w p d P L Y v mb f)(hF:P.Fine n c)(k:Nat)(hk:(P.m k).isSome=true):Calls Tryz.prog 63 #[at0 p,.int .i64 (k:Int)] w fun e w'=>Did w p d mb L Y w' (P.evict k)∧e=.returned (.int .i64 0):=by
 obtain⟨s,hs⟩:=Option.isSome_iff_exists.1 hk;have bb:=(hF.wet.sh k s hs).1;have aj:=hF.wet.dev.n2;obtain⟨⟨sa,sl,sc⟩,z,_,aa,_⟩:=h.looks k (by omega);rw [hk] at aa;generalize ba:P.isDirty k=dt at aa;have c3:=h.blk.c3;have HA:=hide (Zaa w (.cells #[.slice sa sl sc,.bool dt,.int .i64 z] 140));have HO:=hide (ZhH (h.keep HA.out) hF.lite k (by omega));have ah:=hide hF.ok.may;obtain⟨e1,e2⟩:=ZhI P k;have av:=hide e1;have aw:=hide e2;have HI:=hide h;clear h hF hk hs bb aj ba e1 e2;simp only at aa;unfold at0 at *;go_enter Tryz.func63,Tryz.ntmps63;go_wp2_with fail;refine HO.out.mono ?_;rintro e w2 ⟨hD,rfl⟩;obtain⟨L2,Y2,v2,f2,ad,ar,ap⟩:=hD.ex;have c12:=ad.blk.c1;have c22:=ad.blk.c2;rw [aw.out] at c22;have an:=Zle w2 v2 P.h P.l (by have:=ad.ck;rw [av.out] at this;exact this) (k:Int) ah.out;have au:=hide an;have ax:=hide ad;have ag:=hide ((Frm.ofBelow (F:=fun i=>i=p∨i=mb∨L.F d i) HA.out).trans hD.frm (fun _ _ e=>e));have az:Hid (∀i,Y2 i→Y i∨w.heap.size≤i):=fun i e=>(ar i e).imp id (fun e=>Nat.le_trans HA.out.size e);have ay:Hid (∀i,L2.F d i→L.F d i∨w.heap.size≤i):=fun i e=>(ap i e).imp id (fun e=>Nat.le_trans HA.out.size e);clear hD ad ar ap an aa c3;obtain⟨va,vl,vc⟩:=v2;simp only [ckV,Sl.val] at *;go_wp2_with fail;refine au.out.mono ?_;rintro e w3 ⟨ai,⟨ta,tl,tc⟩,rfl,af⟩;simp only;have ae:=ax.out.more ai ⟨ta,tl,tc⟩ (ZdD af);obtain⟨W4,aq,ac,ab,ak⟩:=Zn5 ae.blk ⟨ta,tl,tc⟩ P.h;have ao:Gs (more Y2 ⟨ta,tl,tc⟩) w3 ⟨ta,tl,tc⟩ (dropC P.l (k:Int)).l:=Zlv Y2 af;have am:=ae.clock ⟨ta,tl,tc⟩ (dropC P.l (k:Int)).l P.h ac ab (frmG ao (fun i hi=>ab.block i (ae.lt i hi) (fun e=>ae.yp (e ▸ hi))) (fun _ e=>e));have HD:Hid (Did w p d mb L Y W4 (P.evict k)):=by
  refine Did.after (w1:=w2) (L1:=L2) (Y1:=Y2) ag.out az.out ay.out ⟨⟨L2,_,_,_,am,fun i e=>e.imp id (fun e=>(ZdD af i e.1 e.2).1),fun _ e=>.inl e⟩,(Frm.ofBelow (F:=fun i=>i=p∨i=mb∨L2.F d i) ai).trans ab (fun _ _ e=>.inl e)⟩
 have al:=hide aq;simp only [ckV,Sl.val] at al;clear ae aq ac ab ak ao am ai af c12 c22;go_wp2_with (refine Zab _ rfl rfl 40 (.tmp 34) (.tmp 31) rfl (.pointer (some ⟨p,1,none⟩)) (.agg #[.slice ta tl tc,.int .i64 P.h]) rfl rfl W4 al.out ?_);go_ret;exact⟨HD.out,rfl⟩
theorem ZeK {Y:Nat→Prop}{f:Int→Option Value}(h:PoIn w p d P L Y v mb f)(k:Int)(hk:¬(0≤k∧(P.m k.toNat).isSome=true))(hw:(Lit.int .i64 k).wf=true):Calls Tryz.prog 63 #[at0 p,.int .i64 k] w fun e w'=>Below w.heap.size w w'∧e=.returned (.int .i64 3):=by
 have hf:f k=none:=by
  cases e:f k with
  | none=>rfl
  | some u =>
   obtain⟨h0,_⟩:=h.map.few k (by rw [e];rfl);have hs:=h.sh k.toNat;rw [show (k.toNat:Int)=k by omega,e] at hs;rcases hs with ⟨_,e2⟩ | ⟨s,_,_,_,e1,_⟩
   · cases e2
   · exact absurd ⟨h0,by rw [e1];rfl⟩ hk
 have aa:=h.map.lookOk hw;rw [hf] at aa;simp only [Option.getD_none,Zfp,Option.isSome_none] at aa;have c3:=h.blk.c3;have HB:=hide (Zaa w (.cells #[.slice none 0 0,.bool false,.int .i64 0] 140));clear h hk hw hf;unfold at0;go_enter Tryz.func63,Tryz.ntmps63;go_wp2_with fail;go_ret;exact⟨HB.out,rfl⟩
theorem Zj7 (Q:Po)(k:Nat)(o:Option Sh):(Q.fetch k).put k o=Q.put k o:=by
 unfold Po.fetch;split
 · rfl
 · unfold Po.put;simp only;congr 1;funext i;by_cases e:i=k
   · rw [if_pos e,if_pos e]
   · rw [if_neg e,if_neg e,if_neg e]
theorem Zps {g:Nat}{d:Bool}{z:Int}(h:FrBlk w g s d z)(s':Sl):∃W,(Instr.storeAt 32 (.pointer (some ⟨g,0,none⟩)) s'.val).run Tryz.prog w=.ok () W∧FrBlk W g s' d z∧Frm (fun i=>i=g) w W∧W.heap.size=w.heap.size:=by
 have c0:=h.c0;have f0:=h.fz 0;refine⟨w.setCell ⟨g,0,none⟩ s'.val,stBs g 0 s' _ w c0 f0,?_,(Frm.refl (fun i=>i=g) w).setCell (p:=⟨g,0,none⟩) rfl _,by simp only [Zag]⟩;have s0:=heap_setCell_same w g 0 _ 140 s'.val h;unfold FrBlk;rw [s0];simp
theorem Zku {Y : Nat → Prop} {f : Int → Option Value} (h : PoIn w p d P L Y v mb f) (hF : P.Fine n c) (k : Nat) (hk : k < n) : Calls Tryz.prog 68 #[at0 p, .int .i64 (k : Int)] w fun e w' => Did w p d mb L Y w' (P.letIn k) ∧ ∃ s : Sl, e = .returned (.tuple #[s.val, .int .i64 0]) ∧ Own 5 1 w' s (vals ((P.letIn k).con k)) ∧ s.len = 512 := by
  have hn64 := hF.wet.dev.n2;have HH := hide (Zdi h n hF.wet.dev.sp hn64 (k : Int));rw [decide_eq_true (show 0 ≤ (k : Int) ∧ (k : Int) < (n : Int) by omega)] at HH;have HLT := hide (ZhD h hF k hk);have hW0 := ((hF.wet.clock (touch P.l P.h (k : Int)).l (touch P.l P.h (k : Int)).h).left (touch P.l P.h (k : Int)).was);have hE : P.letIn k = ((P.clock (touch P.l P.h (k : Int)).l (touch P.l P.h (k : Int)).h).left (touch P.l P.h (k : Int)).was).fetch k := rfl;rw [hE];clear hE;generalize ((P.clock (touch P.l P.h (k : Int)).l (touch P.l P.h (k : Int)).h).left (touch P.l P.h (k : Int)).was) = Q at *;have HW := hide hW0;(have HN : Hid (k < 64) := by show k < 64; omega);have HKN := hide hk;have HN64 := hide hn64;clear h hF hW0 hn64 hk;cases hq : Q.m k with
  | some s =>
    (have hfe : Q.fetch k = Q := by unfold Po.fetch; rw [hq]; rfl);(have hcon : Q.con k = s.b := by unfold Po.con; rw [hq]);rw [hfe, hcon];clear hfe hcon;have HQ := hide hq;clear hq;unfold at0 at *;go_enter Tryz.func68, Tryz.ntmps68;go_wp2_with fail;refine HH.out.mono ?_;rintro e w' ⟨rfl, hw'⟩;obtain rfl := hw'.symm;go_wp2_with fail;refine HLT.out.mono ?_;rintro e w2 ⟨hD, rfl⟩;obtain ⟨L2, Y2, v2, f2, hI2, hy2, hl2⟩ := hD.ex;obtain ⟨⟨sa, sl, sc⟩, z, _, hlook, hcs⟩ := hI2.looks k (by have := HN.out; omega);rcases hcs with ⟨e, _⟩ | ⟨s', u, e1, e2, hsh⟩
    · rw [HQ.out] at e; cases e
    (obtain rfl : s = s' := by have := HQ.out; rw [e1] at this; exact (Option.some.inj this).symm);rw [HQ.out] at hlook;simp only [Option.isSome_some] at hlook;generalize Q.isDirty k = dt at hlook;have hA3 := Zaa w2 (.cells #[.slice sa sl sc, .bool dt, .int .i64 z] 140);have hbx := (HW.out.sh k s HQ.out).2.2;have hsh3 := hsh.frm (w' := w2.alloc (.cells #[.slice sa sl sc, .bool dt, .int .i64 z] 140)) (fun i hi => hA3.block i (hI2.lt i hi)) (fun _ e => e);have hlen : sl = 512 := hsh.len;have HC := hide (Zcc _ sa sl sc s.b (hsh3.own.came hbx) (by omega));have HD := hide hD;have HI2 := hide hI2;have HY2 := hide hy2;have HL2 := hide hl2;have HA3 := hide hA3;have HSB : Hid (s.b.length = 512) := (HW.out.sh k s HQ.out).2.1;have c32 := hI2.blk.c3;clear hD hI2 hy2 hl2 e1 e2 hsh hA3 hbx hsh3 hlen;go_wp2_with fail;refine HC.out.mono ?_;rintro e w4 ⟨hb4, s4, rfl, ho4, hl4, hk4⟩;have HB4 := hide (HA3.out.trans (hb4.mono HA3.out.size));have HO4 := hide ho4;have HL4 := hide (hl4.trans HSB.out);clear hb4 ho4 hl4 hk4 hlook c32;go_wp2_with fail;go_ret2;exact ⟨Did.after HD.out.frm HY2.out HL2.out (HI2.out.same HB4.out), s4, rfl, HO4.out, HL4.out⟩
  | none =>
    (have hfe : Q.fetch k = Q.put k (some ⟨Q.D.page k, false, 0⟩) := by unfold Po.fetch; rw [hq]; rfl);(have hcon : (Q.put k (some ⟨Q.D.page k, false, 0⟩)).con k = Q.D.page k := by unfold Po.con; rw [Za9]);rw [hfe, hcon];clear hfe hcon;have HQ := hide hq;clear hq;unfold at0 at *;go_enter Tryz.func68, Tryz.ntmps68;go_wp2_with fail;refine HH.out.mono ?_;rintro e w' ⟨rfl, hw'⟩;obtain rfl := hw'.symm;go_wp2_with fail;refine HLT.out.mono ?_;rintro e w2 ⟨hD, rfl⟩;obtain ⟨L2, Y2, v2, f2, hI2, hy2, hl2⟩ := hD.ex;obtain ⟨⟨sa, sl, sc⟩, z, _, hlook, hcs⟩ := hI2.looks k (by have := HN.out; omega);have hcs' : (⟨sa, sl, sc⟩ : Sl) = Sl.nil ∧ z = 0 := by
      rcases hcs with ⟨_, e1, e2⟩ | ⟨s', u, e1, _⟩
      · exact ⟨e1, e2⟩
      · rw [HQ.out] at e1; cases e1
    clear hcs;obtain ⟨e1, e2⟩ := hcs';cases e1;subst e2;rw [HQ.out] at hlook;(have hnd : Q.isDirty k = false := by unfold Po.isDirty; rw [HQ.out]);rw [hnd] at hlook;simp only [Option.isSome_none] at hlook;have hA3 := Zaa w2 (.cells #[.slice none 0 0, .bool false, .int .i64 0] 140);have hFB3 : FrBlk (w2.alloc (.cells #[.slice none 0 0, .bool false, .int .i64 0] 140)) w2.heap.size Sl.nil false 0 := Zgg w2 Sl.nil false 0;have hI3 := hI2.keep hA3;have HRD := hide (ZhP _ d Q.D L2 hI3.dev n HW.out.dev.sp HN64.out k HKN.out);have c03 := hI3.blk.c0;have HD := hide hD;have HI2 := hide hI2;have HI3 := hide hI3;have HFB3 := hide hFB3;have HY2 := hide hy2;have HL2 := hide hl2;have HA3 := hide hA3;have c32 := hI2.blk.c3;clear hD hI2 hy2 hl2 hA3 hnd hFB3 hI3;unfold at0 at *;go_wp2_with fail;refine HRD.out.mono ?_;rintro e w4 ⟨hb4, s4, rfl, ho4, hl4, hk4⟩;have hI4 := HI3.out.more hb4 s4 (ZhJ ho4 hk4);have hFB4 : FrBlk w4 w2.heap.size Sl.nil false 0 := (hb4.block _ HFB3.out.lt).trans HFB3.out;have hgn : ∀ i, i = w2.heap.size → poX p mb (more Y2 s4) i ∨ L2.F d i → False := by
      intro i hi e;have hnew := HI2.out.new (Nat.le_refl w2.heap.size);subst hi;rcases e with (e | e | e) | e
      · exact hnew.1 (.inl e)
      · exact hnew.1 (.inr (.inl e))
      · rcases e with e | e
        · exact hnew.2 e
        · have := HFB3.out.lt;have := hk4 _ e.2;omega
      · exact hnew.1 (.inr (.inr e))
    obtain ⟨W5, hst5, hFB5, hfr5, hsz5⟩ := Zps hFB4 s4;have hI5 := hI4.frm hfr5 (fun i e k => hgn i k e);have hs4n : ∀ i, s4.blk = some i → i ≠ w2.heap.size := fun i hi e => by
      have h1 := hk4 i hi;have h2 := HFB3.out.lt;omega
    have ho5 : Own 5 1 W5 s4 (vals (Q.D.page k)) := ho4.frame (fun i hi => hfr5.block i (ho4.lt hi) (hs4n i hi));have hI5d := hI5.keep (Zad W5);obtain ⟨w6, hrun6, hm6, hf6, hs6⟩ := hI5d.map.put k HN.out (frV s4 false 0);have hhome : ∀ i, s4.blk = some i → more Y2 s4 i := fun i hi => .inr ⟨by omega, hi⟩;have ho6 : Own 5 1 w6 s4 (vals (Q.D.page k)) := ho5.frame (fun i hi => hf6.block i (by rw [show W5.drew.heap.size = W5.heap.size from rfl, hsz5]; exact ho4.lt hi) (fun e => hI5.ym (e ▸ hhome i hi)));have hI6 := hI5d.put k (some ⟨Q.D.page k, false, 0⟩) (putF f2 (k : Int) (some (frV s4 false 0))) hm6 (fun j hj => if_neg hj) hf6 (.inr ⟨_, _, s4, 0, rfl, if_pos rfl, rfl, (fun e => by cases e), ho6, hl4, hhome⟩);have hFB6 : FrBlk w6 w2.heap.size s4 false 0 := FrBlk.frm (show FrBlk W5.drew _ _ _ _ from hFB5) hf6 (fun e => hgn _ rfl (.inl (.inr (.inl e))));have HR7 : Hid (∀ {Q : Exit → Act → World → Prop} {A : Act}, _) := fun {Q A} => pr7 W5 p w2.heap.size mb k s4 false 0 w6 ⟨hI5.blk.c3, hFB5⟩ hrun6 ⟨hI6.blk.c3, hFB6⟩ (Q := Q) (A := A);have HC := hide (Zcc w6 s4.a s4.len s4.cap _ (ho6.came (HW.out.dev.page_bytes k)) (by omega));have c06 := hFB6.c0;have HPL : Hid ((Q.D.page k).length = 512) := by
      have := ho6.1;rw [Zao, Nat.mul_one, hl4] at this;exact this
    have HD6 : Hid (Did w p d mb L Y w6 (Q.put k (some ⟨Q.D.page k, false, 0⟩))) := by
      have fr : Frm (fun i => i = p ∨ i = mb ∨ L2.F d i) w2 w6 := by
        have f1 : Frm (fun i => i = p ∨ i = mb ∨ L2.F d i) w2 W5 := ((Frm.ofBelow (F := fun i => i = p ∨ i = mb ∨ L2.F d i) HA3.out).trans (Frm.ofBelow (F := fun _ => False) hb4) (fun _ _ e => e.elim)).trans hfr5 (fun i hlt e => by omega);exact (f1.trans (Frm.ofBelow (F := fun _ => False) (Zad W5)) (fun _ _ e => e.elim)).trans hf6 (fun i _ e => .inr (.inl e))
      refine Did.after HD.out.frm HY2.out HL2.out ⟨⟨L2, _, _, _, hI6, fun i e => e.imp id (fun e => ?_), fun _ e => .inl e⟩, fr⟩;exact Nat.le_trans HA3.out.size (hk4 _ e.2)
    have HST5 := hide hst5;clear hI4 hFB4 hgn hst5 hFB5 hfr5 hsz5 hI5 hs4n ho5 hI5d hrun6 hm6 hf6 hs6 hhome ho6 hI6 hFB6 hb4 ho4 hk4 hlook c32 c03;have HLS := hide hl4;clear hl4;obtain ⟨ta, tl, tc⟩ := s4;simp only [Sl.val] at *;go_wp2_with (refine Zab _ rfl rfl 32 (.tmp 35) (.tmp 33) rfl (.pointer (some ⟨w2.heap.size, 0, none⟩)) (.slice ta tl tc) rfl rfl W5 HST5.out ?_);refine Pl.q8 (ops := Pl.find 7 ((Tryz.f68.body).getD .skip)) ?_;refine HR7.out (by rfl) rfl (by rfl) (by rfl) (by rfl) ?_;intro u7 w7 hw7;subst hw7;simp only [Act.put, List.setIfInBounds_toArray, List.set_cons_zero, List.set_cons_succ];go_wp2_with fail;refine HC.out.mono ?_;rintro e w8 ⟨hb8, s8, rfl, ho8, hl8, hk8⟩;have HB8 := hide hb8;have HO8 := hide ho8;have HL8 := hide (hl8.trans HPL.out);clear hb8 ho8 hl8 hk8 c06;go_wp2_with fail;go_ret2;refine ⟨HD6.out.trans (fun L' Y' v' f' hi => hi.same HB8.out), s8, rfl, HO8.out, HL8.out⟩
theorem ZlT {Y:Nat→Prop}{f:Int→Option Value}(h:PoIn w p d P L Y v mb f)(hF:P.Fine n c)(k:Nat)(hk:k<n)(a:Option Addr)(cap:Nat)(ys:List Nat)(z:Int)(hy:Came w a 512 cap ys)(ae:Off (fun i=>poX p mb Y i∨L.F d i) a 512):Calls Tryz.prog 87 #[at0 p,.int .i64 (k:Int),.slice a 512 cap,.int .i64 z] w fun e w'=>Did w p d mb L Y w' (P.set k ys z)∧e=.returned (.int .i64 0):=by
 have ac:=hF.wet.dev.n2;have HH:=hide (Zdi h n hF.wet.dev.sp ac (k:Int));rw [decide_eq_true (show 0≤(k:Int)∧(k:Int)<(n:Int) by omega)] at HH;have aq:=hide (ZhD h hF k hk);have hE:P.set k ys z=((P.clock (touch P.l P.h (k:Int)).l (touch P.l P.h (k:Int)).h).left (touch P.l P.h (k:Int)).was).put k (some ⟨ys,true,z⟩):=by
  unfold Po.set Po.letIn;exact Zj7 _ _ _
 rw [hE];clear hE;generalize ((P.clock (touch P.l P.h (k:Int)).l (touch P.l P.h (k:Int)).h).left (touch P.l P.h (k:Int)).was)=Q at *;(have HN:Hid (k<64):=by show k<64;omega);have HY:=hide hy;have ah:Hid (Off (fun i=>i=p∨i=mb∨L.F d i) a 512):=fun ad e hl hk=>ae ad e hl (by
  rcases hk with e | e | e
  · exact .inl (.inl e)
  · exact .inl (.inr (.inl e))
  · exact .inr e)
 clear h hF ac hk hy ae;unfold at0 at *;go_enter Tryz.func87,Tryz.ntmps87;go_wp2_with fail;refine HH.out.mono ?_;rintro e w' ⟨rfl,hw'⟩;obtain rfl:=hw'.symm;go_wp2_with fail;refine aq.out.mono ?_;rintro e w2 ⟨hD,rfl⟩;obtain⟨L2,Y2,v2,f2,ai,ap,ao⟩:=hD.ex;have an:=(HY.out.frm hD.frm ah.out).frm (Frm.ofBelow (F:=fun _=>False) (Zad w2)) (fun _ _ _ e=>e);have ab:=ai.keep (Zad w2);have HC:=hide (Zcc w2.drew a 512 cap ys an (by omega));have ar:Hid (∀{Q':Exit→Act→World→Prop} {A:Act},A.tmps.size=28→A.defers=[]→A.tmps.getD 0 undef=.pointer (some ⟨p,0,none⟩)→A.tmps.getD 1 undef=.int .i64 (k:Int)→A.tmps.getD 2 undef=.slice a 512 cap→A.tmps.getD 3 undef=.int .i64 z→(∀(u:Nat→Value) (w':World),Did w p d mb L Y w' (Q.put k (some ⟨ys,true,z⟩))→Q' .normal ((((((((((A).put (some 19) (u 19)).put (some 20) (u 20)).put (some 21) (u 21)).put (some 22) (u 22)).put (some 23) (u 23)).put (some 24) (u 24)).put (some 26) (u 26)).put (some 25) (u 25)).put (some 27) (u 27)) w')→(Code.region 6 (Pl.find 6 ((Tryz.f87.body).getD .skip)) true).wp Tryz.prog Q' A w2):=by
  show ∀_,_;intro Q' A a1 a2 a3 a4 a5 a6 hend;refine pp6 w2 p mb k a 512 cap z (fun s w3=>Below w2.drew.heap.size w2.drew w3∧Own 5 1 w3 s (vals ys)∧s.len=512∧∀i,s.blk=some i→w2.drew.heap.size≤i) (fun w4=>Did w p d mb L Y w4 (Q.put k (some ⟨ys,true,z⟩))) ai.blk.c3 (HC.out.mono (fun e w3 r=>?_)) (fun s w3 r=>?_) (fun s w3 r=>?_) a1 a2 a3 a4 a5 a6 hend
  · obtain⟨af,s,rfl,ho,hl,ag⟩:=r;exact⟨s,rfl,af,ho,hl.trans HY.out.bs.1,ag⟩
  · exact(ab.keep r.1).blk.c3
  · obtain⟨af,ho,hl,ag⟩:=r;have aj:=ab.more af s (ZhJ ho ag);obtain⟨w4,al,au,ak,_⟩:=aj.map.put k HN.out (frV s true z);have aa:∀i,s.blk=some i→more Y2 s i:=fun i hi=>.inr ⟨by omega,hi⟩;have av:Own 5 1 w4 s (vals ys):=ho.frame (fun i hi=>ak.block i (ho.lt hi) (fun e=>aj.ym (e ▸ aa i hi)));have am:=aj.put k (some ⟨ys,true,z⟩) (putF f2 (k:Int) (some (frV s true z))) au (fun j hj=>if_neg hj) ak (.inr ⟨_,_,s,z,rfl,if_pos rfl,rfl,(fun _=>rfl),av,hl,aa⟩);refine⟨w4,al,am.blk.c3,Did.after hD.frm ap ao ⟨⟨L2,_,_,_,am,fun i e=>e.imp id (fun e=>ag i e.2),fun _ e=>.inl e⟩,?_⟩⟩;exact((Frm.ofBelow (F:=fun i=>i=p∨i=mb∨L2.F d i) (Zad w2)).trans (Frm.ofBelow (F:=fun _=>False) af) (fun _ _ e=>e.elim)).trans ak (fun i _ e=>.inr (.inl e))
 clear hD ai ap ao an ab;go_wp2_with fail;refine Pl.q8 (ops:=Pl.find 6 ((Tryz.f87.body).getD .skip)) ?_;refine ar.out (by rfl) rfl (by rfl) (by rfl) (by rfl) (by rfl) ?_;intro u w' hw';have HD:=hide hw';clear hw';simp only [Act.put,List.setIfInBounds_toArray,List.set_cons_zero,List.set_cons_succ];go_wp2_with fail;go_ret;exact⟨HD.out,rfl⟩
theorem ZfF {Y:Nat→Prop}{f:Int→Option Value}(h:PoIn w p d P L Y v mb f)(hF:P.Fine n c)(k:Int)(hk:¬(0≤k∧k<(n:Int))):Calls Tryz.prog 68 #[at0 p,.int .i64 k] w fun e w'=>Below w.heap.size w w'∧e=.returned (.tuple #[.slice none 0 0,.int .i64 3]):=by
 have HH:=hide (Zdi h n hF.wet.dev.sp hF.wet.dev.n2 k);rw [decide_eq_false hk] at HH;have HB:=hide (Below.refl w.heap.size w);clear h hF hk;unfold at0 at *;go_enter Tryz.func68,Tryz.ntmps68;go_wp2_with fail;refine HH.out.mono ?_;rintro e w' ⟨rfl,hw'⟩;obtain rfl:=hw'.symm;go_wp2_with fail;go_ret2;exact⟨HB.out,rfl⟩
theorem Zgu {Y:Nat→Prop}{f:Int→Option Value}(h:PoIn w p d P L Y v mb f)(hF:P.Fine n c)(k:Int)(x y:Value)(hk:¬(0≤k∧k<(n:Int))):Calls Tryz.prog 87 #[at0 p,.int .i64 k,x,y] w fun e w'=>Below w.heap.size w w'∧e=.returned (.int .i64 3):=by
 have HH:=hide (Zdi h n hF.wet.dev.sp hF.wet.dev.n2 k);rw [decide_eq_false hk] at HH;have HB:=hide (Below.refl w.heap.size w);clear h hF hk;unfold at0 at *;go_enter Tryz.func87,Tryz.ntmps87;go_wp2_with fail;refine HH.out.mono ?_;rintro e w' ⟨rfl,hw'⟩;obtain rfl:=hw'.symm;go_wp2_with fail;go_ret;exact⟨HB.out,rfl⟩
theorem Zhd {Y:Nat→Prop}{f:Int→Option Value}(h:PoIn w p d P L Y v mb f)(hF:P.Fine n c)(k:Nat)(hk:k<n)(a:Option Addr)(len cap:Nat)(y:Value)(hl:len≠512):Calls Tryz.prog 87 #[at0 p,.int .i64 (k:Int),.slice a len cap,y] w fun e w'=>Below w.heap.size w w'∧e=.returned (.int .i64 1):=by
 have HH:=hide (Zdi h n hF.wet.dev.sp hF.wet.dev.n2 (k:Int));rw [decide_eq_true (show 0≤(k:Int)∧(k:Int)<(n:Int) by omega)] at HH;have HB:=hide (Below.refl w.heap.size w);(have ab:((len:Int) != 512)=true:=by simp;omega);(have aa:¬(len:Int)=512:=by omega);clear h hF hk;unfold at0 at *;go_enter Tryz.func87,Tryz.ntmps87;go_wp2_with fail;refine HH.out.mono ?_;rintro e w' ⟨rfl,hw'⟩;obtain rfl:=hw'.symm;go_wp2_with fail;go_ret;exact⟨HB.out,rfl⟩
end Go.Proofs.YtpnlebpnhmibfaaGreat
