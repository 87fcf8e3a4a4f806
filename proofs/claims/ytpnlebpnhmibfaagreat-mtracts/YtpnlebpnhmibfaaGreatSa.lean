/-
  Lemmas.
-/
import Derived.Test.YtpnlebpnhmibfaaGreatQc
import Derived.Test.YtpnlebpnhmibfaaGreatMc
namespace Go.Proofs.YtpnlebpnhmibfaaGreat
open Go.RowKit
set_option linter.unusedVariables false
set_option maxRecDepth 100000
set_option maxHeartbeats 4000000
variable {w w':World}{L:Dl}{K K':Home}{s v:Sl}{d:Dv}{Ld:DvL}
theorem BsS.moveG {F:Nat→Prop}{xs:List Nat}(h:BsS K w s xs)(hf:Frm F w w')(far:∀k,K.G k→¬F k)(hn:∀k,K.G k→k<w.heap.size→K'.G k)(hl:K'.low≤w'.heap.size):BsS K' w' s xs:=by
 refine⟨h.came.frm hf (fun ad e hl=>far _ (h.home hl ad e)),hl,fun hl ad e=>hn _ (h.home hl ad e) ?_⟩;obtain⟨b,off,e',hc⟩:=h.came.bs.2.2 0 hl;rw [e] at e';obtain rfl:=Option.some.inj e';exact World.block_lt_of_cell? w _ hc
theorem Zmm {p:Nat}{D:Ds}(h:DevM w p D L){b:Nat}(hf:L.F p b):∃C' t fr',w.heap[b]? = some (Obj.cells C' t fr')∧t≠117∧t≠115∧t≠43:=by
 rcases hf with rfl | ⟨f,hf⟩ | hf | hf
 · exact⟨_,_,_,h.blk,by decide,by decide,by decide⟩
 · obtain⟨C',e⟩:=(h.own f).typ hf;exact ⟨_,_,_,e,by decide,by decide,by decide⟩
 · obtain⟨C',e⟩:=h.wr.typ hf;exact ⟨_,_,_,e,by decide,by decide,by decide⟩
 · obtain⟨C',e⟩:=h.tr.typ hf;exact ⟨_,_,_,e,by decide,by decide,by decide⟩
theorem ZhM {p d:Nat}{P:Po}{X:Nat→Prop}(h:poM w p d P L X){b:Nat}{C:Array Value}{t:TypeId}{fz:Nat × Nat}(hc:w.heap[b]? = some (.cells C t fz))(ht:t=117∨t=115∨t=43):¬(X b∨L.F d b):=by
 rintro (e | e)
 · rcases Zov h e hc with h1 | h1 | h1 <;> rw [h1] at ht <;> revert ht <;> decide
 · obtain⟨C',t',fr',e',h1,h2,h3⟩:=Zmm (Zai.dev h) e;rw [hc] at e';simp only [Option.some.injEq,Obj.cells.injEq] at e';rw [← e'.2.1] at h1 h2 h3;rcases ht with q | q | q
   · exact h1 q
   · exact h2 q
   · exact h3 q
theorem DvIn.moveG {F:Nat→Prop}{L:DvL}(h:DvIn K w d L)(hf:Frm F w w')(far:∀k,K.G k→¬F k)(hn:∀k,K.G k→k<w.heap.size→K'.G k)(hl:K'.low≤w'.heap.size)(hp:∀b C fz,w.heap[b]? = some (.cells C 117 fz)→¬F b):DvIn K' w' d L:=by
 refine⟨⟨h.kept.pg.moveG hf far hn hl,h.kept.st.moveG hf far hn hl⟩,⟨h.now.pg.moveG hf far hn hl,h.now.st.moveG hf far hn hl⟩,⟨h.done.1,fun i hi=>⟨(h.done.2.1 i hi).1.moveG hf far hn hl,(h.done.2.1 i hi).2⟩,fun j hj=>?_⟩,h.nil,h.le⟩;obtain⟨b,off,ha,c0,c1,c2,c3,C,fr,hc⟩:=h.done.2.2 j hj;have ab:=(Array.getElem?_eq_some_iff.1 hc).1;have hb:=hf.block b ab (hp b C fr hc);have aa:∀o,w'.cell? ⟨b,o,none⟩=w.cell? ⟨b,o,none⟩:=by
  intro o;simp only [World.cell?];rw [hb]
 exact⟨b,off,ha,(aa _).trans c0,(aa _).trans c1,(aa _).trans c2,(aa _).trans c3,C,fr,hb.trans hc⟩
theorem RpIn.moveG {F:Nat→Prop}{n tot m:Nat}{P:Po}(h:RpIn K w n tot m P d Ld v s)(hf:Frm F w w')(far:∀k,K.G k→¬F k)(hn:∀k,K.G k→k<w.heap.size→K'.G k)(hl:K'.low≤w'.heap.size)(hp:∀b C t fz,w.heap[b]? = some (.cells C t fz)→t=117∨t=115→¬F b):RpIn K' w' n tot m P d Ld v s:=by
 refine⟨h.dv.moveG hf far hn hl (fun b C fz hc=>hp b C _ fz hc (.inl rfl)),h.rel,h.good,?_,?_,hl⟩
 · refine⟨h.ck.len,h.ck.nil,h.ck.le,h.ck.big,fun ad e hl=>?_,fun i hi=>?_,fun ad e hl=>?_⟩
   · obtain⟨C,fz,hc⟩:=h.ck.ty ad e hl;exact hn _ (h.ck.home ad e hl) (Array.getElem?_eq_some_iff.1 hc).1
   · obtain⟨b,off,ha,c0,c1,c2⟩:=h.ck.cell i hi;have hG:=h.ck.home _ ha (by omega);have hb:=hf.block b (World.block_lt_of_cell? w _ c0) (far _ hG);have aa:∀o,w'.cell? ⟨b,o,none⟩=w.cell? ⟨b,o,none⟩:=by
      intro o;simp only [World.cell?];rw [hb]
     exact⟨b,off,ha,(aa _).trans c0,(aa _).trans c1,(aa _).trans c2⟩
   · obtain⟨C,fz,hc⟩:=h.ck.ty ad e hl;exact⟨C,fz,(hf.block _ (Array.getElem?_eq_some_iff.1 hc).1 (far _ (h.ck.home ad e hl))).trans hc⟩
 · obtain⟨ls,e,hc,hz⟩:=h.sh;exact⟨ls,e,hc.frm (fun b hr=>by
    obtain⟨C,fz,hh⟩:=hr;exact hf.block b (Array.getElem?_eq_some_iff.1 hh).1 (hp b C _ fz hh (.inr rfl))),fun z hm=>⟨(hz z hm).1.moveG hf far hn hl,(hz z hm).2⟩⟩
def BadT (t:TypeId):Prop:=t=117∨t=115∨t=43
structure Pb (w0 w:World) (F:Nat→Prop) (gb n tot m:Nat) (Q:Po) (A:Nat→Prop) (K:Home) (d:Dv) (Ld:DvL) (v s:Sl):Prop where
  lt:∀k,F k→k<w.heap.size
  ty:∀b C t fz,w.heap[b]? = some (.cells C t fz)→BadT t→¬F b
  foot:∀k,F k→w0.heap.size≤k
  gg:∀k,K.G k↔¬F k
  rp:RpIn K w n tot m Q d Ld v s
  box:RBlk w gb d Ld v Q.h s Q.sy
  ge:w0.heap.size≤gb
  ap:∀k,A k→k<w.heap.size∧¬F k
  e:Below w0.heap.size w0 w
def PbX (w0 w:World) (F:Nat→Prop) (gb n tot m:Nat) (Q:Po) (A:Nat→Prop):Prop:=∃K d Ld v s,Pb w0 w F gb n tot m Q A K d Ld v s
section
variable {w0 w w' : World} {F F' : Nat → Prop} {gb n tot m : Nat} {Q : Po} {A : Nat → Prop} {K : Home} {d : Dv} {Ld : DvL} {v s : Sl}
theorem Pb.nb (h:Pb w0 w F gb n tot m Q A K d Ld v s):¬F gb:=h.ty gb _ _ _ h.box (.inr (.inr rfl))
theorem Pb.keep (h:Pb w0 w F gb n tot m Q A K d Ld v s)(hb:Below w.heap.size w w'):Pb w0 w' F gb n tot m Q A K d Ld v s:=
 ⟨fun k hk=>Nat.lt_of_lt_of_le (h.lt k hk) hb.size,fun b C t fz hc ht hF=>h.ty b C t fz ((hb.block b (h.lt b hF)).symm.trans hc) ht hF,h.foot,h.gg,h.rp.keep hb,h.box.below hb,h.ge,fun k hk=>⟨Nat.lt_of_lt_of_le (h.ap k hk).1 hb.size,(h.ap k hk).2⟩,h.e.trans (hb.mono h.e.size)⟩
theorem PbX.keep (h:PbX w0 w F gb n tot m Q A)(hb:Below w.heap.size w w'):PbX w0 w' F gb n tot m Q A:=by
 obtain⟨K,d,Ld,v,s,h⟩:=h;exact⟨K,d,Ld,v,s,h.keep hb⟩
theorem PbX.below (h:PbX w0 w F gb n tot m Q A):Below w0.heap.size w0 w:=by
 obtain⟨K,d,Ld,v,s,h⟩:=h;exact h.e
theorem PbX.lt (h:PbX w0 w F gb n tot m Q A):∀k,F k→k<w.heap.size:=by
 obtain⟨K,d,Ld,v,s,h⟩:=h;exact h.lt
theorem PbX.drop (h:PbX w0 w F gb n tot m Q A):PbX w0 w F gb n tot m Q (fun _=>False):=by
 obtain⟨K,d,Ld,v,s,h⟩:=h;exact⟨K,d,Ld,v,s,h.lt,h.ty,h.foot,h.gg,h.rp,h.box,h.ge,fun _ e=>e.elim,h.e⟩
theorem PbX.more (h:PbX w0 w F gb n tot m Q A)(hb:Below w.heap.size w w'){g:Nat}(hg:w.heap.size≤g)(hg':g<w'.heap.size):PbX w0 w' F gb n tot m Q (fun k=>k=g)∧g≠gb:=by
 obtain⟨K,d,Ld,v,s,h⟩:=h;have hk:=h.keep hb;refine⟨⟨K,d,Ld,v,s,hk.lt,hk.ty,hk.foot,hk.gg,hk.rp,hk.box,hk.ge,fun k e=>?_,hk.e⟩,fun e=>?_⟩
 · subst e;exact⟨hg',fun hf=>by have:=h.lt _ hf;omega⟩
 · have:=h.box.lt;omega
theorem Pb.act (h:Pb w0 w F gb n tot m Q A K d Ld v s)(hf:Frm F w w')(hF:∀k,F' k→F k∨w.heap.size≤k)(ab:∀k,F' k→k<w'.heap.size)(ac:∀b C t fz,w'.heap[b]? = some (.cells C t fz)→BadT t→¬F' b):PbX w0 w' F' gb n tot m Q A∧ZaD A w w':=by
 have aa:∀k,k<w.heap.size→¬F k→¬F' k:=fun k hk hn e=>(hF k e).elim hn (fun q=>by omega);refine⟨⟨⟨fun k=>¬F' k,w'.heap.size,fun k hk e=>by have:=ab k e;omega⟩,d,Ld,v,s,ab,ac,fun k hk=>(hF k hk).elim (h.foot k) (fun e=>Nat.le_trans h.e.size e),fun k=>Iff.rfl,?_,h.box.keep (hf.block gb h.box.lt h.nb),h.ge,fun k hk=>⟨Nat.lt_of_lt_of_le (h.ap k hk).1 hf.size,aa k (h.ap k hk).1 (h.ap k hk).2⟩,h.e.trans (hf.below h.e.size h.foot)⟩,fun k hk hl=>hf.block k hl (h.ap k hk).2⟩;exact h.rp.moveG hf (fun k hk=>(h.gg k).1 hk) (fun k hk hl=>aa k hl ((h.gg k).1 hk)) (Nat.le_refl _) (fun b C t fz hc ht=>h.ty b C t fz hc (ht.elim .inl (fun e=>.inr (.inl e))))
theorem Pb.fin (h:Pb w0 w F gb n tot m Q A K d Ld v s)(hA:¬A gb){tot2 m2:Nat}{Q2:Po}{x:Value}(hb:Below w.heap.size w w')(hs:Zay K n tot2 m2 Q2 x w') :
    ∃W,(Instr.storeAt 43 (.pointer (some ⟨gb,0,none⟩)) x).run Tryz.prog w'=.ok () W∧PbX w0 W F gb n tot2 m2 Q2 A∧ZaD A w W∧(∀a len cap xs,Came w' a len cap xs→Came W a len cap xs)∧Frm (fun i=>i=gb) w W:=by
  obtain⟨d2,Ld2,v2,s2,rfl,hI⟩:=hs;have hk:=h.keep hb;obtain⟨W,ae,hB,hf,af⟩:=stR hk.box d2 Ld2 v2 Q2.h s2 Q2.sy;have ab:∃d' Ld' v' h' s' sy',RBlk w' gb d' Ld' v' h' s' sy':=⟨_,_,_,_,_,_,hk.box⟩;refine⟨W,ae,⟨K,d2,Ld2,v2,s2,fun k e=>Nat.lt_of_lt_of_le (hk.lt k e) hf.size,fun b C t fz hc ht hF=>?_,hk.foot,hk.gg,hI.box hf ab,hB,hk.ge,fun k e=>⟨Nat.lt_of_lt_of_le (hk.ap k e).1 hf.size,(hk.ap k e).2⟩,hk.e.trans (hf.below hk.e.size (fun k e=>by rw [e];exact h.ge))⟩,fun k e hl=>?_,fun a len cap xs hc=>?_,(Frm.ofBelow (F:=fun i=>i=gb) hb).trans hf (fun _ _ e=>e)⟩
  · have aa:b≠gb:=fun e=>hk.nb (by rw [← e];exact hF);exact hk.ty b C t fz ((hf.block b (hk.lt b hF) aa).symm.trans hc) ht hF
  · have h1:=hb.block k (h.ap k e).1;have h2:=hf.block k (hk.ap k e).1 (fun q=>hA (by rw [← q];exact e));exact h2.trans h1
  · obtain⟨C,t,fz,ac,ad,_⟩:=hk.box.box;exact Zh0 hc (F:=fun i=>i=gb) (fun i hi hl=>hf.block i hl hi) (fun i hi=>by subst hi;exact ⟨C,t,fz,ac,ad⟩)
end
def Ma (w0 w:World) (mp p dp gb n tot m:Nat) (P Q:Po) (A:Nat→Prop):Prop:=∃L X,Mt poM w mp p dp P L X∧PbX w0 w (fun k=>X k∨L.F dp k) gb n tot m Q A
def Md (w0 w:World) (dp gb n tot m:Nat) (D:Ds) (Q:Po) (A:Nat→Prop):Prop:=∃L,DevM w dp D L∧PbX w0 w (L.F dp) gb n tot m Q A
section
variable {w0 w w' : World} {mp p dp gb n tot m c : Nat} {P Q : Po} {D : Ds} {A : Nat → Prop} {f : Nat}
theorem Ma.below (h:Ma w0 w mp p dp gb n tot m P Q A):Below w0.heap.size w0 w:=by obtain ⟨L,X,_,h⟩:=h;exact h.below
theorem Ma.keep (h:Ma w0 w mp p dp gb n tot m P Q A)(hb:Below w.heap.size w w'):Ma w0 w' mp p dp gb n tot m P Q A:=by
 obtain⟨L,X,hm,hp⟩:=h;exact⟨L,X,(hm.same Zai hb).mt,hp.keep hb⟩
theorem Ma.drop (h:Ma w0 w mp p dp gb n tot m P Q A):Ma w0 w mp p dp gb n tot m P Q (fun _=>False):=by
 obtain⟨L,X,hm,hp⟩:=h;exact⟨L,X,hm,hp.drop⟩
theorem Ma.more (h:Ma w0 w mp p dp gb n tot m P Q A)(hb:Below w.heap.size w w'){g:Nat}(hg:w.heap.size≤g)(hg':g<w'.heap.size):Ma w0 w' mp p dp gb n tot m P Q (fun k=>k=g)∧g≠gb:=by
 obtain⟨L,X,hm,hp⟩:=h;obtain⟨q1,q2⟩:=hp.more hb hg hg';exact⟨⟨L,X,(hm.same Zai hb).mt,q1⟩,q2⟩
theorem Ma.ss (h:Ma w0 w mp p dp gb n tot m P Q A):Q.D.sb+Q.D.ss.length≤tot:=by
 obtain⟨L,X,hm,K,d,Ld,v,s,h⟩:=h;rw [h.rp.rel.sb,h.rp.rel.ss];exact h.rp.good.nt
theorem Ma.did {X:Nat→Prop}(hp:PbX w0 w (fun k=>X k∨L.F dp k) gb n tot m Q A){P2:Po}(hd:MDid poM w mp p dp L X w' P2):Ma w0 w' mp p dp gb n tot m P2 Q A∧ZaD A w w':=by
 obtain⟨K,d,Ld,v,s,h⟩:=hp;obtain⟨L',X',hs⟩:=hd;obtain⟨q1,q2⟩:=h.act (F':=fun k=>X' k∨L'.F dp k) hs.frm hs.foot (fun k hk=>hk.elim (Zai.lt hs.mt.pool k) (fun e=>(Zai.dev hs.mt.pool).lt e)) (fun b C t fz hc ht=>ZhM hs.mt.pool hc ht);exact⟨⟨L',X',hs.mt,q1⟩,q2⟩
theorem Zl2 (h:Ma w0 w mp p dp gb n tot m P Q A)(hF:P.Fine n c)(hc:c+24≤9000){w1:World}(hb:Below w.heap.size w w1){vg:Sl}{l:List Ix}(hg:GI (fun k=>w.heap.size≤k) w.heap.size w1 vg l)(hl:vg.len≤1000000):Calls Tryz.prog 13 #[at0 mp,vg.val] w1 fun e w'=>e=.returned (.int .i64 (P.applyE n (ims l)))∧Ma w0 w' mp p dp gb n tot m (if P.applyE n (ims l)=0 then P.apply n (ims l) else P) Q A∧ZaD A w w':=by
 obtain⟨L,X,hm,hp⟩:=h;have ab:=hp.lt;(have hA:∀k,A k→k<w.heap.size:=by obtain ⟨K,d,Ld,v,s,h⟩:=hp;exact fun k hk=>(h.ap k hk).1);refine(ZeQ Zai (hm.same Zai hb).mt hF hc vg l ((hg.gr hl).mono (fun k hk aa=>⟨fun e=>?_,aa⟩))).mono ?_
 · have h1:=ab k e;have h2:w.heap.size≤k:=hk.elim id id;omega
 · rintro e w' ⟨rfl,hd⟩;obtain⟨q1,q2⟩:=Ma.did (hp.keep hb) hd;exact⟨rfl,q1,fun k hk hl=>(q2 k hk (Nat.lt_of_lt_of_le (hA k hk) hb.size)).trans (hb.block k (hA k hk))⟩
theorem Znb (h:Ma w0 w mp p dp gb n tot m P Q A)(hF:P.Fine n c):Calls Tryz.prog 16 #[at0 mp] w fun e w'=>e=.returned (.tuple #[])∧Ma w0 w' mp p dp gb n tot m P.syncM Q A∧ZaD A w w':=by
 obtain⟨L,X,hm,hp⟩:=h;refine(ZeB Zai hm hF).mono ?_;rintro e w' ⟨rfl,hd⟩;exact⟨rfl,Ma.did hp hd⟩
theorem Zl3 (h:Ma w0 w mp p dp gb n tot m P Q A)(hF:P.Fine n c)(hc:c+4*n≤9000)(hs:P.D.sb+65536≤900000000000):Calls Tryz.prog 18 #[at0 mp] w fun e w'=>e=.returned (.tuple #[])∧Ma w0 w' mp p dp gb n tot m (P.check n) Q A∧ZaD A w w':=by
 obtain⟨L,X,hm,hp⟩:=h;refine(ZeV Zai hm hF hc hs).mono ?_;rintro e w' ⟨rfl,hd⟩;exact⟨rfl,Ma.did hp hd⟩
theorem Zna (h:Ma w0 w mp p dp gb n tot m P Q A)(hF:P.Fine n c)(k:Nat)(hk:k<n):Calls Tryz.prog 22 #[at0 mp,.int .i64 (k:Int)] w fun e w'=>(Ma w0 w' mp p dp gb n tot m (P.letIn k) Q A∧ZaD A w w')∧∃s:Sl,e=.returned (.tuple #[s.val,.int .i64 0])∧Own 5 1 w' s (vals ((P.letIn k).con k))∧s.len=512:=by
 obtain⟨L,X,hm,hp⟩:=h;refine(ZhO Zai hm hF k hk).mono ?_;rintro e w' ⟨hd,r⟩;exact⟨Ma.did hp hd,r⟩
theorem Zl5 (h:Ma w0 w mp p dp gb n tot m P Q A)(hF:P.Fine n c)(k:Int)(hw:(Lit.int .i64 k).wf=true):Calls Tryz.prog 20 #[at0 mp,.int .i64 k] w fun e w'=>(Ma w0 w' mp p dp gb n tot m (P.evictAny k) Q A∧ZaD A w w')∧e=.returned (.int .i64 (if 0≤k∧(P.m k.toNat).isSome=true then 0 else 3)):=by
 obtain⟨L,X,hm,hp⟩:=h;refine(Ziu Zai hm hF k hw).mono ?_;rintro e w' ⟨hd,r⟩;exact⟨Ma.did hp hd,r⟩
theorem Zom (h:Ma w0 w mp p dp gb n tot m P Q A)(hF:P.Fine n c)(k:Int):Calls Tryz.prog 24 #[at0 dp,.int .i64 k] w fun e w'=>e=.returned (.tuple #[])∧Ma w0 w' mp p dp gb n tot m { P with D:=P.D.arm k } Q A∧ZaD A w w':=by
 obtain⟨L,X,hm,hp⟩:=h;refine(Zm8 w dp P.D L (Zai.dev hm.pool) n hF.wet.dev.sp hF.wet.dev.n2 hF.wet.dev.n1 k).mono ?_;rintro e w' ⟨rfl,hd,aa,ab⟩;exact⟨rfl,Ma.did hp ⟨L,X,hm.turn Zai ⟨hd,aa.mono (fun i _ e=>.inl e),fun i e=>.inl e⟩⟩⟩
theorem Zfs {D:Ds}(hE:D.Easy n c)(u:Int):D.count u≤D.ap.length:=by
 unfold Ds.count;rw [hE.units_is];split
 · omega
 · split <;> omega
theorem Zl4 (h:Ma w0 w mp p dp gb n tot m P Q A)(hE:P.D.Easy n c)(hc:c≤9000)(pa:Option Addr)(pl pc:Nat)(bs:List Bool)(aa:Pat w0 pa pl bs)(ac:pl≤9223372036854775807)(u:Int):Calls Tryz.prog 26 #[at0 dp,.slice pa pl pc,.int .i64 u] w fun e w'=>e=.returned (.tuple #[])∧Md w0 w' dp gb n tot m (P.D.crash bs (P.D.count u) 0) Q A∧ZaD A w w':=by
 obtain⟨L,X,hm,K,d,Ld,v,s,h⟩:=h;have ab:=Zai.dev hm.pool;refine(ZfT w dp P.D L ab n (hE.saneA (by omega)) pa pl pc bs (aa.keep h.e) (fun ad e hl hk=>?_) ac u (P.D.count u) 0 rfl (hE.fitU (Zfs hE u))).mono ?_
 · obtain⟨b,off,ha,hc⟩:=aa.at_ 0 hl;rw [ha] at e;cases e;have h1:=h.foot _ (.inr hk);have h2:b<w0.heap.size:=World.block_lt_of_cell? w0 _ hc;simp only at h1;omega
 · rintro e w' ⟨rfl,L',t⟩;obtain⟨q1,q2⟩:=h.act (F':=L'.F dp) (t.frm.mono (fun i _ e=>.inr e)) (fun k hk=>(t.foot k hk).elim (fun e=>.inl (.inr e)) .inr) (fun k hk=>t.dev.lt hk) (fun b C ty fz hc ht hF=>by
    obtain⟨C',t',fr',e',h1,h2,h3⟩:=Zmm t.dev hF;rw [hc] at e';simp only [Option.some.injEq,Obj.cells.injEq] at e';rw [← e'.2.1] at h1 h2 h3;rcases ht with q | q | q
    · exact h1 q
    · exact h2 q
    · exact h3 q)
   exact⟨rfl,⟨L',t.dev,q1⟩,q2⟩
theorem ZmZ (h:Md w0 w dp gb n tot m D Q A)(hE:D.Easy n c)(hs:D.ss.length≤65536)(hc:c+512+4*n≤9000)(h1:1≤f)(h2:f≤64)(ad:D.sb+65536≤900000000000):Calls Tryz.prog 8 #[at0 dp,.int .i64 (f:Int)] w fun e w'=>∃mp p,e=.returned (.tuple #[at0 mp,.int .i64 0])∧Ma w0 w' mp p dp gb n tot m (Po.opened D n f) Q A∧ZaD A w w':=by
 obtain⟨L,hd,K,d,Ld,v,s,h⟩:=h;refine(Zgr Zai w dp D L hd hE hs hc h1 h2 ad).mono ?_;rintro e w' ⟨mp,p,L',X',rfl,aa,ab,ac,ae⟩;obtain⟨q1,q2⟩:=h.act (F':=fun k=>X' k∨L'.F dp k) ab ac (fun k hk=>hk.elim (Zai.lt aa.pool k) (fun e=>(Zai.dev aa.pool).lt e)) (fun b C t fz hc ht=>ZhM aa.pool hc ht);exact⟨mp,p,rfl,⟨L',X',aa,q1⟩,q2⟩
def Mn (w0 w:World) (mp p dp gb n tot m:Nat) (P Q2:Po) (A:Nat→Prop) (x:Value) (w':World):Prop:=∃W,(Instr.storeAt 43 (.pointer (some ⟨gb,0,none⟩)) x).run Tryz.prog w'=.ok () W∧Ma w0 W mp p dp gb n tot m P Q2 A∧ZaD A w W∧(∀a len cap xs,(Came w a len cap xs∨Came w' a len cap xs)→Came W a len cap xs)∧Below w.heap.size w w'
theorem Zkb {X:Nat→Prop}{W:World}(hm:Mt poM w mp p dp P L X){h sy:Int}(hb:RBlk w gb d Ld v h s sy)(hf:Frm (fun i=>i=gb) w W)(hn:¬(X gb∨L.F dp gb)):Mt poM W mp p dp P L X:=by
 refine⟨Zai.frm hm.pool hf (fun k e q=>hn (by rw [← q];exact e)),(hf.block mp hm.blk.lt (fun e=>?_)).trans hm.blk,hm.off⟩;have h1:=hm.blk;have h2:=hb;unfold MtBlk at h1;unfold RBlk at h2;rw [e,h2] at h1;simp only [Option.some.injEq,Obj.cells.injEq] at h1;exact absurd h1.2.1 (by decide)
theorem Ma.mn {X:Nat→Prop}(hm:Mt poM w mp p dp P L X)(h:Pb w0 w (fun k=>X k∨L.F dp k) gb n tot m Q A K d Ld v s)(hA:¬A gb){tot2 m2:Nat}{Q2:Po}{x:Value}(hb:Below w.heap.size w w')(hs:Zay K n tot2 m2 Q2 x w'):Mn w0 w mp p dp gb n tot2 m2 P Q2 A x w':=by
 obtain⟨W,h1,h2,h3,h4,h5⟩:=h.fin hA hb hs;exact⟨W,h1,⟨L,X,Zkb hm h.box h5 h.nb,h2⟩,h3,fun a len cap xs hc=>h4 a len cap xs (hc.elim (fun e=>⟨e.bs.keep hb (Nat.le_refl _),e.nil,e.le,e.big⟩) id),hb⟩
def Mbox (w:World) (gb:Nat) (Q:Po) (d:Dv) (Ld:DvL) (v s:Sl):Prop:=RBlk w gb d Ld v Q.h s Q.sy
theorem Znh (h:Ma w0 w mp p dp gb n tot m P Q A)(hA:¬A gb)(hF:Q.Fine n c)(ht:tot≤40000)(hm:m≤890)(k:Nat)(hk:k<n):∃d Ld v s,Mbox w gb Q d Ld v s∧Calls Tryz.prog 23 #[rV d Ld v Q.h s Q.sy,.int .i64 (k:Int)] w fun e w'=>∃(x:Value)(q:Sl),e=.returned (.tuple #[x,q.val,.int .i64 0])∧Mn w0 w mp p dp gb n tot (m+4) P (Q.letIn k) A x w'∧Came w' q.a q.len q.cap ((Q.letIn k).con k):=by
 obtain⟨L,X,aa,K,d,Ld,v,s,h⟩:=h;refine⟨d,Ld,v,s,h.box,(ZlV h.rp hF ht hm k hk).mono ?_⟩;rintro e w' ⟨hb,x,q,r,hs,hq⟩;exact⟨x,q,r,Ma.mn aa h hA hb hs,hq.came⟩
theorem ZlC (h:Ma w0 w mp p dp gb n tot m P Q A)(hA:¬A gb)(hn:n≤64)(k:Int)(hk:¬(0≤k∧k<(n:Int))):∃d Ld v s,Mbox w gb Q d Ld v s∧Calls Tryz.prog 23 #[rV d Ld v Q.h s Q.sy,.int .i64 k] w fun e w'=>∃(x:Value),e=.returned (.tuple #[x,.slice none 0 0,.int .i64 3])∧Mn w0 w mp p dp gb n tot m P Q A x w':=by
 obtain⟨L,X,aa,K,d,Ld,v,s,h⟩:=h;refine⟨d,Ld,v,s,h.box,(ZiG h.rp hn k hk).mono ?_⟩;rintro e w' ⟨hb,x,r,hs⟩;exact⟨x,r,Ma.mn aa h hA hb hs⟩
theorem ZlB (h:Ma w0 w mp p dp gb n tot m P Q A)(hA:¬A gb)(hF:Q.Fine n c)(ht:tot≤40000)(hm:m≤890)(k:Int):∃d Ld v s,Mbox w gb Q d Ld v s∧Calls Tryz.prog 21 #[rV d Ld v Q.h s Q.sy,.int .i64 k] w fun e w'=>∃(x:Value),e=.returned (.tuple #[x,.int .i64 (if 0≤k∧(Q.m k.toNat).isSome=true then 0 else 3)])∧Mn w0 w mp p dp gb n tot (m+4) P (Q.evictAny k) A x w':=by
 obtain⟨L,X,aa,K,d,Ld,v,s,h⟩:=h;refine⟨d,Ld,v,s,h.box,?_⟩;unfold Po.evictAny;by_cases hk:0≤k∧(Q.m k.toNat).isSome=true
 · rw [if_pos hk,if_pos hk];have ab:k=(k.toNat:Int):=(Int.toNat_of_nonneg hk.1).symm;have:=Zkr h.rp hF ht hm k.toNat hk.2;rw [← ab] at this;refine this.mono ?_;rintro e w' ⟨hb',x,r,hs⟩;exact⟨x,r,Ma.mn aa h hA hb' hs⟩
 · rw [if_neg hk,if_neg hk];refine(Zhg h.rp k hk).mono ?_;rintro e w' ⟨hb',x,r,hs⟩;obtain⟨d2,L2,v2,s2,rfl,hI⟩:=hs;exact⟨_,r,Ma.mn aa h hA hb' ⟨d2,L2,v2,s2,rfl,hI.wide (Nat.le_refl _) (by omega)⟩⟩
theorem Zni (h:Ma w0 w mp p dp gb n tot m P Q A)(hA:¬A gb)(ht:tot≤40000):∃d Ld v s,Mbox w gb Q d Ld v s∧Calls Tryz.prog 17 #[rV d Ld v Q.h s Q.sy] w fun e w'=>∃(x:Value),e=.returned x∧Mn w0 w mp p dp gb n tot m P Q.syncM A x w':=by
 obtain⟨L,X,aa,K,d,Ld,v,s,h⟩:=h;refine⟨d,Ld,v,s,h.box,(Zd4 h.rp ht).mono ?_⟩;rintro e w' ⟨hb',x,r,hs⟩;exact⟨x,r,Ma.mn aa h hA hb' hs⟩
theorem Zl9 (h:Ma w0 w mp p dp gb n tot m P Q A)(hA:¬A gb)(hF:Q.Fine n c)(ht:tot≤40000)(hn:n≤64)(hm:m+4*n≤890):∃d Ld v s,Mbox w gb Q d Ld v s∧Calls Tryz.prog 19 #[rV d Ld v Q.h s Q.sy] w fun e w'=>∃(x:Value),e=.returned x∧Mn w0 w mp p dp gb n tot (m+4*n+1) P (Q.check n) A x w':=by
 obtain⟨L,X,aa,K,d,Ld,v,s,h⟩:=h;(have hl:(Q.inn n).length≤n:=by rw [← Zch,List.length_map];exact Zc4 _ n);refine⟨d,Ld,v,s,h.box,(Zer h.rp hF ht hn (by omega) (by omega)).mono ?_⟩;rintro e w' ⟨hb',x,r,d2,L2,v2,s2,rfl,hI⟩;exact⟨_,r,Ma.mn aa h hA hb' ⟨d2,L2,v2,s2,rfl,hI.wide (Nat.le_refl _) (by omega)⟩⟩
theorem Zl8 (h:Ma w0 w mp p dp gb n tot m P Q A)(hA:¬A gb)(hF:Q.Fine n c)(hn:n≤64)(ht:tot+4000≤40000)(hm:m+25≤890)(hc:c+24≤9000):∃d Ld v s,Mbox w gb Q d Ld v s∧∀w1 (vg:Sl)(l:List Ix),Below w.heap.size w w1→GI (fun k=>w.heap.size≤k) w.heap.size w1 vg l→vg.len≤1000000→Calls Tryz.prog 15 #[rV d Ld v Q.h s Q.sy,vg.val] w1 fun e w'=>∃(x:Value),e=.returned (.tuple #[x,.int .i64 (Q.applyE n (ims l))])∧Mn w0 w mp p dp gb n (tot+3085) (m+25) P (if Q.applyE n (ims l)=0 then Q.apply n (ims l) else Q) A x w':=by
 have ak:=h.ss;obtain⟨L,X,ah,K,d,Ld,v,s,h⟩:=h;refine⟨d,Ld,v,s,h.box,fun w1 vg l hb hg hl=>?_⟩;have ab:=hg.gr hl;have ad:=h.rp.keep hb;have af:GrK K w1 vg l:=GrK.of ab (fun k hk=>(h.gg k).2 (fun e=>by have h1:=h.lt k e;have h2:w.heap.size≤k:=hk.elim id id;omega)) ad.low;have fin:∀(r:Int) (Q2:Po) (t2 m2:Nat) (e:Ending) (w':World),t2≤tot+3085→m2≤m+25→Zht K w1 n t2 m2 Q2 r e w'→∃(x:Value),e=.returned (.tuple #[x,.int .i64 r])∧Mn w0 w mp p dp gb n (tot+3085) (m+25) P Q2 A x w':=by
  rintro r Q2 t2 m2 e w' aj ag ⟨hb',x,rfl,d2,L2,v2,s2,rfl,hI⟩;exact⟨_,rfl,Ma.mn ah h hA (hb.trans (hb'.mono hb.size)) ⟨d2,L2,v2,s2,rfl,hI.wide aj ag⟩⟩
 unfold Po.applyE;by_cases aa:May (ims l)
 · rw [if_neg (show ¬ ¬May (ims l) from fun e=>e aa)];have h6:=aa.2.1;have ae:=aa.1;have ac:=ab.len;rw [Zal] at h6 ae;obtain⟨va,vl,vc⟩:=vg;obtain⟨k,rfl⟩:∃k,vl=k+1:=⟨vl-1,by simp only at ac;omega⟩;simp only at ac;(have hk:(ims l).length-1=k:=by rw [Zal];omega);rw [hk,Zdk];by_cases hq:(n:Int)≤(l.getD k Ix.zero).page
   · rw [if_pos (show (n:Int)≤(l.getD k Ix.zero).im.page from hq),if_neg (by decide)];exact(ZiE ad hn va k vc l ab aa hq).mono (fun e w' hs=>fin 3 Q tot m e w' (by omega) (by omega) hs)
   · have ai:=ZaO aa.len;rw [Zal] at ai;rw [if_neg (show ¬(n:Int)≤(l.getD k Ix.zero).im.page from hq),if_neg (by omega),if_pos rfl];exact(Zkq ad hF hn ht va k vc l ab af aa hq (by omega) (by omega)).mono (fun e w' hs=>fin 0 _ _ _ e w' (by omega) (by omega) hs)
 · rw [if_pos aa,if_neg (by decide)];obtain⟨va,vl,vc⟩:=vg;exact(Zkp ad ⟨va,vl,vc⟩ l ab aa).mono (fun e w' hs=>fin 1 Q tot m e w' (by omega) (by omega) hs)
def Mdd (w0 w:World) (mp p dp gb n tot m:Nat) (P Q2:Po) (A:Nat→Prop) (x:Value) (w':World):Prop:=∃W,(Instr.storeAt 37 (.pointer (some ⟨gb,0,none⟩)) x).run Tryz.prog w'=.ok () W∧Ma w0 W mp p dp gb n tot m P Q2 A∧ZaD A w W
theorem Zon (h:Ma w0 w mp p dp gb n tot m P Q A)(hA:¬A gb)(k:Int)(hk:k≤9223372036854775807):∃d Ld v s,Mbox w gb Q d Ld v s∧Calls Tryz.prog 25 #[d.val Ld,.int .i64 k] w fun e w'=>∃(x:Value),e=.returned x∧Mdd w0 w mp p dp gb n tot m P { Q with D:=Q.D.arm k } A x w':=by
 obtain⟨L,X,ae,K,d,Ld,v,s,h⟩:=h;refine⟨d,Ld,v,s,h.box,(ZiI d Ld k w h.rp.dv).mono ?_⟩;rintro e w' ⟨hb,L1,rfl,hD⟩;refine⟨_,rfl,?_⟩;have hk':=h.keep hb;obtain⟨W,af,aa,hf,hs⟩:=stRD hk'.box (d.arm k) L1;have hI:RpIn K w' n tot m { Q with D:=Q.D.arm k } (d.arm k) L1 v s:=by
  refine⟨hD,by rw [d.arm_abs];exact hk'.rp.rel.arm k hk,by rw [d.arm_abs];exact hk'.rp.good.arm k hk,hk'.rp.ck,?_,hk'.rp.low⟩;rw [show ({ Q with D:=Q.D.arm k }:Po).inl n=Q.inl n from Zb8 (fun _=>rfl)];exact hk'.rp.sh
 obtain⟨d',Ld',v',h',s',sy',ad⟩:∃d' Ld' v' h' s' sy',RBlk w' gb d' Ld' v' h' s' sy':=⟨_,_,_,_,_,_,hk'.box⟩;have ab:=(ae.same Zai hb).mt;refine⟨W,af,⟨L,X,Zkb ab hk'.box hf hk'.nb,K,d.arm k,L1,v,s,fun j e=>Nat.lt_of_lt_of_le (hk'.lt j e) hf.size,fun b C t fz hc ht hF=>?_,hk'.foot,hk'.gg,hI.box hf ⟨_,_,_,_,_,_,ad⟩,aa,hk'.ge,fun j e=>⟨Nat.lt_of_lt_of_le (hk'.ap j e).1 hf.size,(hk'.ap j e).2⟩,hk'.e.trans (hf.below hk'.e.size (fun j e=>by rw [e];exact h.ge))⟩,fun j e hl=>?_⟩
 · have ac:b≠gb:=fun e=>hk'.nb (by rw [← e];exact hF);exact hk'.ty b C t fz ((hf.block b (hk'.lt b hF) ac).symm.trans hc) ht hF
 · exact(hf.block j (hk'.ap j e).1 (fun q=>hA (by rw [← q];exact e))).trans (hb.block j (h.ap j e).1)
theorem ZlA {P2:Po}(h:Ma w0 w mp p dp gb n tot m P Q A)(hA:¬A gb)(hE:Q.D.Easy n c)(ht:tot≤37100)(hm:m≤890)(ah:1≤n)(aj:n≤4)(h1:1≤f)(h2:f≤64)(pa:Option Addr)(pl pc:Nat)(bs:List Bool)(ab:Pat w0 pa pl bs)(ai:pl≤1000)(u:Int)(hu:(Lit.int .i64 u).wf=true):∃d Ld v s,Mbox w gb Q d Ld v s∧Calls Tryz.prog 27 #[d.val Ld,.slice pa pl pc,.int .i64 u] w fun e w1=>∃y,e=.returned y∧Calls Tryz.prog 11 #[y,.int .i64 (f:Int)] w1 fun e w'=>∃(x:Value),e=.returned x∧Mn w0 w mp p dp gb n tot 310 P (Po.opened (Q.D.crash bs (Q.D.count u) 0) n f) A x w':=by
 obtain⟨L,X,ag,K,d,Ld,v,s,h⟩:=h;have af:d.done.length≤1000:=by
  have h1:=h.rp.good.len;(have e:d.abs.done.length=d.done.length:=by show (d.done.map _).length=_;rw [List.length_map]);omega
 obtain⟨s1,s2,s3,s4⟩:=h.rp.rel.crash h.rp.good (by omega) (by omega) ah (by omega) bs u;have ac:tin d.abs.done (Q.D.count u)=0:=by
  have q1:=Zcm d.abs.done (Q.D.count u) 0;rw [← h.rp.rel.tr,hE.tr] at q1;exact Nat.le_zero.1 q1
 rw [ac] at s3;refine⟨d,Ld,v,s,h.box,?_⟩;refine(Zgx d Ld w h.rp.dv pa pl pc bs (ab.keep h.e) ai u hu af s2).mono ?_;rintro e w1 ⟨aa,L1,rfl,ad⟩;refine⟨_,rfl,?_⟩;have ae:=hE.crash bs (Zfs hE u);have ak:(Q.D.crash bs (Q.D.count u) 0).ss.length≤tot:=by
  have q:=s4.nt;rw [s3.ss];omega
 refine(Zfg (n:=n) (tot:=tot) (m:=0) (c:=0) ad s3 s4 (Nat.le_trans h.rp.low aa.size) f h2 (Po.Fine.newD ae (by omega) (by omega) h1 h2) (by omega) (by omega) (by omega) (by omega)).mono ?_;rintro e w' ⟨hb',x,rfl,d2,L2,v2,s2',rfl,hI⟩;exact⟨_,rfl,Ma.mn ag h hA (aa.trans (hb'.mono aa.size)) ⟨d2,L2,v2,s2',rfl,hI.wide (Nat.le_refl _) (by omega)⟩⟩
end
def LitQ (l:List Ag) (len:Nat) (e:Ending):Prop:=∃r:Bool,e=.returned (.bool r)∧(r=true→∀i,i<len→i<30→(l.getD i agD).q.len≤60)
theorem Zi3 (w:World)(a:Option Addr)(len cap:Nat)(l:List Ag)(h:Ags w a len l):Calls Tryz.prog 9 #[.slice a len cap] w fun e w'=>w'=w∧LitQ l len e:=by
 have H:=hide h;have ag:=h.big;clear h;go_enter Tryz.func9,Tryz.ntmps9;go_wp2_with fail;go_loopw [3,4] (fun m i wr=>wr=w∧∃j t:Nat,j≤30∧t≤600∧i=.int .i64 j∧m=.int .i64 (t:Int)∧Hid (∀i,i<j→(l.getD i agD).q.len≤60)) (fun _ i _=>30-(intOf i).toNat)
 case atStart=>exact ⟨rfl,0,0,by omega,by omega,rfl,rfl,hide (fun i hi=>absurd hi (Nat.not_lt_zero i))⟩
 case round =>
  obtain⟨rfl,j,t,hj,ht,rfl,rfl,hq⟩:=hrel;by_cases ak:j<len∧j<30
  · obtain⟨ac,an⟩:=ak;(have i1:(j:Int)<(len:Int):=by omega);(have i2:(j:Int)<30:=by omega);obtain⟨b,off,ha,aa⟩:=H.out.at_ j ac;subst ha;have d1:=aa.c1;have d2:=aa.c2;have d4:=aa.c4;have HB:=hide aa.inn.b;have ap:=aa.inn.ql;have ao:=aa.inn.p.big;have ah:=aa.inn.b.big;generalize hx:l.getD j agD=x at *;have HX:=hide hx;clear hx;obtain⟨dd,⟨pa,pl,pc⟩,⟨ba,bl,bc⟩,nn,⟨qa,ql,qc⟩,ps,bb,pat⟩:=x;simp only at d1 d2 d4 HB ap ao ah;clear aa;by_cases c1:(9:Int)<(pl:Int)
    · go_wp2_with fail;go_ret;exact⟨rfl,false,rfl,fun h=>by cases h⟩
    by_cases c2:(9:Int)<(bl:Int)
    · go_wp2_with fail;go_ret;exact⟨rfl,false,rfl,fun h=>by cases h⟩
    by_cases c3:(60:Int)<(ql:Int)
    · go_wp2_with fail;go_ret;exact⟨rfl,false,rfl,fun h=>by cases h⟩
    (have ai:bl≤9:=by omega);have ad:Hid (∀i,i<j+1→(l.getD i agD).q.len≤60):=fun i hi=>by
     by_cases al:i=j
     · rw [al,HX.out];show ql≤60;omega
     · exact hq.out i (by omega)
    go_wp2_with fail;go_loopw [3,5] (fun m i wz=>wz=wr∧∃k t:Nat,k≤bl∧t≤600∧i=.int .i64 k∧m=.int .i64 (t:Int)) (fun _ i _=>bl-(intOf i).toNat)
    case atStart=>exact ⟨rfl,0,t,by omega,by omega,rfl,rfl⟩
    case round =>
     obtain⟨rfl,k,t',hk,ht',rfl,rfl⟩:=hrel;by_cases am:k<bl
     · (have i3:(k:Int)<(bl:Int):=by omega);obtain⟨b2,o2,af,e0,ab⟩:=HB.out.at_ k am;subst af;have aj:=ab.big;generalize bb.getD k Bt.zero=y at *;obtain⟨⟨ya,yl,yc⟩,ys⟩:=y;simp only [Sl.val] at e0 aj;clear ab;by_cases c4:(600:Int)-(t':Int)<(yl:Int)
       · go_wp2_with fail;go_ret;exact⟨rfl,false,rfl,fun h=>by cases h⟩
       · go_wp2_with fail;go_roundw
         case rel=>exact ⟨by trivial,k+1,t'+yl,by omega,by omega,by go_num,by go_num⟩
         case measure=>simp only [intOf];omega
     · (have i3:¬(k:Int)<(bl:Int):=by omega);go_wp2_with fail;go_roundw
       case rel=>exact ⟨by trivial,j+1,t',by omega,by omega,by go_num,rfl,ad⟩
       case measure=>simp only [intOf];omega
  · by_cases ac:j<len
    · (have i1:(j:Int)<(len:Int):=by omega);(have i2:¬(j:Int)<30:=by omega);go_wp2_with fail;go_ret;exact⟨rfl,true,rfl,fun _ i hi ae=>hq.out i (by omega)⟩
    · (have i1:¬(j:Int)<(len:Int):=by omega);go_wp2_with fail;go_ret;exact⟨rfl,true,rfl,fun _ i hi ae=>hq.out i (by omega)⟩
end Go.Proofs.YtpnlebpnhmibfaaGreat
