/-
  Lemmas.
-/
import Derived.Test.YtpnlebpnhmibfaaGreatBc
import Derived.Test.YtpnlebpnhmibfaaGreatBf
namespace Go.Proofs.YtpnlebpnhmibfaaGreat
open Go.RowKit
set_option linter.unusedVariables false
set_option maxRecDepth 100000
set_option maxHeartbeats 4000000
variable {n c k p i:Nat}{D:Ds}{b xs:List Nat}
def Ds.page (D:Ds) (k:Nat):List Nat:=(D.sp.drop (512*k)).take 512
def Ds.fin (D:Ds):Int:=((D.sb+D.ss.length:Nat):Int)
theorem Ds.keepU_sp (D:Ds)(u m:Nat):(D.keepU u m).sp=D.sp∧(D.keepU u m).ss=D.ss∧(D.keepU u m).sb=D.sb:=by
 unfold Ds.keepU;split <;> exact ⟨rfl,rfl,rfl⟩
theorem Ds.sync_sp (D:Ds):D.sync.sp=D.sp∧D.sync.ss=D.ss∧D.sync.sb=D.sb:=by
 unfold Ds.sync;split
 · exact⟨rfl,rfl,rfl⟩
 · exact Ds.keepU_sp { D with kp:=keepW [true] 0 D.wr D.kp } D.units D.tr.length
theorem Ds.sync_fin (D:Ds):D.sync.fin=D.fin:=by unfold Ds.fin;rw [D.sync_sp.2.1,D.sync_sp.2.2]
theorem Ds.write_sp (D:Ds)(k:Nat)(b:List Nat):(D.write k b).sp=splice D.sp (512*k) b:=(D.write0 k b).spend_b 4 .sp
theorem Ds.write_ss (D:Ds)(k:Nat)(b:List Nat):(D.write k b).ss=D.ss∧(D.write k b).sb=D.sb:=by
 refine⟨(D.write0 k b).spend_b 4 .ss,?_⟩;show ((D.write0 k b).spend 4).sb=D.sb;unfold Ds.spend;split
 · rfl
 · split
   · rfl
   · split <;> rfl
theorem Zkn (hx:xs.length=512*n)(hk:k<n)(hb:b.length=512):((splice xs (512*k) b).drop (512*k)).take 512=b:=by
 unfold splice;rw [List.append_assoc,List.drop_append,List.drop_eq_nil_of_le (by rw [List.length_take];omega),List.nil_append,List.length_take,show 512*k-min (512*k) xs.length=0 by omega,List.drop_zero,List.take_append_of_le_length (by omega),List.take_of_length_le (by omega)]
theorem ZiB {j:Nat}(hx:xs.length=512*n)(hk:k<n)(hj:j<n)(hb:b.length=512)(ab:j≠k):((splice xs (512*k) b).drop (512*j)).take 512=(xs.drop (512*j)).take 512:=by
 apply List.ext_getElem?;intro i;simp only [List.getElem?_take,List.getElem?_drop];by_cases hi:i<512
 · rw [if_pos hi,if_pos hi];unfold splice;by_cases aa:j<k
   · rw [List.append_assoc,List.getElem?_append_left (by rw [List.length_take];omega),List.getElem?_take_of_lt (by omega)]
   · rw [List.getElem?_append_right (by rw [List.length_append,List.length_take];omega),List.length_append,List.length_take,List.getElem?_drop];congr 1;omega
 · rw [if_neg hi,if_neg hi]
theorem Ze4 (hx:xs.length=512*n)(hk:k<n)(hb:b.length=512):(splice xs (512*k) b).length=512*n:=by
 unfold splice;simp only [List.length_append,List.length_take,List.length_drop];omega
structure Sh where
  b:List Nat
  dirty:Bool
  place:Int
structure Po where
  D:Ds
  l:List Sp
  h:Int
  m:Nat→Option Sh
  sy:Int
def Po.put (P:Po) (p:Nat) (o:Option Sh):Po:={ P with m:=fun k=>if k=p then o else P.m k }
def Po.ahead (P:Po) (place:Int):Po:=if P.sy<place then { P with D:=P.D.sync,sy:=P.D.fin } else P
def Po.wrote (P:Po) (p:Nat) (s:Sh):Po:=({ P.ahead s.place with D:=(P.ahead s.place).D.write p s.b }:Po).put p (some { s with dirty:=false })
def Po.write (P:Po) (p:Nat):Po:=
  match P.m p with
  | none=>P
  | some s=>if s.dirty=true then P.wrote p s else P
def Po.out (P:Po) (p:Nat):Po:=(P.write p).put p none
def Po.clock (P:Po) (l:List Sp) (h:Int):Po:={ P with l:=l,h:=h }
def Po.left (P:Po) (was:Int):Po:=if 0≤was∧(P.m was.toNat).isSome=true then P.out was.toNat else P
def Po.fetch (P:Po) (p:Nat):Po:=if (P.m p).isSome=true then P else P.put p (some ⟨P.D.page p,false,0⟩)
def Po.letIn (P:Po) (p:Nat):Po:=((P.clock (touch P.l P.h ((p:Nat):Int)).l (touch P.l P.h ((p:Nat):Int)).h).left (touch P.l P.h ((p:Nat):Int)).was).fetch p
def Po.set (P:Po) (p:Nat) (b:List Nat) (place:Int):Po:=(P.letIn p).put p (some ⟨b,true,place⟩)
def Po.evict (P:Po) (p:Nat):Po:=(P.out p).clock (dropC P.l ((p:Nat):Int)).l P.h
def Po.isDirty (P:Po) (k:Nat):Bool:=match P.m k with
  | none=>false
  | some s=>s.dirty
def Po.dirty (P:Po) (n:Nat):List Nat:=(List.range n).filter P.isDirty
def Po.inn (P:Po) (n:Nat):List Nat:=(List.range n).filter (fun k=>(P.m k).isSome)
def Po.flush (P:Po) (n:Nat):Po:=(P.dirty n).foldl Po.write P
def Po.synced (P:Po):Po:={ P with sy:=P.D.fin }
def Po.new (D:Ds) (f:Nat):Po:=⟨D,List.replicate f Sp.none,0,fun _=>none,((D.sb:Nat):Int)⟩
def Po.con (P:Po) (k:Nat):List Nat:=match P.m k with
  | none=>P.D.page k
  | some s=>s.b
structure Po.Dev (P:Po) (n:Nat):Prop where
  sp:P.D.sp.length=512*n
  n64:n≤64
  sh:∀k s,P.m k=some s→k<n∧s.b.length=512
  clean:∀k s,P.m k=some s→s.dirty=false→s.b=P.D.page k
structure Po.Ck (P:Po):Prop where
  may:may P.l P.h=true
  pin:∀i,i<P.l.length→(fr P.l i).pin=false
  inn:∀k,(P.m k).isSome=true↔∃i,i<P.l.length∧(fr P.l i).page=((k:Nat):Int)
structure Po.Ok (P:Po) (n:Nat):Prop extends P.Dev n,P.Ck
theorem Za9 (P:Po)(p:Nat)(o:Option Sh):(P.put p o).m p=o:=by simp [Po.put]
theorem Za4 (P:Po)(o:Option Sh)(h:k≠p):(P.put p o).m k=P.m k:=by simp [Po.put,h]
theorem ZkO (P:Po)(z:Int):(P.ahead z).D.sp=P.D.sp:=by
 unfold Po.ahead;split
 · exact P.D.sync_sp.1
 · rfl
theorem ZaE (P:Po)(z:Int):(P.ahead z).m=P.m∧(P.ahead z).l=P.l∧(P.ahead z).h=P.h:=by
 unfold Po.ahead;split <;> exact ⟨rfl,rfl,rfl⟩
theorem ZfM (P:Po)(p:Nat)(s:Sh):(P.wrote p s).D.sp=splice P.D.sp (512*p) s.b:=by
 show ((P.ahead s.place).D.write p s.b).sp=_;rw [Ds.write_sp,ZkO]
theorem ZcY (P:Po)(p:Nat)(s:Sh)(k:Nat):(P.wrote p s).m k=if k=p then some { s with dirty:=false } else P.m k:=by
 show (if k=p then _ else (P.ahead s.place).m k)=_;rw [(ZaE P s.place).1]
theorem ZcG (P:Po)(p:Nat)(s:Sh):(P.wrote p s).l=P.l∧(P.wrote p s).h=P.h:=⟨(ZaE P s.place).2.1,(ZaE P s.place).2.2⟩
theorem Po.Dev.wrote {P:Po}(h:P.Dev n){s:Sh}(hp:P.m p=some s):(P.wrote p s).Dev n∧∀k,k<n→(P.wrote p s).con k=P.con k:=by
 obtain⟨aa,hb⟩:=h.sh p s hp;(have ad:(P.wrote p s).D.page p=s.b:=by unfold Ds.page;rw [ZfM];exact Zkn h.sp aa hb);(have ab:∀k,k<n→k≠p→(P.wrote p s).D.page k=P.D.page k:=fun k hk ac=>by unfold Ds.page;rw [ZfM];exact ZiB h.sp aa hk hb ac);refine⟨⟨by rw [ZfM];exact Ze4 h.sp aa hb,h.n64,fun k t hk=>?_,fun k t hk hd=>?_⟩,fun k hk=>?_⟩
 · rw [ZcY] at hk;split at hk
   · rename_i e;cases hk;exact⟨by rw [e];exact aa,hb⟩
   · exact h.sh k t hk
 · rw [ZcY] at hk;split at hk
   · rename_i e;cases hk;rw [e,ad]
   · rename_i e;rw [ab k (h.sh k t hk).1 e];exact h.clean k t hk hd
 · unfold Po.con;rw [ZcY];by_cases e:k=p
   · rw [if_pos e,e,hp]
   · rw [if_neg e];cases P.m k with
     | none=>exact ab k hk e
     | some t=>rfl
structure Wrt (P Q:Po) (n p:Nat):Prop where
  dev:Q.Dev n
  con:∀k,k<n→Q.con k=P.con k
  some:∀k,(Q.m k).isSome=(P.m k).isSome
  l:Q.l=P.l
  h:Q.h=P.h
  clean:Q.isDirty p=false
  other:∀k,k≠p→Q.m k=P.m k
theorem Po.Dev.write {P:Po}(h:P.Dev n)(p:Nat):Wrt P (P.write p) n p:=by
 unfold Po.write;cases hp:P.m p with
 | none=>exact ⟨h,fun _ _=>rfl,fun _=>rfl,rfl,rfl,by unfold Po.isDirty;rw [hp],fun _ _=>rfl⟩
 | some s =>
  simp only;by_cases hd:s.dirty=true
  · rw [if_pos hd];refine⟨(h.wrote hp).1,(h.wrote hp).2,fun k=>?_,(ZcG P p s).1,(ZcG P p s).2,by unfold Po.isDirty;rw [ZcY,if_pos rfl],fun k hk=>by rw [ZcY,if_neg hk]⟩;rw [ZcY];split
    · rename_i e;rw [e,hp];rfl
    · rfl
  · rw [if_neg hd];exact⟨h,fun _ _=>rfl,fun _=>rfl,rfl,rfl,by unfold Po.isDirty;rw [hp];simpa using hd,fun _ _=>rfl⟩
theorem Po.Dev.out {P:Po}(h:P.Dev n)(p:Nat):(P.out p).Dev n∧(∀k,k<n→(P.out p).con k=P.con k)∧(P.out p).m p=none∧(∀k,k≠p→(P.out p).m k=P.m k)∧(P.out p).l=P.l∧(P.out p).h=P.h:=by
 have w:=h.write p;have hm:∀k,k≠p→(P.out p).m k=(P.write p).m k:=fun k hk=>Za4 _ _ hk;refine⟨⟨w.dev.sp,w.dev.n64,fun k s hk=>?_,fun k s hk hd=>?_⟩,fun k hk=>?_,Za9 _ _ _,fun k hk=>by rw [hm k hk,w.other k hk],w.l,w.h⟩
 · by_cases e:k=p
   · rw [e,show (P.out p).m p=none from Za9 _ _ _] at hk;cases hk
   · rw [hm k e] at hk;exact w.dev.sh k s hk
 · by_cases e:k=p
   · rw [e,show (P.out p).m p=none from Za9 _ _ _] at hk;cases hk
   · rw [hm k e] at hk;exact w.dev.clean k s hk hd
 · rw [← w.con k hk];unfold Po.con;by_cases e:k=p
   · rw [e,show (P.out p).m p=none from Za9 _ _ _];have hc:=w.clean;unfold Po.isDirty at hc;cases hw:(P.write p).m p with
     | none=>rfl
     | some s =>
      rw [hw] at hc;exact(w.dev.clean p s hw hc).symm
   · rw [hm k e];rfl
theorem Po.Dev.fetch {P:Po}(h:P.Dev n)(hp:p<n):(P.fetch p).Dev n∧(∀k,k<n→(P.fetch p).con k=P.con k)∧((P.fetch p).m p).isSome=true∧(∀k,k≠p→(P.fetch p).m k=P.m k)∧(P.fetch p).l=P.l∧(P.fetch p).h=P.h:=by
 unfold Po.fetch;cases hm:P.m p with
 | some s =>
  rw [if_pos (show (some s).isSome=true from rfl)];exact⟨h,fun _ _=>rfl,by rw [hm];rfl,fun _ _=>rfl,rfl,rfl⟩
 | none =>
  rw [if_neg (show ¬(none:Option Sh).isSome=true by simp)];(have hl:(P.D.page p).length=512:=by unfold Ds.page;rw [List.length_take,List.length_drop,h.sp];omega);refine⟨⟨h.sp,h.n64,fun k s hk=>?_,fun k s hk hd=>?_⟩,fun k hk=>?_,by rw [Za9];rfl,fun k hk=>Za4 _ _ hk,rfl,rfl⟩
  · by_cases e:k=p
    · rw [e,Za9] at hk;cases hk;exact ⟨by rw [e];exact hp,hl⟩
    · rw [Za4 _ _ e] at hk;exact h.sh k s hk
  · by_cases e:k=p
    · rw [e,Za9] at hk;cases hk;rw [e];rfl
    · rw [Za4 _ _ e] at hk;exact h.clean k s hk hd
  · unfold Po.con;by_cases e:k=p
    · rw [e,Za9,hm]
    · rw [Za4 _ _ e];rfl
theorem Po.Dev.set {P:Po}(h:P.Dev n)(hp:p<n)(hb:b.length=512)(z:Int):(P.put p (some ⟨b,true,z⟩)).Dev n∧∀k,k<n→(P.put p (some ⟨b,true,z⟩)).con k=if k=p then b else P.con k:=by
 refine⟨⟨h.sp,h.n64,fun k s hk=>?_,fun k s hk hd=>?_⟩,fun k hk=>?_⟩
 · by_cases e:k=p
   · rw [e,Za9] at hk;cases hk;exact ⟨by rw [e];exact hp,hb⟩
   · rw [Za4 _ _ e] at hk;exact h.sh k s hk
 · by_cases e:k=p
   · rw [e,Za9] at hk;cases hk;cases hd
   · rw [Za4 _ _ e] at hk;exact h.clean k s hk hd
 · unfold Po.con;by_cases e:k=p
   · rw [e,Za9,if_pos rfl]
   · rw [Za4 _ _ e,if_neg e];rfl
structure Let (P Q:Po) (n p:Nat):Prop where
  ok:Q.Ok n
  con:∀k,k<n→Q.con k=P.con k
  inn:(Q.m p).isSome=true
  len:Q.l.length=P.l.length
theorem Po.Ok.letIn {P:Po}(h:P.Ok n)(hp:p<n):Let P (P.letIn p) n p:=by
 have am:isPg (p:Int)=true:=ZaY.2 ⟨by omega,by have:=h.n64;omega⟩;obtain⟨m1,m2,m3,m4,mg⟩:=ZaI.1 h.may;rcases ZeE h.may am with ⟨_,ae,_⟩ | ⟨i,T⟩
 · have h1:=ae 0 (by omega);rw [h.pin 0 (by omega)] at h1;cases h1
 · unfold Po.letIn;generalize aq:touch P.l P.h (p:Int)=tc at *;have ag:(P.clock tc.l tc.h).Dev n:=⟨h.sp,h.n64,h.sh,h.clean⟩;(have ac:∀j,j<tc.l.length→(fr tc.l j).pin=false:=fun j hj=>by rw [T.pin j (by rw [← T.len];exact hj)];exact h.pin j (by rw [← T.len];exact hj));rcases T.was with ⟨ah,hw⟩ | ⟨_,hw,al⟩
   · (have hl:(P.clock tc.l tc.h).left tc.was=P.clock tc.l tc.h:=by unfold Po.left;rw [if_neg (fun k=>by rw [hw] at k;omega)]);rw [hl];have ab:(P.m p).isSome=true:=(h.inn p).2 ⟨i,T.lt,ah⟩;(have hf:(P.clock tc.l tc.h).fetch p=P.clock tc.l tc.h:=by unfold Po.fetch;exact if_pos ab);rw [hf];refine⟨⟨ag,⟨T.may,ac,fun k=>?_⟩⟩,fun _ _=>rfl,ab,T.len⟩;show (P.m k).isSome=true↔_;rw [h.inn k];constructor
     · rintro ⟨j,hj,e⟩;refine⟨j,by show j<tc.l.length;rw [T.len];exact hj,?_⟩;by_cases ej:j=i
       · rw [ej];show (fr tc.l i).page=_;rw [T.page,← e,ej,ah]
       · show (fr tc.l j).page=_;rw [T.others j hj ej];exact e
     · rintro ⟨j,hj,e⟩;(replace hj:j<P.l.length:=by rw [← T.len];exact hj);replace e:(fr tc.l j).page=(k:Int):=e;refine⟨j,hj,?_⟩;by_cases ej:j=i
       · rw [ej,T.page] at e;rw [ej,ah,e]
       · rw [T.others j hj ej] at e;exact e
   · have aa:P.m p=none:=by
      cases hm:P.m p with
      | none=>rfl
      | some s =>
       obtain⟨j,hj,e⟩:=(h.inn p).1 (by rw [hm];rfl);exact absurd e (al j hj)
     have hb:=(mg i T.lt).bound;have key:∀Q:Po,Q.Dev n→(∀k,k<n→Q.con k=P.con k)→Q.l=tc.l→Q.h=tc.h→(∀k,(Q.m k).isSome=true↔(P.m k).isSome=true∧(k:Int)≠tc.was)→Q.m p=none→Let P (Q.fetch p) n p:=by
      intro Q hQ af ad ai aj ap;obtain⟨f1,f2,f3,f4,f5,f6⟩:=hQ.fetch hp;refine⟨⟨f1,⟨by rw [f5,f6,ad,ai];exact T.may,by rw [f5,ad];exact ac,fun k=>?_⟩⟩,fun k hk=>by rw [f2 k hk,af k hk],f3,by rw [f5,ad,T.len]⟩;rw [f5,ad];by_cases ek:k=p
      · rw [ek];exact⟨fun _=>⟨i,by rw [T.len];exact T.lt,T.page⟩,fun _=>f3⟩
      · rw [f4 k ek,aj k,h.inn k];constructor
        · rintro ⟨⟨j,hj,e⟩,ak⟩;refine⟨j,by rw [T.len];exact hj,?_⟩;have ej:j≠i:=fun e2=>ak (by rw [hw,← e,e2]);rw [T.others j hj ej];exact e
        · rintro ⟨j,hj,e⟩;rw [T.len] at hj;have ej:j≠i:=fun e2=>ek (by rw [e2,T.page] at e;omega);rw [T.others j hj ej] at e;refine⟨⟨j,hj,e⟩,fun e2=>ej ?_⟩;rw [hw] at e2;exact Gds.one mg hj T.lt (by rw [e,e2]) (by rw [e];omega)
     by_cases an:0≤tc.was
     · obtain⟨x,hx⟩:∃x:Nat,tc.was=(x:Int):=⟨tc.was.toNat,by omega⟩;have ao:(P.m x).isSome=true:=(h.inn x).2 ⟨i,T.lt,by rw [← hw,hx]⟩;have hl:(P.clock tc.l tc.h).left tc.was=(P.clock tc.l tc.h).out x:=by
        unfold Po.left;rw [hx,Int.toNat_natCast];exact if_pos ⟨by omega,ao⟩
       rw [hl];obtain⟨o1,o2,o3,o4,o5,o6⟩:=ag.out x;refine key _ o1 (fun k hk=>o2 k hk) o5 o6 (fun k=>?_) ?_
       · by_cases ek:k=x
         · rw [ek,o3,hx];simp
         · rw [o4 k ek,hx];exact⟨fun hh=>⟨hh,fun e=>ek (by omega)⟩,fun hh=>hh.1⟩
       · by_cases ep:p=x
         · rw [ep];exact o3
         · rw [o4 p ep];exact aa
     · (have hl:(P.clock tc.l tc.h).left tc.was=P.clock tc.l tc.h:=by unfold Po.left;exact if_neg (fun k=>an k.1));rw [hl];exact key _ ag (fun _ _=>rfl) rfl rfl (fun k=>⟨fun hh=>⟨hh,fun e=>by omega⟩,fun hh=>hh.1⟩) aa
theorem Po.Ok.set {P:Po}(h:P.Ok n)(hp:p<n)(hb:b.length=512)(z:Int):(P.set p b z).Ok n∧(∀k,k<n→(P.set p b z).con k=if k=p then b else P.con k)∧(P.set p b z).l.length=P.l.length:=by
 have L:=h.letIn hp;obtain⟨s1,s2⟩:=L.ok.toDev.set hp hb z;refine⟨⟨s1,⟨L.ok.may,L.ok.pin,fun k=>?_⟩⟩,fun k hk=>?_,L.len⟩
 · show (((P.letIn p).put p (some ⟨b,true,z⟩)).m k).isSome=true↔∃i,i<(P.letIn p).l.length∧(fr (P.letIn p).l i).page=(k:Int);rw [← L.ok.inn k];by_cases e:k=p
   · rw [e,Za9];exact⟨fun _=>L.inn,fun _=>rfl⟩
   · rw [Za4 _ _ e]
 · show ((P.letIn p).put p (some ⟨b,true,z⟩)).con k=_;rw [s2 k hk,L.con k hk]
theorem ZmC {l:List Sp}{p:Int}(hm:∀j,j<l.length→Gd l j)(hi:i<l.length)(hp:(fr l i).page=p)(h0:0≤p)(aa:(fr l i).pin=false):(dropC l p).l=l.set i Sp.none∧(dropC l p).e=0:=by
 rcases ZaN l p with ⟨_,ac⟩ | ⟨q,hq,hx,ab,_⟩
 · exact absurd hp (ac i hi)
 · have e:q=i:=Gds.one hm hq hi (by rw [ab,hp]) (by rw [ab];exact h0);subst e;unfold dropC;rw [if_neg (by rw [hx];omega),hx,Int.toNat_natCast,if_neg (by rw [aa];decide)];exact⟨rfl,rfl⟩
theorem Zl7 {l:List Sp}{h:Int}(hm:may l h=true)(hi:i<l.length):may (l.set i Sp.none) h=true:=by
 obtain⟨m1,m2,m3,m4,mg⟩:=ZaI.1 hm;refine ZaI.2 ⟨by rw [List.length_set];exact m1,by rw [List.length_set];exact m2,m3,by rw [List.length_set];exact m4,fun j hj=>?_⟩;rw [List.length_set] at hj;by_cases e:j=i
 · rw [e];exact .inl (Zav hi _)
 · rcases mg j hj with g | ⟨g1,g2,g3⟩
   · exact .inl (by rw [Zap (fun x=>e x.symm)];exact g)
   · refine .inr ⟨by rw [Zap (fun x=>e x.symm)];exact g1,by rw [Zap (fun x=>e x.symm)];exact g2,fun q hq=>?_⟩;rw [Zap (fun x=>e x.symm)];by_cases eq:q=i
     · rw [eq,Zav hi];show (-1:Int)≠_;omega
     · rw [Zap (fun x=>eq x.symm)];exact g3 q hq
theorem Po.Ok.evict {P:Po}(h:P.Ok n)(hp:(P.m p).isSome=true):(P.evict p).Ok n∧(∀k,k<n→(P.evict p).con k=P.con k)∧(P.evict p).l.length=P.l.length∧(P.evict p).m p=none:=by
 obtain⟨o1,o2,o3,o4,o5,o6⟩:=h.toDev.out p;obtain⟨m1,m2,m3,m4,mg⟩:=ZaI.1 h.may;obtain⟨i,hi,aa⟩:=(h.inn p).1 hp;obtain⟨d1,_⟩:=ZmC mg hi aa (by omega) (h.pin i hi);have hl:(P.evict p).l=P.l.set i Sp.none:=d1;refine⟨⟨⟨o1.sp,o1.n64,o1.sh,o1.clean⟩,⟨by rw [hl];exact Zl7 h.may hi,fun j hj=>?_,fun k=>?_⟩⟩,o2,by rw [hl,List.length_set],o3⟩
 · rw [hl] at hj ⊢;rw [List.length_set] at hj;by_cases e:j=i
   · rw [e,Zav hi];rfl
   · rw [Zap (fun x=>e x.symm)];exact h.pin j hj
 · rw [hl];show ((P.out p).m k).isSome=true↔_;by_cases ek:k=p
   · rw [ek,o3];constructor
     · intro hh;cases hh
     · rintro ⟨j,hj,e⟩;rw [List.length_set] at hj;by_cases ej:j=i
       · rw [ej,Zav hi] at e;exact absurd e (by show ¬(-1:Int)=_;omega)
       · rw [Zap (fun x=>ej x.symm)] at e;exact absurd (Gds.one mg hj hi (by rw [e,aa]) (by rw [e];omega)) ej
   · rw [o4 k ek,h.inn k];constructor
     · rintro ⟨j,hj,e⟩;have ej:j≠i:=fun x=>ek (by rw [x,aa] at e;omega);exact⟨j,by rw [List.length_set];exact hj,by rw [Zap (fun x=>ej x.symm)];exact e⟩
     · rintro ⟨j,hj,e⟩;rw [List.length_set] at hj;by_cases ej:j=i
       · rw [ej,Zav hi] at e;exact absurd e (by show ¬(-1:Int)=_;omega)
       · rw [Zap (fun x=>ej x.symm)] at e;exact⟨j,hj,e⟩
theorem Po.Ok.write {P:Po}(h:P.Ok n)(p:Nat):(P.write p).Ok n:=by
 have w:=h.toDev.write p;refine⟨w.dev,⟨by rw [w.l,w.h];exact h.may,by rw [w.l];exact h.pin,fun k=>?_⟩⟩;rw [w.some k,w.l];exact h.inn k
structure Fl (P Q:Po) (n:Nat):Prop where
  ok:Q.Ok n
  con:∀k,k<n→Q.con k=P.con k
  some:∀k,(Q.m k).isSome=(P.m k).isSome
  l:Q.l=P.l
  still:∀k,P.isDirty k=false→Q.isDirty k=false
theorem Zfa :∀(L:List Nat)(P:Po),P.Ok n→Fl P (L.foldl Po.write P) n∧∀k,k∈L→(L.foldl Po.write P).isDirty k=false
 | [],P,h=>⟨⟨h,fun _ _=>rfl,fun _=>rfl,rfl,fun _ k=>k⟩,fun k hk=>by cases hk⟩
 | p :: L,P,h=>by
  have w:=h.toDev.write p
  obtain⟨f,g⟩:=Zfa L (P.write p) (h.write p)
  have aa:∀k,P.isDirty k=false→(P.write p).isDirty k=false:=fun k hk=>by
   by_cases e:k=p
   · rw [e];exact w.clean
   · unfold Po.isDirty at hk ⊢
     rw [w.other k e]
     exact hk
  refine⟨⟨f.ok,fun k hk=>by rw [List.foldl_cons,f.con k hk,w.con k hk],fun k=>by rw [List.foldl_cons,f.some k,w.some k],by rw [List.foldl_cons,f.l,w.l],fun k hk=>by rw [List.foldl_cons];exact f.still k (aa k hk)⟩,fun k hk=>?_⟩
  rw [List.foldl_cons]
  rcases List.mem_cons.1 hk with e | e
  · rw [e];exact f.still p w.clean
  · exact g k e
theorem Po.Ok.flush {P:Po}(h:P.Ok n):Fl P (P.flush n) n∧(P.flush n).dirty n=[]:=by
 obtain⟨f,g⟩:=Zfa (P.dirty n) P h;refine⟨f,?_⟩;unfold Po.dirty;rw [List.filter_eq_nil_iff];intro k hk;have aa:=List.mem_range.1 hk;show ¬(P.flush n).isDirty k=true;cases hd:P.isDirty k with
 | true =>
  have:=g k (List.mem_filter.2 ⟨hk,hd⟩);unfold Po.flush;rw [this];decide
 | false =>
  unfold Po.flush;rw [f.still k hd];decide
theorem Po.Ok.new {f:Nat}(hs:D.sp.length=512*n)(hn:n≤64)(h1:1≤f)(h2:f≤64):(Po.new D f).Ok n:=by
 (have aa:∀j,j<f→fr (List.replicate f Sp.none) j=Sp.none:=fun j hj=>by unfold fr;simp [List.getD,hj]);refine⟨⟨hs,hn,(fun k s hk=>by cases hk),(fun k s hk=>by cases hk)⟩,⟨ZaI.2 ⟨by simpa [Po.new] using h1,by simpa [Po.new] using h2,Int.le_refl _,by simp [Po.new];omega,fun j hj=>.inl (aa j (by simpa [Po.new] using hj))⟩,fun j hj=>by show (fr (List.replicate f Sp.none) j).pin=false;rw [aa j (by simpa [Po.new] using hj)];rfl,fun k=>?_⟩⟩;constructor
 · intro hh;cases hh
 · rintro ⟨j,hj,e⟩;replace e:(fr (List.replicate f Sp.none) j).page=(k:Int):=e;rw [aa j (by simpa [Po.new] using hj)] at e;exact absurd e (by show ¬(-1:Int)=_;omega)
theorem Zdc (P:Po)(n:Nat):P.dirty n=(P.inn n).filter P.isDirty:=by
 unfold Po.dirty Po.inn;rw [List.filter_filter];apply List.filter_congr;intro k _;unfold Po.isDirty;cases P.m k <;> simp
theorem Zld (P:Po)(n:Nat):(P.dirty n).length≤(P.inn n).length:=by
 rw [Zdc];exact List.length_filter_le _ _
structure Ds.Easy (D:Ds) (n c:Nat):Prop where
  sp:D.sp.length=512*n
  kp:D.kp.length=512*n
  n1:1≤n
  n2:n≤64
  wr:∀x∈D.wr,x.Ok (512*n)
  wl:D.wr.length≤c
  al:D.armed=true→0≤D.left∧D.left≤9223372036854775807
  tr:D.tr=[]
  sbn:D.sb≤900000000000
  kbn:D.kb≤900000000000
  kl:D.ks.length+D.ap.length≤65536
  ki:D.gone=false→D.kb=D.sb∧D.ks ++ D.ap=D.ss
  bs:Bytes D.sp
  bk:Bytes D.kp
theorem Ds.Easy.more {d:Nat}(h:D.Easy n c)(aa:c≤d):D.Easy n d:={ h with wl:=Nat.le_trans h.wl aa }
theorem Ds.Easy.sane (h:D.Easy n c)(hc:c≤100000)(hs:D.ss.length≤1000000):D.Sane n:=⟨h.sp,h.kp,h.n1,h.n2,h.wr,Nat.le_trans h.wl hc,Nat.le_trans h.kl (by omega),by rw [h.tr];simp⟩
theorem Ds.Easy.fit (h:D.Easy n c):D.Fit D.units D.tr.length:=by
 (have e:D.tr.length=0:=by rw [h.tr];rfl);refine⟨⟨Nat.le_refl _,fun t ht=>by omega,fun k=>absurd k (Nat.lt_irrefl _)⟩,by unfold Ds.units;omega,by unfold Ds.units;omega,fun k=>by omega⟩
theorem Ds.Easy.fitU (h:D.Easy n c){u:Nat}(hu:u≤D.ap.length):D.Fit u 0:=by
 (have e:D.tr.length=0:=by rw [h.tr];rfl);exact⟨⟨by omega,fun t ht=>by omega,fun k=>by omega⟩,by omega,by omega,fun k=>by omega⟩
theorem Ds.Easy.units_is (h:D.Easy n c):D.units=D.ap.length:=by unfold Ds.units;rw [h.tr];rfl
theorem Ds.Easy.sync_is (h:D.Easy n c)(hg:D.gone=false):D.sync = { D with kp:=keepW [true] 0 D.wr D.kp,ks:=D.ks ++ D.ap,wr:=[],ap:=[] }:=by
 unfold Ds.sync;rw [if_neg (by rw [hg];decide)];unfold Ds.keep Ds.keepU Ds.units;have ht:=h.tr;rw [if_pos (by rw [ht];rfl)];simp only [ht,List.length_nil,Nat.add_zero];rw [List.take_of_length_le (Nat.le_refl _)]
theorem Ds.sync_gone (h:D.gone=true):D.sync=D:=by unfold Ds.sync;rw [if_pos h]
theorem Ds.Easy.sync (h:D.Easy n c):D.sync.Easy n c:=by
 cases hg:D.gone
 · rw [h.sync_is hg];refine⟨h.sp,ZaG _ _ _ _ _ h.wr h.kp,h.n1,h.n2,(fun x hx=>by cases hx),Nat.zero_le _,h.al,h.tr,h.sbn,h.kbn,?_,(fun _=>⟨(h.ki hg).1,?_⟩),h.bs,ZbT _ _ _ _ (fun x hx=>(h.wr x hx).byt) h.bk⟩
   · show (D.ks ++ D.ap).length+0≤_;rw [List.length_append];exact h.kl
   · show (D.ks ++ D.ap) ++ []=D.ss;rw [List.append_nil];exact (h.ki hg).2
 · rw [Ds.sync_gone hg];exact h
theorem Ds.spend_cases (D:Ds)(k:Nat):(D.spend k=D∧D.spent k=0∧D.gone=true)∨(D.spend k=D∧D.spent k=k∧D.gone=false∧D.armed=false)∨(D.spend k = { D with left:=0,gone:=true }∧D.spent k=D.left.toNat∧D.gone=false∧D.left<(k:Int))∨(D.spend k = { D with left:=D.left-(k:Int) }∧D.spent k=k∧D.gone=false∧(k:Int)≤D.left):=by
 unfold Ds.spend Ds.spent;cases hg:D.gone
 · cases ha:D.armed
   · right;left;simp
   · by_cases hl:D.left<(k:Int)
     · right;right;left;simp [hl]
     · right;right;right;simp [hl,Int.not_lt.1 hl]
 · left;simp
theorem Ds.spend_same (D:Ds)(k:Nat):(D.spend k).sp=D.sp∧(D.spend k).sb=D.sb∧(D.spend k).ss=D.ss∧(D.spend k).kp=D.kp∧(D.spend k).kb=D.kb∧(D.spend k).ks=D.ks∧(D.spend k).wr=D.wr∧(D.spend k).ap=D.ap∧(D.spend k).tr=D.tr∧(D.spend k).armed=D.armed:=by
 rcases D.spend_cases k with ⟨e,_⟩ | ⟨e,_⟩ | ⟨e,_⟩ | ⟨e,_⟩ <;> rw [e] <;> exact ⟨rfl,rfl,rfl,rfl,rfl,rfl,rfl,rfl,rfl,rfl⟩
theorem Ds.spend_al (D:Ds)(k:Nat)(h:D.armed=true→0≤D.left∧D.left≤9223372036854775807):(D.spend k).armed=true→0≤(D.spend k).left∧(D.spend k).left≤9223372036854775807:=by
 rcases D.spend_cases k with ⟨e,_⟩ | ⟨e,_⟩ | ⟨e,_⟩ | ⟨e,_,_,hl⟩ <;> rw [e]
 · exact h
 · exact h
 · intro _;show (0:Int)≤0∧(0:Int)≤_;omega
 · intro ha;have:=h ha;show 0≤D.left-(k:Int)∧D.left-(k:Int)≤_;omega
theorem Ds.spend_gone (D:Ds)(k:Nat):(D.spend k).gone=false→D.gone=false∧D.spent k=k:=by
 rcases D.spend_cases k with ⟨e,e2,h⟩ | ⟨e,e2,h,_⟩ | ⟨e,e2,h,_⟩ | ⟨e,e2,h,hl⟩ <;> rw [e]
 · rw [h];intro k;cases k
 · intro _;exact ⟨h,e2⟩
 · intro k;cases k
 · intro _;exact ⟨h,e2⟩
theorem Ds.Easy.write (h:D.Easy n c)(hk:k<n)(hb:b.length=512)(hx:Bytes b):(D.write k b).Easy n (c+4):=by
 obtain⟨s1,s2,s3,s4,s5,s6,s7,s8,s9,s10⟩:=(D.write0 k b).spend_same 4;have h4:(D.write0 k b).spent 4≤4:=Ds.spent_le _ _;unfold Ds.write;refine⟨?_,?_,h.n1,h.n2,fun x hm=>?_,?_,(D.write0 k b).spend_al 4 h.al,?_,?_,?_,?_,fun hg=>?_,?_,?_⟩
 · show ((D.write0 k b).spend 4).sp.length=_;rw [s1];show (splice D.sp (512*k) b).length=_;rw [Zbx _ _ _ (by rw [h.sp,hb];omega)];exact h.sp
 · show ((D.write0 k b).spend 4).kp.length=_;rw [s4];exact h.kp
 · rcases List.mem_append.1 hm with e | e
   · exact h.wr x e
   · exact Zk2 (512*k) b _ (512*n) hb hx h4 (by omega) x e
 · show (D.wr ++ secs (512*k) b _).length≤_;rw [List.length_append,show (secs (512*k) b ((D.write0 k b).spent 4)).length=(D.write0 k b).spent 4 by simp [secs]];have:=h.wl;omega
 · show ((D.write0 k b).spend 4).tr=_;rw [s9];exact h.tr
 · show ((D.write0 k b).spend 4).sb≤_;rw [s2];exact h.sbn
 · show ((D.write0 k b).spend 4).kb≤_;rw [s5];exact h.kbn
 · show ((D.write0 k b).spend 4).ks.length+((D.write0 k b).spend 4).ap.length≤_;rw [s6,s8];exact h.kl
 · have hg':=((D.write0 k b).spend_gone 4 hg).1;show ((D.write0 k b).spend 4).kb=((D.write0 k b).spend 4).sb∧((D.write0 k b).spend 4).ks ++ ((D.write0 k b).spend 4).ap=((D.write0 k b).spend 4).ss;rw [s2,s3,s5,s6,s8];exact h.ki hg'
 · show Bytes ((D.write0 k b).spend 4).sp;rw [s1];exact h.bs.splice hx _
 · show Bytes ((D.write0 k b).spend 4).kp;rw [s4];exact h.bk
theorem Ds.Easy.append (h:D.Easy n c)(b:List Nat)(hb:D.ss.length+b.length≤65536):(D.append b).Easy n c:=by
 obtain⟨s1,s2,s3,s4,s5,s6,s7,s8,s9,s10⟩:=D.spend_same b.length;have h4:D.spent b.length≤b.length:=Ds.spent_le _ _;unfold Ds.append;refine⟨?_,?_,h.n1,h.n2,?_,?_,D.spend_al _ h.al,?_,?_,?_,?_,fun hg=>?_,?_,?_⟩
 · show (D.spend b.length).sp.length=_;rw [s1];exact h.sp
 · show (D.spend b.length).kp.length=_;rw [s4];exact h.kp
 · show ∀x∈(D.spend b.length).wr,_;rw [s7];exact h.wr
 · show (D.spend b.length).wr.length≤_;rw [s7];exact h.wl
 · show (D.spend b.length).tr=_;rw [s9];exact h.tr
 · show (D.spend b.length).sb≤_;rw [s2];exact h.sbn
 · show (D.spend b.length).kb≤_;rw [s5];exact h.kbn
 · show (D.spend b.length).ks.length+(D.ap ++ b.take (D.spent b.length)).length≤_;rw [s6,List.length_append,List.length_take];cases hg:D.gone
   · have:=congrArg List.length (h.ki hg).2;rw [List.length_append] at this;omega
   · (have:D.spent b.length=0:=by unfold Ds.spent;rw [if_pos hg]);have:=h.kl;omega
 · obtain⟨g1,g2⟩:=D.spend_gone _ hg;show (D.spend b.length).kb=(D.spend b.length).sb∧(D.spend b.length).ks ++ (D.ap ++ b.take (D.spent b.length))=D.ss ++ b;rw [s2,s5,s6,g2,List.take_of_length_le (Nat.le_refl _),← List.append_assoc,(h.ki g1).2];exact⟨(h.ki g1).1,rfl⟩
 · show Bytes (D.spend b.length).sp;rw [s1];exact h.bs
 · show Bytes (D.spend b.length).kp;rw [s4];exact h.bk
theorem Ds.Easy.new (h1:1≤n)(h2:n≤64):(Ds.new n).Easy n 0:=
 ⟨List.length_replicate,List.length_replicate,h1,h2,(fun x hx=>by cases hx),Nat.le_refl _,(fun e=>by cases e),rfl,Nat.zero_le _,Nat.zero_le _,(by show 0+0≤_;omega),(fun _=>⟨rfl,rfl⟩),Zca _,Zca _⟩
theorem Ds.Easy.page_bytes (h:D.Easy n c)(k:Nat):Bytes (D.page k):=(h.bs.drop _).take _
theorem Ds.Easy.arm (h:D.Easy n c)(k:Int)(hk:k≤9223372036854775807):(D.arm k).Easy n c:=by
 unfold Ds.arm;split
 · exact h
 · exact⟨h.sp,h.kp,h.n1,h.n2,h.wr,h.wl,(fun e=>⟨of_decide_eq_true e,hk⟩),h.tr,h.sbn,h.kbn,h.kl,h.ki,h.bs,h.bk⟩
theorem Ds.Easy.crash (h:D.Easy n c)(bs:List Bool){u:Nat}(hu:u≤D.ap.length):(D.crash bs u 0).Easy n 0:=by
 have e:D.keep bs u 0 = { D with kp:=keepW bs 0 D.wr D.kp,ks:=D.ks ++ D.ap.take u,wr:=[],ap:=[],tr:=[] }:=by
  unfold Ds.keep Ds.keepU;rw [if_pos rfl]
 unfold Ds.crash;rw [e];refine⟨ZaG _ _ _ _ _ h.wr h.kp,ZaG _ _ _ _ _ h.wr h.kp,h.n1,h.n2,(fun x hx=>by cases hx),Nat.le_refl _,(fun e=>by cases e),rfl,h.kbn,h.kbn,?_,(fun _=>⟨rfl,List.append_nil _⟩),ZbT _ _ _ _ (fun x hx=>(h.wr x hx).byt) h.bk,ZbT _ _ _ _ (fun x hx=>(h.wr x hx).byt) h.bk⟩;show (D.ks ++ D.ap.take u).length+0≤_;rw [List.length_append,List.length_take];have:=h.kl;omega
theorem Ds.crash_is (bs:List Bool)(u:Nat):D.crash bs u 0=⟨keepW bs 0 D.wr D.kp,D.kb,D.ks ++ D.ap.take u,keepW bs 0 D.wr D.kp,D.kb,D.ks ++ D.ap.take u,[],[],[],false,0,false⟩:=by
 unfold Ds.crash Ds.keep Ds.keepU;rw [if_pos rfl]
structure Po.Wet (P:Po) (n c:Nat):Prop where
  dev:P.D.Easy n c
  sh:∀k s,P.m k=some s→k<n∧s.b.length=512∧Bytes s.b
theorem Po.Wet.more {P:Po}{d:Nat}(h:P.Wet n c)(aa:c≤d):P.Wet n d:=⟨h.dev.more aa,h.sh⟩
theorem Po.Wet.put {P:Po}(h:P.Wet n c)(hp:p<n){s:Sh}(hb:s.b.length=512)(hx:Bytes s.b):(P.put p (some s)).Wet n c:=by
 refine⟨h.dev,fun k t hk=>?_⟩;by_cases e:k=p
 · rw [e,Za9] at hk;cases hk;exact ⟨by rw [e];exact hp,hb,hx⟩
 · rw [Za4 _ _ e] at hk;exact h.sh k t hk
theorem Po.Wet.drop {P:Po}(h:P.Wet n c)(p:Nat):(P.put p none).Wet n c:=by
 refine⟨h.dev,fun k t hk=>?_⟩;by_cases e:k=p
 · rw [e,Za9] at hk;cases hk
 · rw [Za4 _ _ e] at hk;exact h.sh k t hk
theorem Po.Wet.ahead {P:Po}(h:P.Wet n c)(z:Int):(P.ahead z).Wet n c:=by
 unfold Po.ahead;split
 · exact⟨h.dev.sync,h.sh⟩
 · exact h
theorem Po.Wet.wrote {P:Po}(h:P.Wet n c){s:Sh}(hp:P.m p=some s):(P.wrote p s).Wet n (c+4):=by
 obtain⟨h1,h2,h3⟩:=h.sh p s hp;have ha:=h.ahead s.place;exact Po.Wet.put (P:={ P.ahead s.place with D:=(P.ahead s.place).D.write p s.b }) ⟨ha.dev.write h1 h2 h3,ha.sh⟩ h1 h2 h3
theorem Po.Wet.write {P:Po}(h:P.Wet n c)(p:Nat):(P.write p).Wet n (c+4):=by
 unfold Po.write;cases hp:P.m p with
 | none=>exact h.more (by omega)
 | some s =>
  simp only;split
  · exact h.wrote hp
  · exact h.more (by omega)
theorem Po.Wet.out {P:Po}(h:P.Wet n c)(p:Nat):(P.out p).Wet n (c+4):=(h.write p).drop p
theorem Po.Wet.left {P:Po}(h:P.Wet n c)(was:Int):(P.left was).Wet n (c+4):=by
 unfold Po.left;split
 · exact h.out _
 · exact h.more (by omega)
theorem Po.Wet.fetch {P:Po}(h:P.Wet n c)(hp:p<n):(P.fetch p).Wet n c:=by
 unfold Po.fetch;split
 · exact h
 · exact h.put hp (by show (P.D.page p).length=512;unfold Ds.page;rw [List.length_take,List.length_drop,h.dev.sp];omega) (h.dev.page_bytes p)
theorem Po.Wet.clock {P:Po}(h:P.Wet n c)(l:List Sp)(z:Int):(P.clock l z).Wet n c:=⟨h.dev,h.sh⟩
theorem Po.Wet.letIn {P:Po}(h:P.Wet n c)(hp:p<n):(P.letIn p).Wet n (c+4):=((h.clock _ _).left _).fetch hp
theorem Po.Wet.set {P:Po}(h:P.Wet n c)(hp:p<n)(hb:b.length=512)(hx:Bytes b)(z:Int):(P.set p b z).Wet n (c+4):=(h.letIn hp).put hp hb hx
theorem Po.Wet.evict {P:Po}(h:P.Wet n c)(p:Nat):(P.evict p).Wet n (c+4):=(h.out p).clock _ _
theorem Po.Wet.writes :∀(L:List Nat)(P:Po)(c:Nat),P.Wet n c→(L.foldl Po.write P).Wet n (c+4*L.length)
 | [],P,c,h=>h
 | p :: L,P,c,h=>by
  have:=Po.Wet.writes L (P.write p) (c+4) (h.write p)
  rw [List.foldl_cons,List.length_cons]
  exact this.more (by omega)
theorem Po.Wet.flush {P:Po}(h:P.Wet n c):(P.flush n).Wet n (c+4*n):=by
 refine(Po.Wet.writes (P.dirty n) P c h).more ?_;have:(P.dirty n).length≤n:=by
  have:=List.length_filter_le P.isDirty (List.range n);rw [List.length_range] at this;exact this
 omega
def Po.from_ (P:Po) (i n:Nat):List (Nat × Sh):=(List.range' i n).filterMap fun k=>(P.m k).map fun s=>(k,s)
def Po.inl (P:Po) (n:Nat):List (Nat × Sh):=P.from_ 0 n
def setL:List (Nat × Sh)→Nat × Sh→List (Nat × Sh)
  | [],x=>[x]
  | y :: r,x=>if x.1≤y.1 then x :: (y :: r).filter (fun z=>decide (z.1≠x.1)) else y :: setL r x
def outL (l:List (Nat × Sh)) (k:Nat):List (Nat × Sh):=l.filter (fun z=>decide (z.1≠k))
theorem ZaW {P:Po}{z:Nat × Sh}(h:z∈P.from_ i n):i≤z.1∧z.1<i+n∧P.m z.1=some z.2:=by
 obtain⟨k,hk,e⟩:=List.mem_filterMap.1 h;obtain⟨h1,h2⟩:=List.mem_range'_1.1 hk;cases hm:P.m k with
 | none=>rw [hm] at e;cases e
 | some s =>
  rw [hm] at e;cases e;exact⟨h1,h2,hm⟩
theorem Zfc (P:Po)(i a b:Nat):P.from_ i (a+b)=P.from_ i a ++ P.from_ (i+a) b:=by
 unfold Po.from_;rw [← List.filterMap_append];congr 1;have:=List.range'_append_1 (s:=i) (m:=a) (n:=b);exact this.symm
theorem Zdh (P:Po)(k:Nat):P.from_ k 1=match P.m k with
    | none=>[]
    | some s=>[(k,s)]:=by
  show (List.range' k 1).filterMap _=_;rw [show List.range' k 1=[k] from rfl];cases hm:P.m k <;> simp [hm]
theorem ZcH {f g:Nat→Option (Nat × Sh)}:∀(l:List Nat),(∀k∈l,f k=g k)→l.filterMap f=l.filterMap g
 | [],_=>rfl
 | k :: r,h=>by rw [List.filterMap_cons,List.filterMap_cons,h k (by simp),ZcH r (fun j hj=>h j (by simp [hj]))]
theorem Zcf {P Q:Po}(h:∀k,i≤k→k<i+n→P.m k=Q.m k):P.from_ i n=Q.from_ i n:=by
 refine ZcH _ (fun k hk=>?_);obtain⟨h1,h2⟩:=List.mem_range'_1.1 hk;rw [h k h1 h2]
theorem Zc5 (P:Po)(hk:k<n):P.inl n=P.from_ 0 k ++ (P.from_ k 1 ++ P.from_ (k+1) (n-(k+1))):=by
 unfold Po.inl;have e:n=k+(1+(n-(k+1))):=by omega
 conv=>lhs;rw [e]
 rw [Zfc,Zfc,Nat.zero_add]
theorem Zma {A R:List (Nat × Sh)}{x:Nat × Sh}(h:∀y∈A,y.1<x.1):setL (A ++ R) x=A ++ setL R x:=by
 induction A with
 | nil=>rfl
 | cons y A ih =>
  have hy:=h y (by simp);show (if x.1≤y.1 then _ else y :: setL (A ++ R) x)=_;rw [if_neg (by omega),ih (fun z hz=>h z (by simp [hz]))];rfl
theorem Zc0 {C:List (Nat × Sh)}(h:∀y∈C,k<y.1):C.filter (fun z=>decide (z.1≠k))=C:=
 List.filter_eq_self.2 (fun y hy=>by have:=h y hy;simp;omega)
theorem Zge {C:List (Nat × Sh)}(h:∀y∈C,y.1<k):C.filter (fun z=>decide (z.1≠k))=C:=
 List.filter_eq_self.2 (fun y hy=>by have:=h y hy;simp;omega)
theorem Zk4 {C:List (Nat × Sh)}{x:Nat × Sh}(h:∀y∈C,x.1<y.1):setL C x=x :: C:=by
 cases C with
 | nil=>rfl
 | cons y C =>
  show (if x.1≤y.1 then _ else _)=_;rw [if_pos (by have:=h y (by simp);omega),Zc0 h]
theorem ZdO (P:Po)(hk:k<n)(s:Sh):setL (P.inl n) (k,s)=(P.put k (some s)).inl n:=by
 (have hA:∀y∈P.from_ 0 k,y.1<k:=fun y hy=>by have:=(ZaW hy).2.1;omega);(have hC:∀y∈P.from_ (k+1) (n-(k+1)),k<y.1:=fun y hy=>by have:=(ZaW hy).1;omega);rw [Zc5 P hk,Zc5 (P.put k (some s)) hk,Zma (x:=(k,s)) hA];rw [Zcf (P:=P.put k (some s)) (Q:=P) (i:=0) (n:=k) (fun j _ hj=>Za4 P _ (by omega)),Zcf (P:=P.put k (some s)) (Q:=P) (i:=k+1) (n:=n-(k+1)) (fun j hj _=>Za4 P _ (by omega)),Zdh,Zdh,Za9];congr 1;cases P.m k with
 | none=>exact Zk4 (x:=(k,s)) hC
 | some o =>
  show (if k≤k then _ else _)=_;rw [if_pos (Nat.le_refl _)];show (k,s) :: List.filter _ ((k,o) :: P.from_ (k+1) (n-(k+1)))=(k,s) :: P.from_ (k+1) (n-(k+1));rw [List.filter_cons,if_neg (by simp),Zc0 hC]
theorem ZhG (P:Po)(hk:k<n):outL (P.inl n) k=(P.put k none).inl n:=by
 (have hA:∀y∈P.from_ 0 k,y.1<k:=fun y hy=>by have:=(ZaW hy).2.1;omega);(have hC:∀y∈P.from_ (k+1) (n-(k+1)),k<y.1:=fun y hy=>by have:=(ZaW hy).1;omega);unfold outL;rw [Zc5 P hk,Zc5 (P.put k none) hk,List.filter_append,List.filter_append,Zge hA,Zc0 hC];rw [Zcf (P:=P.put k none) (Q:=P) (i:=0) (n:=k) (fun j _ hj=>Za4 P _ (by omega)),Zcf (P:=P.put k none) (Q:=P) (i:=k+1) (n:=n-(k+1)) (fun j hj _=>Za4 P _ (by omega)),Zdh,Zdh,Za9];congr 1;congr 1;cases P.m k <;> simp
theorem Zmv (P:Po){s:Sh}(hk:k<n)(hs:P.m k=some s):(P.inl n)[(P.from_ 0 k).length]? = some (k,s)∧∀i z,i<(P.from_ 0 k).length→(P.inl n)[i]? = some z→z.1≠k:=by
 rw [Zc5 P hk,Zdh,hs];refine⟨?_,fun i z hi hz=>?_⟩
 · rw [List.getElem?_append_right (Nat.le_refl _),Nat.sub_self];rfl
 · rw [List.getElem?_append_left hi] at hz;have:=(ZaW (List.mem_of_getElem? hz)).2.1;omega
theorem Zch (P:Po)(n:Nat):(P.inl n).map Prod.fst=P.inn n:=by
 unfold Po.inl Po.from_ Po.inn;rw [List.range_eq_range',List.map_filterMap]
 induction List.range' 0 n with
 | nil=>rfl
 | cons k r ih =>
  rw [List.filterMap_cons,List.filter_cons];cases hm:P.m k with
  | none=>simpa [hm] using ih
  | some s=>simpa [hm] using ih
theorem ZgA {P:Po}(h:P.isDirty k=false):P.write k=P:=by
 unfold Po.write;unfold Po.isDirty at h;cases hm:P.m k with
 | none=>rfl
 | some s =>
  rw [hm] at h;simp only at h ⊢;rw [if_neg (by rw [h];decide)]
theorem ZgB {P:Po}(h:P.Dev n){j:Nat}(aa:j≠k):(P.write k).isDirty j=P.isDirty j:=by
 unfold Po.isDirty;rw [(h.write k).other j aa]
theorem ZdG :∀(L:List Nat)(P:Po),P.Dev n→L.Nodup→L.foldl Po.write P=(L.filter P.isDirty).foldl Po.write P
 | [],P,_,_=>rfl
 | k :: L,P,h,hn=>by
  have hn':=List.nodup_cons.1 hn
  have ih:=ZdG L (P.write k) (h.write k).dev hn'.2
  have e:L.filter (P.write k).isDirty=L.filter P.isDirty:=List.filter_congr (fun j hj=>ZgB h (fun e=>hn'.1 (by rw [← e];exact hj)))
  rw [List.foldl_cons,List.filter_cons,ih,e]
  cases hd:P.isDirty k with
  | true=>rw [if_pos rfl,List.foldl_cons]
  | false=>rw [if_neg (by decide),ZgA hd]
theorem ZjA {P:Po}(h:P.Dev n):P.flush n=(P.inn n).foldl Po.write P:=by
 unfold Po.flush;rw [ZdG (P.inn n) P h (List.Pairwise.filter _ List.nodup_range),Zdc]
theorem ZkL {P:Po}(h:P.Dev n)(k:Nat):(P.write k).inn n=P.inn n:=by
 unfold Po.inn;exact List.filter_congr (fun j _=>(h.write k).some j)
end Go.Proofs.YtpnlebpnhmibfaaGreat
