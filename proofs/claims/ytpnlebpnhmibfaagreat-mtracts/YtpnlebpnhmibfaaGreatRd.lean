/-
  Lemmas.
-/
import Derived.Test.YtpnlebpnhmibfaaGreatRc
import Derived.Lib.SmallJoins
import Derived.Laws.Cover2
import Derived.Deep.Slices
namespace Go.Proofs.YtpnlebpnhmibfaaGreat
open Go.RowKit
set_option linter.unusedVariables false
set_option maxRecDepth 100000
set_option maxHeartbeats 4000000
variable {w w':World}{a:Option Addr}{cap len n B base:Nat}{xs:List Nat}{v:Sl}{L:List Gp}
theorem Zhj {zs:List Nat}:ZbZ zs↔fourB (Ta.sum (zs.drop 4))=zs.take 4:=by
 unfold ZbZ;constructor
 · intro h;have:=congrArg (List.take 4) h;exact this
 · intro h;rw [h,List.take_append_drop]
theorem ZlD (xs:List Nat)(n:Nat):((xs.drop 2).take n).drop 4=(xs.drop 6).take (n-4):=by
 rw [List.drop_take,List.drop_drop]
theorem ZlE (xs:List Nat)(n:Nat)(h:4≤n):((xs.drop 2).take n).take 4=(xs.drop 2).take 4:=by
 rw [List.take_take,Nat.min_eq_left h]
theorem ZlW {g:List Im}(hx:Bytes xs)(hn:n=said xs)(hl:2+n≤xs.length)(hs:ZbZ ((xs.drop 2).take n)):recd g=xs.take (2+n)↔text g=((xs.drop 2).take n).drop 4:=by
 rcases xs with _ | ⟨a,_ | ⟨b,r⟩⟩
 · rw [List.length_nil] at hl;omega
 · rw [List.length_cons,List.length_nil] at hl;omega
 (have ht:(a :: b :: r).take (2+n)=a :: b :: r.take n:=by rw [Nat.add_comm];rfl);have hd:((a :: b :: r).drop 2).take n=r.take n:=rfl;rw [ht,hd];rw [hd] at hs;have hb:b<256:=hx b (by simp);have ab:n=a*256+b:=hn;(have aa:(r.take n).length=n:=by rw [List.length_take];simp at hl;omega);unfold recd;constructor
 · intro h;simp only [List.cons.injEq] at h;have:=congrArg (List.drop 4) h.2.2;exact this
 · intro h;have e:seald (text g)=r.take n:=by
    unfold seald;rw [h];exact hs
   rw [e,aa];simp only [List.cons.injEq,and_true];omega
def ZaU (w:World) (bk:Nat→Prop) (b:List Nat) (e:Ending) (w':World):Prop:=∃(v:Sl) (l:List Ix),e=.returned (.tuple #[v.val,.int .i64 ((dec b).n:Nat),.int .i64 ((dec b).e:Nat)])∧Gr (fun k=>bk k∨w.heap.size≤k) w' v l∧ims l=(dec b).g∧Below w.heap.size w w'
theorem ZaU.no {bk:Nat→Prop}{b:List Nat}{q:Nat}(h:dec b=Told.no q)(hb:Below w.heap.size w w'):ZaU w bk b (.returned (.tuple #[.slice none 0 0,.int .i64 0,.int .i64 (q:Int)])) w':=by
 refine⟨Sl.nil,[],?_,Gr.none,?_,hb⟩
 · rw [h];rfl
 · rw [h];rfl
theorem ZiM (w:World)(a:Option Addr)(len cap:Nat)(xs:List Nat)(h:Came w a len cap xs)(hm:len≤100000)(bk:Nat→Prop)(bp:∀ad,a=some ad→0<len→bk ad.block) :
    Calls Tryz.prog 81 #[.slice a len cap] w fun e w'=>ZaU w bk xs e w':=by
  have bx:=h.bs.1;have HR:=hide (Below.refl w.heap.size w);by_cases h1:len<2
  · have HE:Hid (dec xs=Told.no 4):=ZfU (by omega);(have i1:(len:Int)<2:=by omega);clear h bx bp;go_enter Tryz.func81,Tryz.ntmps81;go_wp2_with fail;go_ret3;exact ZaU.no HE.out HR.out
  (have i1:¬(len:Int)<2:=by omega);obtain⟨b,o,ha,ce⟩:=h.bs.2.2 0 (by omega);subst ha;have ay:b<w.heap.size:=World.block_lt_of_cell? w _ ce;have ci:Hid (bk b):=bp _ rfl (by omega);have hd:=Zaz w;have hB:=h.bs.keep hd (Nat.le_refl _);have aj:=h.le;have ac:=hide (fun Q A=>@Zpm w b o len cap xs hB (by omega) Q A);obtain⟨n,hn⟩:∃n,n=said xs:=⟨_,rfl⟩;have co:Hid (xs.getD 0 0*256+xs.getD 1 0=n):=by
   show _=_;rw [hn];rfl
  have cv:n<65536:=by
   rw [hn];unfold said;have:=getD_lt h.bs.2.1 0;have:=getD_lt h.bs.2.1 1;omega
  have HN:=hide hn;have al:=hide bx;have HX:=hide h.bs.2.1;have HC:=hide h;have ca:=hide hB;have HD:=hide hd;clear h bx ce hd hB hn bp;go_enter Tryz.func81,Tryz.ntmps81;go_wp2_with fail;refine Pl.q8 (ops:=Pl.find 3 ((Tryz.f81.body).getD .skip)) ?_;refine ac.out _ _ (by rfl) rfl (by rfl) ?_;intro uu w1 bw;rw [co.out];simp only [Act.put,List.setIfInBounds_toArray,List.set_cons_zero,List.set_cons_succ];(have aq:Hid (Below w.heap.size w w1):=by rw [bw];exact HD.out);have bn:Hid (Came w1 (some ⟨b,o,none⟩) len cap xs):=by
   rw [bw];exact⟨ca.out,HC.out.nil,HC.out.le,HC.out.big⟩
  clear bw ac ca HD;by_cases h2:len<2+n
  · have HE:Hid (dec xs=Told.no 4):=Zft (by rw [al.out];omega) (.inl (by rw [al.out,← HN.out];exact h2));(have i2:(len:Int)<2+(n:Int):=by omega);go_wp2_with fail;go_ret3;exact ZaU.no HE.out aq.out
  (have i2:¬(len:Int)<2+(n:Int):=by omega);by_cases h4:n<4
  · have HE:Hid (dec xs=Told.no 4):=Zft (by rw [al.out];omega) (.inr (by rw [← HN.out];exact h4));(have i3:(n:Int)<4:=by omega);go_wp2_with fail;go_ret3;exact ZaU.no HE.out aq.out
  (have i3:¬(n:Int)<4:=by omega);obtain⟨o6,bj⟩:∃o6,fromA (some ⟨b,o,none⟩) cap 6=some ⟨b,o6,none⟩:=by
   unfold fromA;split
   · exact⟨o,rfl⟩
   · exact⟨o+6,by rw [Nat.mul_one,Option.map_some,Addr.add_lit]⟩
  have aa:=Came.mid6 (s:=⟨some ⟨b,o,none⟩,len,cap⟩) bn.out 6 (2+n) (by omega) (by show 2+n≤len;omega);have e1:(Sl.mid6 ⟨some ⟨b,o,none⟩,len,cap⟩ 6 (2+n)).a=some ⟨b,o6,none⟩:=bj;obtain⟨n6,bv⟩:∃n6,n6=n-4:=⟨_,rfl⟩;(have e2:(Sl.mid6 ⟨some ⟨b,o,none⟩,len,cap⟩ 6 (2+n)).len=n6:=by show 2+n-6=n6;omega);have e3:(Sl.mid6 ⟨some ⟨b,o,none⟩,len,cap⟩ 6 (2+n)).cap=cap-6:=rfl;obtain⟨ys,be⟩:∃ys,ys=(xs.drop 6).take n6:=⟨_,rfl⟩;rw [e1,e2,e3,show 2+n-6=n6 by omega,← be] at aa;have ap:∀w:World,(Instr.sliceAt 32 (.slice (some ⟨b,o,none⟩) len cap) (some (.int .i64 6)) (some (.int .i64 (2+(n:Int)))) none).run Tryz.prog w=.ok (.slice (some ⟨b,o6,none⟩) n6 (cap-6)) w:=by
   intro w;have:=ZbL (some ⟨b,o,none⟩) len cap 6 (2+n) (by omega) (by omega) w;rw [bj,show 2+n-6=n6 by omega] at this;exact this
  have aw:=hide ap;have cb:=hide aa;(have bf:((xs.drop 2).take n).drop 4=ys:=by rw [ZlD,be,bv]);have bl:ZbZ ((xs.drop 2).take n)↔fourB (Ta.sum ys)=(xs.drop 2).take 4:=by
   rw [Zhj,bf,ZlE xs n (by omega)]
  (have bd:Bytes ys:=by rw [be];exact fun z hz=>HX.out z (List.mem_of_mem_drop (List.mem_of_mem_take hz)));have bz:ys.length=n6:=aa.bs.1;have cp:=hide bz;have cd:=hide bd;have bi:=Zaz w1;have bh:=bn.out.bs.keep bi (Nat.le_refl _);have ak:=ZhU (some ⟨b,o6,none⟩) n6 (cap-6) ys w1.drew (aa.bs.keep bi (Nat.le_refl _)) (by omega);by_cases hs:ZbZ ((xs.drop 2).take n)
  · have ag:=hide (fun Q A=>@Zo0 w1 b o len cap xs ys ⟨some ⟨b,o6,none⟩,n6,cap-6⟩ bh (by omega) aj bd ak (bl.1 hs) Q A);have ar:Hid (dec xs=grp ys (2+n)):=by
     have:=Zh2 (b:=xs) (by rw [al.out];omega) (by rw [al.out,← HN.out];omega) (by rw [← HN.out];omega) (by rw [← HN.out];exact hs);rw [← HN.out,bf] at this;exact this
    have af:Hid (∀g,recd g=xs.take (2+n)↔text g=ys):=by
     intro g;rw [ZlW HX.out HN.out (by rw [al.out];omega) hs,bf]
    (have cr:n6≤100000:=by omega);clear aa bv be ap bf bl bd bz ak bh bi hs e1 e2 e3 bj;go_wp2_with (refine Zbs _ rfl 32 (.tmp 31) (some (.const (.int .i64 6))) (some (.tmp 33)) rfl (.slice (some ⟨b,o6,none⟩) n6 (cap-6)) (aw.out _) ?_);refine Pl.q8 (ops:=Pl.find 7 ((Tryz.f81.body).getD .skip)) ?_;refine ag.out _ _ (by rfl) rfl (by rfl) (by rfl) ?_;intro u2 w2 ax;simp only [Act.put,List.setIfInBounds_toArray,List.set_cons_zero,List.set_cons_succ];have bg:=hide (Zaf aq.out ax);clear ax ag;have cj:=hide (GI.new (fun k=>bk k∧k=b) w.heap.size w2 bg.out.size);have ch:=hide (Zaf bg.out (Zaa w2 (.cells #[] 76)));obtain⟨kk,am⟩:∃kk,kk=(n6-1) / 513:=⟨_,rfl⟩;have cm:=hide am;clear am;go_wp2_with fail;go_loopw [7,8] (fun gv i wr=>∃(j:Nat) (p:Nat) (v:Sl) (l:List Ix),j≤kk∧Hid (p=1+513*j)∧p≤100001∧i=.int .i64 (p:Nat)∧gv=v.val∧v.len=j∧Hid (GI (fun k=>bk k∧k=b) w.heap.size wr v l)∧Hid (ims l=imgs ys j)∧Hid (Below w.heap.size w wr)) (fun _ i _=>200000-(intOf i).toNat)
    case atStart=>exact ⟨0,1,⟨some ⟨w2.heap.size,0,none⟩,0,0⟩,[],by omega,hide rfl,by omega,rfl,rfl,rfl,cj,hide rfl,ch⟩
    case round =>
     obtain⟨j,p,v,l,hj,hp,cw,rfl,rfl,bm,hg,hi,hW⟩:=hrel;have ba:=hp.out;have am:=cm.out;rcases Nat.lt_or_ge j kk with cu | ct
     · (have cx:p+513≤n6:=by omega);(have i4:(p:Int)+513≤(n6:Int):=by omega);have ah:=Zaz wr;have bq:Came wr.drew (some ⟨b,o6,none⟩) n6 (cap-6) ys:=by
        have h9:=cb.out;have h8:Bs w1 (some ⟨b,o6,none⟩) n6 ys:=h9.bs;refine⟨?_,h9.nil,h9.le,h9.big⟩;refine⟨h8.1,h8.2.1,fun i hi=>⟨b,o6,rfl,?_⟩⟩;have az:=h8.at i hi;have br:w1.heap[b]? = w.heap[b]?:=aq.out.block b ay;have bt:wr.drew.heap[b]? = w.heap[b]?:=(Zaf hW.out ah).block b ay;simp only [World.cell?] at az ⊢;rw [bt,← br];exact az
       have cf:Cm (fun k=>(bk k∧k=b)∧v.blk≠some k) wr.drew ⟨some ⟨b,o6,none⟩,n6,cap-6⟩ ys:=by
        refine⟨bq,fun ad ha _=>?_⟩;cases ha;exact⟨⟨ci.out,rfl⟩,fun e=>by have:=hg.out.blk b e;omega⟩
       have aa:=cf.mid6 (p+1) (p+513) (by omega) (by show p+513≤n6;omega);rw [show p+513-(p+1)=512 by omega] at aa;have ac:=hide (fun Q A=>@Zoy wr (fun k=>bk k∧k=b) w.heap.size b o6 n6 (cap-6) p ys v l (hg.out.keep ah) (Nat.le_trans hW.out.size ah.size) bq.bs ay cd.out (by omega) (cb.out.le) (by omega) (by omega) aa Q A);have cc:Hid (∀s:Sl,ims (l ++ [(⟨((ys.getD p 0:Nat):Int),s,(ys.drop (p+1)).take 512⟩:Ix)])=imgs ys (j+1)):=by
        intro s;rw [Zcg,hi.out,Zej,ba];show _ ++ [(⟨_,_⟩:Im)]=_;unfold imgAt;rw [show 1+513*j+1=2+513*j by omega]
       clear ba cf aa ah bq am;go_wp2_with fail;refine Pl.q8 (ops:=Pl.find 13 ((Tryz.f81.body).getD .skip)) ?_;refine ac.out _ _ (by rfl) rfl (by rfl) (by rfl) (by rfl) ?_;intro uu w9 v9 s9 cg cq ae;have ck:=hide cg;have an:=hide ((Zaf hW.out (Zaz wr)).trans ae);(have bu:v9.len=j+1:=by omega);have cn:=hide (cc.out s9);simp only [Act.put,List.setIfInBounds_toArray,List.set_cons_zero,List.set_cons_succ];clear ac cc cg ae cq;go_wp2_with fail;go_roundw
       case rel=>exact ⟨j+1,p+513,v9,_,by omega,hide (by have:=hp.out;omega),by omega,by go_num,rfl,bu,ck,cn,an⟩
       case measure=>simp only [intOf];omega
     · (obtain rfl:j=kk:=by omega);(have i4:¬(p:Int)+513≤(n6:Int):=by omega);have av:=hg.out.gr (by omega);have ah:=Zaz wr;have ab:=Zdm wr.drew v l (av.below ah (Nat.le_refl _));rw [hi.out] at ab;have au:Bs wr.drew (some ⟨b,o,none⟩) len xs:=by
        have h8:Bs w1 (some ⟨b,o,none⟩) len xs:=bn.out.bs;refine⟨h8.1,h8.2.1,fun i hi=>⟨b,o,rfl,?_⟩⟩;have az:=h8.at i hi;have br:w1.heap[b]? = w.heap[b]?:=aq.out.block b ay;have bt:wr.drew.heap[b]? = w.heap[b]?:=(Zaf hW.out ah).block b ay;simp only [World.cell?] at az ⊢;rw [bt,← br];exact az
       have cl:Hid (Gr (fun k=>bk k∨w.heap.size≤k) wr v l):=av.mono (fun k hk _=>hk.elim (fun x=>.inl x.1) .inr);have ao:=hide (ZmR ys (2+n));rw [cp.out,← am] at ao;by_cases hy:May (imgs ys j)
       · rw [Zf7 hy] at ab;have bb:Bytes (recd (imgs ys j)):=Zcj (Zfd cd.out j) hy;(have bc:(recd (imgs ys j)).length≤100000:=by rw [ZaO hy.len];have:=hy.2.1;omega);have ai:∀w2,Below wr.drew.heap.size wr.drew w2→Calls Tryz.prog 43 #[v.val] w2 fun e w'=>∃r,e=.returned r∧Owns w' w2.heap.size r (recd (imgs ys j))∧Below w2.heap.size w2 w':=by
          intro w2 hb;have:=Zd5 w2 v l ((av.below ah (Nat.le_refl _)).below hb (Nat.le_refl _)) (by rw [hi.out];exact hy);rw [hi.out] at this;exact this
         rw [← hi.out] at bb bc ai;by_cases ht:text (imgs ys j)=ys
         · have ac:=hide (fun Q A=>@Znz wr b o len cap n xs v l au ab bb bc ai (by omega) aj (by omega) (by rw [hi.out];exact (af.out _).2 ht) Q A);have HE:Hid (dec xs=⟨imgs ys j,2+n,0⟩):=ar.out.trans (ao.out.1 ⟨hy,ht⟩);clear ba av ah ab au bb bc ai hy ht am ar af ao;go_wp2_with fail;refine Pl.q8 (ops:=Pl.find 14 ((Tryz.f81.body).getD .skip)) ?_;refine ac.out _ _ (by rfl) rfl (by rfl) (by rfl) (by rfl) ?_;intro uu w9 ae;simp only [Act.put,List.setIfInBounds_toArray,List.set_cons_zero,List.set_cons_succ];have an:=hide (Zaf hW.out ae);have bo:=hide (cl.out.below ae (Nat.le_refl _));have HI:=hide hi.out;clear ae ac;obtain⟨va,vl,vc⟩:=v;replace bm:vl=j:=bm;have cs:=hide bm;clear bm;unfold Sl.val;simp only;go_wp2_with fail;go_ret3;refine⟨⟨va,vl,vc⟩,l,?_,bo.out,?_,an.out⟩
           · rw [HE.out];rfl
           · rw [HE.out];exact HI.out
         · have ac:=hide (fun Q A=>@Zny wr b o len cap n xs v l au ab bb bc ai (by omega) aj (by omega) (by rw [hi.out];exact fun e=>ht ((af.out _).1 e)) Q A);have HE:Hid (dec xs=Told.no 4):=ar.out.trans (ao.out.2 (fun hh=>ht hh.2));clear ba av ah ab au bb bc ai hy ht am ar af ao;go_wp2_with fail;refine Pl.q8 (ops:=Pl.find 14 ((Tryz.f81.body).getD .skip)) ?_;refine ac.out _ _ (by rfl) rfl (by rfl) (by rfl) (by rfl) ?_;intro uu w9 ae;simp only [Act.put,List.setIfInBounds_toArray,List.set_cons_zero,List.set_cons_succ];have an:=hide (Zaf hW.out ae);clear ae ac;go_wp2_with fail;go_ret3;exact ZaU.no HE.out an.out
       · rw [Zem hy] at ab;have ac:=hide (fun Q A=>@Znx wr b o len cap n xs v au ab Q A);have HE:Hid (dec xs=Told.no 4):=ar.out.trans (ao.out.2 (fun hh=>hy hh.1));clear ba av ah ab au hy am ar af ao;go_wp2_with fail;refine Pl.q8 (ops:=Pl.find 14 ((Tryz.f81.body).getD .skip)) ?_;refine ac.out _ _ (by rfl) rfl (by rfl) (by rfl) (by rfl) ?_;intro uu w9 ae;simp only [Act.put,List.setIfInBounds_toArray,List.set_cons_zero,List.set_cons_succ];have an:=hide (Zaf hW.out ae);clear ae ac;go_wp2_with fail;go_ret3;exact ZaU.no HE.out an.out
  · have ag:=hide (fun Q A=>@Zoz w1 b o len cap xs ys ⟨some ⟨b,o6,none⟩,n6,cap-6⟩ bh (by omega) aj bd ak (fun e=>hs (bl.2 e)) Q A);have HE:Hid (dec xs=Told.no 5):=Zjk (b:=xs) (by rw [al.out];omega) (by rw [al.out,← HN.out];omega) (by rw [← HN.out];omega) (by rw [← HN.out];exact hs);clear aa bv be ap bf bl bd bz ak bh bi hs e1 e2 e3 bj;go_wp2_with (refine Zbs _ rfl 32 (.tmp 31) (some (.const (.int .i64 6))) (some (.tmp 33)) rfl (.slice (some ⟨b,o6,none⟩) n6 (cap-6)) (aw.out _) ?_);refine Pl.q8 (ops:=Pl.find 7 ((Tryz.f81.body).getD .skip)) ?_;refine ag.out _ _ (by rfl) rfl (by rfl) (by rfl) ?_;intro u2 w2 ax;simp only [Act.put,List.setIfInBounds_toArray,List.set_cons_zero,List.set_cons_succ];have bg:=hide (Zaf aq.out ax);clear ax ag;go_wp2_with fail;go_ret3;exact ZaU.no HE.out bg.out
theorem ZnY {D:Nat→Prop}(w:World)(x:Ix)(hx:Cm D w x.s x.bs):Gr (fun k=>D k∨k=w.heap.size) (w.alloc (.cells #[.int .i64 x.page,x.s.val] 76)) ⟨some ⟨w.heap.size,0,none⟩,1,1⟩ [x]:=by
 have hb:=Zdj w x.page x.s.val;refine⟨rfl,fun e=>(by cases e),Nat.le_refl _,by show 1≤1000000;decide,fun ad ha _=>?_,fun i hi=>?_,fun y hy=>?_⟩
 · cases ha;exact .inr rfl
 · (obtain rfl:i=0:=by have:i<1:=hi;omega);exact⟨w.heap.size,0,rfl,hb.c0,hb.c1⟩
 · rw [List.mem_singleton.1 hy];exact(hx.below (Zaa w _) (Nat.le_refl _)).mono (fun k hk _=>.inl hk)
theorem Zng {p:Int}{b:List Nat}(h0:0≤p)(h1:p≤63)(hb:b.length=512):May [⟨p,b⟩]:=by
 refine⟨by show 1≤1;decide,by show 1≤6;decide,fun i hi=>?_⟩;(obtain rfl:i=0:=by have:i<1:=hi;omega);exact⟨h0,by show (-1:Int)<p;omega,h1,hb⟩
structure GS (H:Nat→Prop) (base:Nat) (w:World) (v:Sl) (L:List Gp):Prop where
  own:OwnG w v L
  blk:∀k,v.blk=some k→base≤k
  gr:∀x∈L,Gr (fun k=>H k∧v.blk≠some k) w x.v x.l
theorem GS.new (H:Nat→Prop)(base:Nat)(w:World)(hb:base≤w.heap.size):GS H base (w.alloc (.cells #[] 52)) ⟨some ⟨w.heap.size,0,Option.none⟩,0,0⟩ []:=⟨OwnG.new w,fun k hk=>(by cases hk;exact hb),fun _ h=>(by cases h)⟩
theorem GS.keep {H:Nat→Prop}(h:GS H base w v L)(hb:Below w.heap.size w w'):GS H base w' v L:=
 ⟨h.own.frame (fun k hk=>hb.block k (h.own.lt hk)),h.blk,fun x hx=>(h.gr x hx).below hb (Nat.le_refl _)⟩
theorem GS.add {H:Nat→Prop}{v':Sl}{x:Gp}(h:GS H base w v L)(hx:Gr (fun k=>H k∧v.blk≠some k) w x.v x.l)(ho:OwnG w' v' (L ++ [x]))(hf:Frm (fun k=>v.blk=some k) w w')(hb:v'.blk=v.blk∨∃k,v'.blk=some k∧w.heap.size≤k)(aa:base≤w.heap.size):GS H base w' v' (L ++ [x])∧Below base w w':=by
 refine⟨⟨ho,fun k hk=>?_,fun y hy=>?_⟩,hf.below aa h.blk⟩
 · rcases hb with e | ⟨j,e,hj⟩
   · exact h.blk k (by rw [← e];exact hk)
   · rw [e] at hk;cases hk;omega
 · have hy':Gr (fun k=>H k∧v.blk≠some k) w y.v y.l:=by
    rcases List.mem_append.1 hy with hy | hy
    · exact h.gr y hy
    · rw [List.mem_singleton.1 hy];exact hx
   have h2:Gr (fun k=>(H k∧v.blk≠some k)∧v'.blk≠some k) w y.v y.l:=hy'.mono (fun k hk hl=>⟨hk,fun e=>by
    rcases hb with e' | ⟨j,e',hj⟩
    · exact hk.2 (by rw [← e'];exact e)
    · rw [e'] at e;cases e;omega⟩)
   exact(h2.keep (ZaD.frm hf (fun k hk=>hk.1.2))).mono (fun k hk _=>⟨hk.1.1,hk.2⟩)
theorem GS.at {H:Nat→Prop}(h:GS H base w v L){i:Nat}(hi:i<v.len):Gr (fun k=>H k∧v.blk≠some k) w (L.getD i Gp.zero).v (L.getD i Gp.zero).l:=h.gr _ (ZcC _ (by rw [h.own.len];exact hi))
def gims (L:List Gp):List (List Im):=L.map fun x=>ims x.l
theorem ZgO (L M:List Gp):gims (L ++ M)=gims L ++ gims M:=by simp [gims]
theorem ZjD (L:List Gp)(i:Nat):(gims L).getD i []=ims (L.getD i Gp.zero).l:=by
 unfold gims;simp only [List.getD,List.getElem?_map];cases L[i]? <;> rfl
noncomputable def ZcJ (xs:List Nat) (i:Nat):List (List Im):=(List.range i).map (rowG xs)
theorem Zhi (xs:List Nat)(i:Nat):ZcJ xs (i+1)=ZcJ xs i ++ [rowG xs i]:=by simp [ZcJ,List.range_succ]
def ZiW (H:Nat→Prop) (w:World) (xs:List Nat) (e:Ending) (w':World):Prop:=∃(v:Sl) (L:List Gp) (i:Nat),e=.returned (.tuple #[v.val,.int .i64 ((rowAt xs i:Nat):Int)])∧GS H w.heap.size w' v L∧v.len=i∧gims L=ZcJ xs i∧(∀j,j<i→rowOk xs j)∧¬rowOk xs i∧Below w.heap.size w w'
theorem Came.from_ (h:Came w a len cap xs)(k:Nat)(hk:k≤len):Came w (fromA a cap k) (len-k) (cap-k) (xs.drop k):=by
 have:=Came.mid6 (s:=⟨a,len,cap⟩) h k len hk (Nat.le_refl _);rw [List.take_of_length_le (by rw [List.length_drop,h.bs.1];exact Nat.le_refl _)] at this;exact this
theorem Zei {k:Nat}{ad:Addr}(h:fromA a cap k=some ad):∃ad',a=some ad'∧ad'.block=ad.block:=by
 unfold fromA at h;split at h
 · exact⟨ad,h,rfl⟩
 · cases ha:a with
   | none=>rw [ha] at h;cases h
   | some x =>
    rw [ha] at h;refine⟨x,rfl,?_⟩;simp only [Option.map_some,Option.some.injEq] at h;rw [← h];obtain⟨b,o,sp⟩:=x;simp only [Addr.add];split <;> rfl
open Go.ChangeShapes Go.WideShapes Go.ChangeAt Go.RowKit
structure InsI (w:World) (a:Option Addr) (len cap:Nat) (l:List Int):Prop where
  len_:l.length=len
  big:len≤9223372036854775807
  at_:∀i,i<len→∃b off,a=some ⟨b,off,none⟩∧w.cell? ⟨b,off+i,none⟩=some (.int .i64 (l.getD i 0))
theorem InsI.below {l:List Int}(h:InsI w a len cap l)(hb:Below B w w')(hB:w.heap.size≤B):InsI w' a len cap l:=by
 refine⟨h.len_,h.big,fun i hi=>?_⟩;obtain⟨b,off,ha,hc⟩:=h.at_ i hi;exact⟨b,off,ha,(hb.cell (Nat.lt_of_lt_of_le (World.block_lt_of_cell? w _ hc) hB)).trans hc⟩
structure Bt where
  s:Sl
  bs:List Nat
def Bt.zero:Bt:=⟨Sl.nil,[]⟩
structure InsB (w:World) (a:Option Addr) (len cap:Nat) (l:List Bt):Prop where
  len_:l.length=len
  big:len≤9223372036854775807
  at_:∀i,i<len→∃b off,a=some ⟨b,off,none⟩∧w.cell? ⟨b,off+i,none⟩=some (l.getD i Bt.zero).s.val∧Came w (l.getD i Bt.zero).s.a (l.getD i Bt.zero).s.len (l.getD i Bt.zero).s.cap (l.getD i Bt.zero).bs
theorem Came.below (h:Came w a len cap xs)(hb:Below B w w')(hB:w.heap.size≤B):Came w' a len cap xs:=⟨h.bs.keep hb hB,h.nil,h.le,h.big⟩
theorem InsB.below {l:List Bt}(h:InsB w a len cap l)(hb:Below B w w')(hB:w.heap.size≤B):InsB w' a len cap l:=by
 refine⟨h.len_,h.big,fun i hi=>?_⟩;obtain⟨b,off,ha,hc,hm⟩:=h.at_ i hi;exact⟨b,off,ha,(hb.cell (Nat.lt_of_lt_of_le (World.block_lt_of_cell? w _ hc) hB)).trans hc,hm.below hb hB⟩
section
variable {H : Type} {enc : TypeId × Value → H} {w : World} {base : Nat} {spare : Nat → Bool} {held : Bool}
theorem Zki {y:DataW H × List MemPlace}(h:DataW.trod enc Tryz.prog w base spare held n 46 [.slice a len cap]=some y):∃l,InsI w a len cap l:=by
 (have hC:Tryz.prog.cellsOf 3=1:=by kernel_rfl);rcases Go.Deep.open_slice1 Tryz.underlying46 hC h with ⟨aa,_⟩ | ⟨x,l,c,m,k,V,D,Pl,aa,hb,hl,hm,ac,_,hx⟩
 · simp only [List.cons.injEq,Value.slice.injEq,and_true] at aa;obtain⟨rfl,rfl,rfl⟩:=aa;exact⟨[],⟨rfl,by omega,fun j hj=>by omega⟩⟩
 · simp only [List.cons.injEq,Value.slice.injEq,and_true] at aa;obtain⟨rfl,rfl,rfl⟩:=aa;(have ae:len≤m:=by rw [ac];split <;> omega);have ad:0<len→x.spot=none:=by
    intro h0;have:=World.cell?_spot (hx 0 (by omega)).1;simpa [Addr.add] using this
   have each:∀i,i<len→∃b:Int,V i=.int .i64 b:=by
    intro i hi;obtain⟨k3,e3,_,w3⟩:=DataW.trod_int Tryz.underlying3 (hx i (by omega)).2;exact⟨k3,by simpa using e3⟩
   obtain⟨f,hf⟩:=@Go.Deep.choose_lt Int ⟨0⟩ len _ each;refine⟨(List.range len).map f,⟨by simp,by unfold maxLen at hm;omega,?_⟩⟩;intro j hj;have hc:=(hx j (by omega)).1;obtain⟨b,off,spot⟩:=x;have ab:spot=none:=ad (by omega);subst ab;refine⟨b,off,rfl,?_⟩;rw [Addr.add_lit] at hc;rw [hc,hf j hj];simp [List.getD,hj]
theorem Zkg {y:DataW H × List MemPlace}(h:DataW.trod enc Tryz.prog w base spare held n 32 [.slice a len cap]=some y) :
    ∃xs,Came w a len cap xs:=by
  (have hC:Tryz.prog.cellsOf 5=1:=by kernel_rfl);rcases Go.Deep.open_slice1 Tryz.underlying32 hC h with ⟨aa,_⟩ | ⟨x,l,c,m,k,V,D,Pl,aa,hb,hl,hm,ac,_,hx⟩
  · simp only [List.cons.injEq,Value.slice.injEq,and_true] at aa;obtain⟨rfl,rfl,rfl⟩:=aa;exact⟨[],⟨⟨rfl,(fun u hu=>by cases hu),fun j hj=>by omega⟩,fun _=>rfl,Nat.le_refl _,by omega⟩⟩
  · simp only [List.cons.injEq,Value.slice.injEq,and_true] at aa;obtain⟨rfl,rfl,rfl⟩:=aa;(have ae:len≤m:=by rw [ac];split <;> omega);have ad:0<len→x.spot=none:=by
     intro h0;have:=World.cell?_spot (hx 0 (by omega)).1;simpa [Addr.add] using this
    have each:∀i,i<len→∃b:Nat,V i=.int .u8 (b:Int)∧b<256:=by
     intro i hi;obtain⟨k3,e3,_,w3⟩:=DataW.trod_int Tryz.underlying5 (hx i (by omega)).2;have hb:=bounds_u8 w3;refine⟨k3.toNat,?_,by omega⟩;rw [Int.toNat_of_nonneg hb.1];simpa using e3
    obtain⟨f,hf⟩:=@Go.Deep.choose_lt Nat ⟨0⟩ len _ each;refine⟨(List.range len).map f,⟨⟨by simp,?_,?_⟩,(fun e=>by cases e),hl,by unfold maxLen at hm;omega⟩⟩
    · intro z hz;obtain⟨j,hj,rfl⟩:=List.mem_map.1 hz;exact(hf j (by simpa using hj)).2
    · intro j hj;have hc:=(hx j (by omega)).1;obtain⟨b,off,spot⟩:=x;have ab:spot=none:=ad (by omega);subst ab;refine⟨b,off,rfl,?_⟩;rw [Addr.add_lit] at hc;rw [hc,(hf j hj).1];simp [List.getD,hj]
theorem ZlM {y:DataW H × List MemPlace}(h:DataW.trod enc Tryz.prog w base spare held n 47 [.slice a len cap]=some y):∃l,InsB w a len cap l:=by
 (have hC:Tryz.prog.cellsOf 32=1:=by kernel_rfl);rcases Go.Deep.open_slice1 Tryz.underlying47 hC h with ⟨aa,_⟩ | ⟨x,l,c,m,k,V,D,Pl,aa,hb,hl,hm,ad,_,hx⟩
 · simp only [List.cons.injEq,Value.slice.injEq,and_true] at aa;obtain⟨rfl,rfl,rfl⟩:=aa;exact⟨[],⟨rfl,by omega,fun j hj=>by omega⟩⟩
 · simp only [List.cons.injEq,Value.slice.injEq,and_true] at aa;obtain⟨rfl,rfl,rfl⟩:=aa;(have af:len≤m:=by rw [ad];split <;> omega);have ae:0<len→x.spot=none:=by
    intro h0;have:=World.cell?_spot (hx 0 (by omega)).1;simpa [Addr.add] using this
   have each:∀i,i<len→∃t:Bt,V i=t.s.val∧Came w t.s.a t.s.len t.s.cap t.bs:=by
    intro i hi;have t2:=(hx i (by omega)).2;obtain⟨a',len',cap',e4⟩:=Go.Joins.slice_form Tryz.underlying32 t2;simp only [List.cons.injEq,and_true] at e4;rw [e4] at t2;obtain⟨bs,ac⟩:=Zkg t2;exact⟨⟨⟨a',len',cap'⟩,bs⟩,e4,ac⟩
   obtain⟨f,hf⟩:=@Go.Deep.choose_lt Bt ⟨Bt.zero⟩ len _ each;refine⟨(List.range len).map f,⟨by simp,by unfold maxLen at hm;omega,?_⟩⟩;intro j hj;have hc:=(hx j (by omega)).1;obtain⟨b,off,spot⟩:=x;have ab:spot=none:=ae (by omega);subst ab;refine⟨b,off,rfl,?_⟩;rw [Addr.add_lit] at hc;(have e:((List.range len).map f).getD j Bt.zero=f j:=by simp [List.getD,hj]);rw [hc,e];exact⟨by rw [(hf j hj).1],(hf j hj).2⟩
end
theorem Znr (w:World)(s:Sl)(xs:List Nat)(h:Came w s.a s.len s.cap xs):Calls Tryz.prog 40 #[s.val] w fun e w'=>∃sp:Sl,e=.returned sp.val∧Below w.heap.size w w'∧Cm (fun k=>w.heap.size≤k) w' sp (Zbd xs):=by
 refine(Zkm w s.a s.len s.cap xs h).mono ?_;rintro e w' ⟨hb,rfl,hc⟩;refine⟨⟨some ⟨w.heap.size,0,none⟩,512,512⟩,rfl,hb,hc,fun ad ha _=>?_⟩;cases ha;exact Nat.le_refl _
theorem ZmE:∀args w,(callFunc 40 args).run Tryz.prog w=.ok (.enter 40 args) w:=Pl.ql Tryz.func40
def PairS (b o c z k:Nat) (q:Int) (s:Sl) (w:World):Prop:=w.cell? ⟨b,o+k,none⟩=some (.int .i64 q)∧w.cell? ⟨c,z+k,none⟩=some s.val
theorem PairS.low {b o c z k:Nat}{q:Int}{s:Sl}(h:PairS b o c z k q s w)(h1:b<B)(h2:c<B)(hb:Below B w w'):PairS b o c z k q s w':=
 ⟨(hb.cell (p:=⟨b,o+k,none⟩) h1).trans h.1,(hb.cell (p:=⟨c,z+k,none⟩) h2).trans h.2⟩
theorem ZmV (w:World)(base b o c z len cap len2 cap2 k:Nat)(q:Int)(s:Sl)(ys:List Nat)(v:Sl)(l:List Ix)(hg:GI (fun k=>base≤k) base w.drew v l)(ab:base≤w.drew.heap.size)(aa:PairS b o c z k q s w.drew)(ad:b<base)(ae:c<base)(hk:k<len)(ap:k<len2)(ax:v.len≤100000)(au:Calls Tryz.prog 40 #[s.val] w.drew fun e w'=>∃sp:Sl,e=.returned sp.val∧Below w.drew.heap.size w.drew w'∧Cm (fun k=>w.drew.heap.size≤k) w' sp ys)
    {Q:Exit→Act→World→Prop}{A:Act}(av:A.tmps.size=38)(am:A.defers=[])(s0:A.tmps.getD 0 undef=.slice (some ⟨b,o,none⟩) len cap)(s1:A.tmps.getD 1 undef=.slice (some ⟨c,z,none⟩) len2 cap2)(s5:A.tmps.getD 5 undef=Sl.val v)(s6:A.tmps.getD 6 undef=.int .i64 (k:Int))
    (hend:∀(u:Nat→Value) w' v3 s3,GI (fun k=>base≤k) base w' v3 (l ++ [(⟨q,s3,ys⟩:Ix)])→v3.len=v.len+1→Below base w.drew w'→Q .normal (((((((((((((((A).put (some 24) (u 24)).put (some 25) (u 25)).put (some 26) (u 26)).put (some 27) (u 27)).put (some 28) (u 28)).put (some 29) (u 29)).put (some 30) (u 30)).put (some 31) (u 31)).put (some 32) (u 32)).put (some 33) (u 33)).put (some 34) (u 34)).put (some 35) (u 35)).put (some 36) (u 36)).put (some 5) (Sl.val v3)) w') :
    (Code.region 5 (Pl.find 5 ((Tryz.f50.body).getD .skip)) true).wp Tryz.prog Q A w:=by
  have hA:=Pl.At.same (v:=.int .i64 (k:Int)) (d:=6) (Pl.At.same (v:=Sl.val v) (d:=5) (Pl.At.same (v:=.slice (some ⟨c,z,none⟩) len2 cap2) (d:=1) (Pl.At.same (v:=.slice (some ⟨b,o,none⟩) len cap) (d:=0) (Pl.At.here av am) s0) s1) s5) s6;refine Pl.qa (S:=PairS b o c z k q s) hA aa ?_;rw [show (Pl.find 5 ((Tryz.f50.body).getD .skip)).size=14 by kernel_rfl];refine Pl.q1 0 24 (Sl.val v) (Pl.q0) (Pl.q2 (.tmp 5)) aa ?_;refine Pl.q1 1 25 (.slice (some ⟨b,o,none⟩) len cap) (Pl.q0) (Pl.q2 (.tmp 0)) aa ?_;refine Pl.q1 2 26 (.int .i64 (k:Int)) (Pl.q0) (Pl.q2 (.tmp 6)) aa ?_;refine Pl.q1 3 27 (.pointer (some ⟨b,o+k,none⟩)) (Pl.q0) (Pl.qj 46 (.tmp 25) (.tmp 26) (ZoW b o len cap k hk)) aa ?_;refine Pl.q1 4 28 (.int .i64 q) (Pl.q0) (Pl.q6 3 (.tmp 27) (fun w' hS=>ZbE _ _ _ w' (hS.1))) aa ?_;refine Pl.q1 5 29 (.slice (some ⟨c,z,none⟩) len2 cap2) (Pl.q0) (Pl.q2 (.tmp 1)) aa ?_;refine Pl.q1 6 30 (.int .i64 (k:Int)) (Pl.q0) (Pl.q2 (.tmp 6)) aa ?_;refine Pl.q1 7 31 (.pointer (some ⟨c,z+k,none⟩)) (Pl.q0) (Pl.qj 47 (.tmp 29) (.tmp 30) (ixBs c z len2 cap2 k ap)) aa ?_;refine Pl.q1 8 32 (Sl.val s) (Pl.q0) (Pl.q6 32 (.tmp 31) (fun w' hS=>ZjQ _ _ _ w' (hS.2))) aa ?_;refine Pl.qc 9 33 40 [(.tmp 32)] #[32] (Pl.q0) ZmE (Calls.mono (au) ?_);rintro e w2 ⟨sp,rfl,ag,al⟩;have ac:=ag.mono ab;refine⟨Sl.val sp,rfl,(aa.low ad ae ac),?_⟩;refine Pl.q1 10 34 (Ix.val (⟨q,sp,ys⟩:Ix)) (Pl.q0) (Pl.bldI 10 (.tmp 28) (.tmp 33) (⟨q,sp,ys⟩:Ix) (by kernel_rfl) (by decide) (by decide) (fun w=>ZhV (⟨q,sp,ys⟩:Ix) w)) (aa.low ad ae ac) ?_;refine Pl.qf 11 35 (.slice (some ⟨w2.heap.size,0,none⟩) 1 1) (w2.alloc (.cells #[.int .i64 (⟨q,sp,ys⟩:Ix).page,(⟨q,sp,ys⟩:Ix).s.val] 76)) (Pl.q0) (Pl.qt 52 (.tmp 34) (Zfq (⟨q,sp,ys⟩:Ix) w2)) (aa.low ad ae (ac.alloc (Nat.le_trans ab ag.size) _)) ?_;have aj:=hg.keep ag;obtain⟨v3,w3,af,ar,aq,an,ak⟩:=Zkk w2 v l aj.own (⟨q,sp,ys⟩:Ix) (by omega) 52;have aw:Cm (fun k=>base≤k∧v.blk≠some k) w2 sp ys:=al.mono (fun k hk _=>⟨Nat.le_trans ab hk,fun e=>by have:=hg.own.lt e;omega⟩);obtain⟨ao,ah⟩:=aj.add (x:=(⟨q,sp,ys⟩:Ix)) aw ar an ak (Nat.le_trans ab ag.size);have ai:=ac.trans ah;refine Pl.qf 12 36 (Sl.val v3) w3 (Pl.q0) (Pl.qn 52 52 (.tmp 24) (.tmp 35) af) (aa.low ad ae ai) ?_;refine Pl.q1 13 5 (Sl.val v3) (Pl.q0) (Pl.qm (.tmp 36)) (aa.low ad ae ai) ?_;refine Pl.q7 (fun A' hA'=>?_);rw [Pl.At.ext hA' ((((((((((((((hA.put 24 _).put 25 _).put 26 _).put 27 _).put 28 _).put 29 _).put 30 _).put 31 _).put 32 _).put 33 _).put 34 _).put 35 _).put 36 _).put 5 _)];exact hend hA'.fn _ v3 _ ao aq ai
def Zc3 (ps:List Int) (bb:List (List Nat)) (k:Nat):List Im:=(List.range k).map fun i=>⟨ps.getD i 0,Zbd (bb.getD i [])⟩
theorem ZgR (ps:List Int)(bb:List (List Nat))(k:Nat):Zc3 ps bb (k+1)=Zc3 ps bb k ++ [⟨ps.getD k 0,Zbd (bb.getD k [])⟩]:=by simp [Zc3,List.range_succ]
theorem Zf3 (ps:List Int)(bb:List (List Nat))(k:Nat):(Zc3 ps bb k).length=k:=by simp [Zc3]
def bts (l:List Bt):List (List Nat):=l.map Bt.bs
theorem ZkS (l:List Bt)(i:Nat):(bts l).getD i []=(l.getD i Bt.zero).bs:=by
 unfold bts;simp only [List.getD,List.getElem?_map];cases l[i]? <;> rfl
def cnt (n m:Nat):Nat:=min (min n m) 9
def ZiV (w:World) (g:List Im) (e:Ending) (w':World):Prop:=∃(v:Sl) (l:List Ix),e=.returned v.val∧GI (fun k=>w.heap.size≤k) w.heap.size w' v l∧ims l=g∧Below w.heap.size w w'
theorem Zi2 (w:World)(pa:Option Addr)(pl pc:Nat)(ps:List Int)(hp:InsI w pa pl pc ps)(ba:Option Addr)(bl bc:Nat)(bb:List Bt)(hb:InsB w ba bl bc bb) :
    Calls Tryz.prog 50 #[.slice pa pl pc,.slice ba bl bc] w fun e w'=>ZiV w (Zc3 ps (bts bb) (cnt pl bl)) e w':=by
  have HP:=hide hp;have ap:=hide hb;have be:=hp.big;have ax:=hb.big;have aq:=hide (GI.new (fun k=>w.heap.size≤k) w.heap.size w (Nat.le_refl _));have HR:=hide (Zaa w (.cells #[] 76));obtain⟨n,hn⟩:∃n,n=cnt pl bl:=⟨_,rfl⟩;rw [← hn];have HN:=hide hn;(have bd:n≤9:=by rw [hn];exact Nat.min_le_right _ _);clear hp hb hn;go_enter Tryz.func50,Tryz.ntmps50;go_wp2_with fail;go_loopw [5,6] (fun gv iv wr=>∃(k:Nat) (v:Sl) (l:List Ix),k≤n∧iv=.int .i64 (k:Nat)∧gv=v.val∧Hid (v.len=k)∧Hid (GI (fun k=>w.heap.size≤k) w.heap.size wr v l)∧Hid (ims l=Zc3 ps (bts bb) k)∧Hid (Below w.heap.size w wr)) (fun _ iv _=>20-(intOf iv).toNat)
  case atStart=>exact ⟨0,⟨some ⟨w.heap.size,0,none⟩,0,0⟩,[],by omega,rfl,rfl,hide rfl,aq,hide rfl,HR⟩
  case round =>
   obtain⟨k,v,l,hk,rfl,rfl,an,hg,hi,hW⟩:=hrel;have aa:=HN.out;unfold cnt at aa;rcases Nat.lt_or_ge k n with az | ay
   · (have k1:k<pl:=by omega);(have k2:k<bl:=by omega);(have i1:(k:Int)<(pl:Int):=by omega);(have i2:(k:Int)<(bl:Int):=by omega);(have i3:(k:Int)<9:=by omega);obtain⟨b,o,ha,c0⟩:=HP.out.at_ k k1;obtain⟨c,z,aw,d0,ai⟩:=ap.out.at_ k k2;subst ha;subst aw;have ac:=World.block_lt_of_cell? w _ c0;have ad:=World.block_lt_of_cell? w _ d0;have hd:=Zaz wr;have ae:=Zaf hW.out hd;have hS:PairS b o c z k (ps.getD k 0) (bb.getD k Bt.zero).s wr.drew:=PairS.low (w:=w) ⟨c0,d0⟩ ac ad ae;have ak:=hg.out.keep hd;have ag:=hide (fun Q A=>@ZmV wr w.heap.size b o c z pl pc bl bc k _ _ _ v l ak (Nat.le_trans hW.out.size hd.size) hS ac ad k1 k2 (by have:=an.out;omega) (Znr wr.drew _ _ (ai.below ae (Nat.le_refl _))) Q A);have af:Hid (∀s:Sl,ims (l ++ [(⟨ps.getD k 0,s,Zbd (bb.getD k Bt.zero).bs⟩:Ix)])=Zc3 ps (bts bb) (k+1)):=by
      intro s;rw [Zcg,hi.out,ZgR,ZkS];rfl
     clear c0 d0 ai ac ad hd ae hS ak aa;go_wp2_with fail;refine Pl.q8 (ops:=Pl.find 5 ((Tryz.f50.body).getD .skip)) ?_;refine ag.out _ _ (by rfl) rfl (by rfl) (by rfl) (by rfl) (by rfl) ?_;intro uu w9 v9 s9 aj am ah;have ar:=hide aj;have ao:=hide ((Zaf hW.out (Zaz wr)).trans ah);(have au:Hid (v9.len=k+1):=by show _=_;rw [am,an.out]);have av:=hide (af.out s9);simp only [Act.put,List.setIfInBounds_toArray,List.set_cons_zero,List.set_cons_succ];clear ag af aj ah am;go_wp2_with fail;go_roundw
     case rel=>exact ⟨k+1,v9,_,by omega,by go_num,rfl,au,ar,av,ao⟩
     case measure=>simp only [intOf];omega
   · (have al:k=n:=by omega);(have ab:Hid (ims l=Zc3 ps (bts bb) n):=by rw [← al];exact hi.out);obtain⟨va,vl,vc⟩:=v;unfold Sl.val;simp only;clear al;by_cases j1:k<pl
     · (have i1:(k:Int)<(pl:Int):=by omega);by_cases j2:k<bl
       · (have i2:(k:Int)<(bl:Int):=by omega);(have i3:¬(k:Int)<9:=by omega);clear aa;go_wp2_with fail;go_ret;exact⟨⟨va,vl,vc⟩,l,rfl,hg.out,ab.out,hW.out⟩
       · (have i2:¬(k:Int)<(bl:Int):=by omega);clear aa;go_wp2_with fail;go_ret;exact⟨⟨va,vl,vc⟩,l,rfl,hg.out,ab.out,hW.out⟩
     · (have i1:¬(k:Int)<(pl:Int):=by omega);clear aa;go_wp2_with fail;go_ret;exact⟨⟨va,vl,vc⟩,l,rfl,hg.out,ab.out,hW.out⟩
end Go.Proofs.YtpnlebpnhmibfaaGreat
