/-
  Lemmas.
-/
import Derived.Test.YtpnlebpnhmibfaaGreatBe
import Derived.Maps.OwnSet
import Derived.Laws.MakeOwn
import Derived.Laws.CopyOwn
namespace Go.Proofs.YtpnlebpnhmibfaaGreat
open Go.RowKit
set_option linter.unusedVariables false
set_option maxRecDepth 100000
set_option maxHeartbeats 4000000
variable {l:List Sp}{w wr w':World}{h g b o len cap n j k m i:Nat}{p:Int}{v:Sl}
def fnd (l:List Sp) (h:Nat):Rd:=if 0≤ixN l then ⟨l,h,ixN l⟩ else rnd (2*l.length) l h
theorem Zd7 (hp:(fr l h).pin=true):rnd (k+1) l h=rnd k l ((h+1) % l.length):=by
 rw [rnd,if_pos hp]
theorem ZcS (hp:(fr l h).pin=false)(hu:(fr l h).used=true):rnd (k+1) l h=rnd k (l.set h ⟨(fr l h).page,false,(fr l h).pin⟩) ((h+1) % l.length):=by
 rw [rnd,if_neg (by rw [hp];decide),if_pos hu]
theorem Zc6 (hp:(fr l h).pin=false)(hu:(fr l h).used=false):rnd (k+1) l h=⟨l,(h+1) % l.length,(h:Int)⟩:=by
 rw [rnd,if_neg (by rw [hp];decide),if_neg (by rw [hu];decide)]
structure Bx (w wr:World) (g b o len cap:Nat) (l:List Sp) (h:Nat):Prop where
  ck:CkBlk wr g (.slice (some ⟨b,o,none⟩) len cap) ((h:Nat):Int)
  own:OwnS wr ⟨some ⟨b,o,none⟩,len,cap⟩ l
  frm:Frm (fun k=>k=g∨k=b) w wr
theorem Bx.below (x:Bx w wr g b o len cap l h)(hb:Below wr.heap.size wr w'):Bx w w' g b o len cap l h:=
 ⟨x.ck.below hb,x.own.below hb,x.frm.trans (Frm.ofBelow (F:=fun k=>k=g∨k=b) hb) (fun _ _ e=>e)⟩
theorem Bx.hand (x:Bx w wr g b o len cap l h)(aa:g≠b)(h':Nat):∃W,(Instr.storeAt 3 (.pointer (some ⟨g,1,none⟩)) (.int .i64 (h':Int))).run Tryz.prog wr=.ok () W∧Bx w W g b o len cap l h':=by
 obtain⟨W,ab,k,f⟩:=ZkB wr g _ _ x.ck (h':Int);exact⟨W,ab,k,x.own.off f aa.symm,x.frm.trans f (fun _ _ e=>.inl e)⟩
theorem Bx.use (x:Bx w wr g b o len cap l h)(aa:g≠b)(i:Nat)(hi:i<len)(u:Bool):∃W,(Instr.storeAt 4 (.pointer (some ⟨b,o+i*3+1,none⟩)) (.bool u)).run Tryz.prog wr=.ok () W∧Bx w W g b o len cap (l.set i ⟨(fr l i).page,u,(fr l i).pin⟩) h:=by
 obtain⟨W,ab,k,f⟩:=ZoE wr b o len cap l x.own i hi u;exact⟨W,ab,x.ck.off f aa,k,x.frm.trans f (fun _ _ e=>.inr e)⟩
theorem Zlq (w:World)(g b o len cap:Nat)(l:List Sp)(h:Nat)(x:Bx w w g b o len cap l h)(an:g≠b)(h1:1≤len)(av:len≤64)(hh:h<len) :
    Calls Tryz.prog 128 #[.pointer (some ⟨g,0,none⟩)] w fun e w'=>e=.returned (.int .i64 (fnd l h).at_)∧Bx w w' g b o len cap (fnd l h).l (fnd l h).h∧(fnd l h).l.length=len∧(fnd l h).h<len∧(fnd l h).at_<len:=by
  have aa:l.length=len:=x.own.len;have am:=x.own.gs (D:=fun _=>True) (fun _ _=>trivial) (by show len≤_;omega);have HI:Hid (∀w1,Below w.heap.size w w1→Calls Tryz.prog 135 #[Sl.val ⟨some ⟨b,o,none⟩,len,cap⟩,Sp.none.val] w1 fun e w2=>e=.returned (.int .i64 (ixN l))∧Below w1.heap.size w1 w2):=
   fun w1 hb=>ZjM w1 _ l (am.below hb (Nat.le_refl _))
  have HX:=hide x;have ag:=hide aa;clear am x;by_cases hn:0≤ixN l
  · have e:fnd l h=⟨l,h,ixN l⟩:=if_pos hn;rw [e];have aq:Hid (ixN l<len):=by
     show _<_;rcases Zek (fun s=>Sp.none.beq s) l 0 with ⟨h1,_⟩ | ⟨i,hi,h1,_⟩
     · unfold ixN;omega
     · unfold ixN;omega
    clear e aa;go_enter Tryz.func128,Tryz.ntmps128;go_wp2_with fail;refine Pl.q8 (ops:=Pl.find 1 ((Tryz.f128.body).getD .skip)) ?_;refine ZnR _ g ⟨some ⟨b,o,none⟩,len,cap⟩ (h:Int) l HX.out.ck HI.out (by rfl) rfl (by rfl) ?_;intro u w1 ah;simp only [Act.put,List.setIfInBounds_toArray,List.set_cons_zero,List.set_cons_succ];have ab:=hide (HX.out.below ah);clear ah HX HI;go_wp2_with fail;go_ret;exact⟨rfl,ab.out,ag.out,hh,aq.out⟩
  · (have e:fnd l h=rnd (2*len) l h:=by unfold fnd;rw [if_neg hn,aa]);rw [e];have ar:Hid (rnd (2*len) l h=rnd (2*len-0) l h):=rfl;clear e aa;go_enter Tryz.func128,Tryz.ntmps128;go_wp2_with fail;refine Pl.q8 (ops:=Pl.find 1 ((Tryz.f128.body).getD .skip)) ?_;refine ZnR _ g ⟨some ⟨b,o,none⟩,len,cap⟩ (h:Int) l HX.out.ck HI.out (by rfl) rfl (by rfl) ?_;intro u w1 ah;simp only [Act.put,List.setIfInBounds_toArray,List.set_cons_zero,List.set_cons_succ];have ab:=hide (HX.out.below ah);have c0:=ab.out.ck.c0;(have j1:IntKind.i64.wrap (2*(len:Int))=((2*len:Nat):Int):=by rw [IntKind.wrap_i64];omega);clear ah HX HI;go_wp2_with fail;go_loopw [21] (fun iv wr=>∃k:Nat,k≤2*len∧iv=.int .i64 (k:Nat)∧∃l' h',Hid (rnd (2*len) l h=rnd (2*len-k) l' h')∧Hid (l'.length=len)∧h'<len∧Hid (Bx w wr g b o len cap l' h')) (fun iv _=>2*len-(intOf iv).toNat)
    case atStart=>exact ⟨0,Nat.zero_le _,rfl,l,h,ar,ag,hh,ab⟩
    case round =>
     obtain⟨k,hk,rfl,l',h',hr,hl',hh',hx⟩:=hrel;have c0:=hx.out.ck.c0;have c1:=hx.out.ck.c1;rcases Nat.lt_or_ge k (2*len) with ax | aw
     · (have i1:(k:Int)<2*(len:Int):=by omega);(have i2:(h':Int)<(len:Int):=by omega);obtain⟨W1,af,ak⟩:=hx.out.hand an ((h'+1) % len);(have hm:((((h'+1) % len:Nat)):Int)=((h':Int)+1) % (len:Int):=by simp);rw [hm] at af;have ac:=hide af;have ab:=hide ak;have d0:=ak.ck.c0;obtain⟨e0,e1,e2⟩:=ak.own.cells rfl hh';have ae:(h'+1) % len<len:=Nat.mod_lt _ (by omega);(have aj:2*len-k=(2*len-(k+1))+1:=by omega);have ad:=hide aj;clear af ak hm aj;cases hp:(fr l' h').pin with
       | true =>
        rw [hp] at e2;have HR:Hid (rnd (2*len) l h=rnd (2*len-(k+1)) l' ((h'+1) % len)):=by
         have e:=hr.out;rw [ad.out,Zd7 hp,hl'.out] at e;exact e
        clear hr hp;go_wp2_with (refine Zab _ rfl rfl 3 (.tmp 37) (.tmp 35) rfl (.pointer (some ⟨g,1,none⟩)) (.int .i64 (((h':Int)+1) % (len:Int))) rfl rfl W1 ac.out ?_);go_roundw
        case rel=>exact ⟨k+1,by omega,by go_num,l',(h'+1) % len,HR,hl',ae,ab⟩
        case measure=>simp only [intOf];omega
       | false =>
        rw [hp] at e2;cases hu:(fr l' h').used with
        | true =>
         rw [hu] at e1;have HR:Hid (rnd (2*len) l h=rnd (2*len-(k+1)) (l'.set h' ⟨(fr l' h').page,false,(fr l' h').pin⟩) ((h'+1) % len)):=by
          have e:=hr.out;rw [ad.out,ZcS hp hu,hl'.out] at e;exact e
         obtain⟨W2,ai,ao⟩:=ab.out.use an h' hh' false;have al:=hide ai;have au:=hide ao;have ap:Hid ((l'.set h' ⟨(fr l' h').page,false,(fr l' h').pin⟩).length=len):=by
          show _=_;rw [List.length_set];exact hl'.out
         clear hr hp hu ai ao;generalize l'.set h' ⟨(fr l' h').page,false,(fr l' h').pin⟩=l2 at *;go_wp2_with (first | refine Zab _ rfl rfl 3 (.tmp 37) (.tmp 35) rfl (.pointer (some ⟨g,1,none⟩)) (.int .i64 (((h':Int)+1) % (len:Int))) rfl rfl W1 ac.out ?_ | refine Zab _ rfl rfl 4 (.tmp 57) (.const (.bool false)) rfl (.pointer (some ⟨b,o+h'*3+1,none⟩)) (.bool false) rfl rfl W2 al.out ?_);go_roundw
         case rel=>exact ⟨k+1,by omega,by go_num,l2,(h'+1) % len,HR,ap,ae,au⟩
         case measure=>simp only [intOf];omega
        | false =>
         rw [hu] at e1;have HR:Hid (rnd (2*len) l h=⟨l',(h'+1) % len,(h':Int)⟩):=by
          have e:=hr.out;rw [ad.out,Zc6 hp hu,hl'.out] at e;exact e
         clear hr hp hu;go_wp2_with (refine Zab _ rfl rfl 3 (.tmp 37) (.tmp 35) rfl (.pointer (some ⟨g,1,none⟩)) (.int .i64 (((h':Int)+1) % (len:Int))) rfl rfl W1 ac.out ?_);go_ret;refine⟨by rw [HR.out];rfl,?_⟩;rw [HR.out];exact⟨ab.out,hl'.out,ae,i2⟩
     · (have i1:¬(k:Int)<2*(len:Int):=by omega);have HR:Hid (rnd (2*len) l h=⟨l',h',-1⟩):=by
        have e:=hr.out;rw [show 2*len-k=0 by omega] at e;exact e
       clear hr;go_wp2_with fail;go_ret;refine⟨by rw [HR.out];rfl,?_⟩;rw [HR.out];exact⟨hx.out,hl'.out,hh',by show (-1:Int)<_;omega⟩
theorem ZaY :isPg p=true↔0≤p∧p<64:=by unfold isPg;simp
theorem Zg7 {h:Int}(hp:isPg p=false):touch l h p=⟨l,h,-1,-1,1⟩:=by
 have:p<0∨63<p:=by
  rcases Int.lt_or_le p 0 with h1 | h1
  · exact .inl h1
  · rcases Int.lt_or_le 63 p with h2 | h2
    · exact .inr h2
    · rw [ZaY.2 ⟨h1,by omega⟩] at hp;cases hp
 unfold touch;rw [if_pos this]
theorem ZfJ {h:Int}(hp:isPg p=true)(hi:ixP l p=(i:Int)):touch l h p=⟨l.set i ⟨(fr l i).page,true,(fr l i).pin⟩,h,(i:Int),-1,0⟩:=by
 obtain⟨h1,h2⟩:=ZaY.1 hp;unfold touch;rw [if_neg (by omega),if_pos (by omega),hi];rfl
theorem Zd9 {h:Int}(hm:may l h=true)(hp:isPg p=true)(hi:ixP l p = -1):touch l h p=if (fnd l h.toNat).at_<0 then ⟨l,h,-1,-1,11⟩ else ⟨(fnd l h.toNat).l.set (fnd l h.toNat).at_.toNat ⟨p,true,false⟩,((fnd l h.toNat).h:Int),(fnd l h.toNat).at_,(fr (fnd l h.toNat).l (fnd l h.toNat).at_.toNat).page,0⟩:=by
 obtain⟨h1,h2⟩:=ZaY.1 hp;obtain⟨_,_,h0,_,hg⟩:=ZaI.1 hm;have e:=ZhB hg;unfold touch;rw [if_neg (by omega),if_neg (by omega)];by_cases hn:0≤ixP l (-1)
 · have ef:fnd l h.toNat=⟨l,h.toNat,ixN l⟩:=if_pos (by rw [e];exact hn);rw [if_pos hn,ef,e];simp only;rw [if_neg (by omega),Int.toNat_of_nonneg h0];rcases ZaN l (-1) with ⟨h3,_⟩ | ⟨i,aa,h3,h4,_⟩
   · omega
   · rw [h3];simp only [Int.toNat_natCast];rw [h4]
 · have ef:fnd l h.toNat=rnd (2*l.length) l h.toNat:=if_neg (by rw [e];exact hn);rw [if_neg hn,ef]
structure Tb (D:Nat→Prop) (w wr:World) (v:Sl) (h:Int) (l:List Sp):Prop where
  k2:CkBlk wr w.heap.size v.val h
  k4:CkBlk wr (w.heap.size+1) (.slice none 0 0) 0
  g:Gs D wr v l
  e:Below w.heap.size w wr
theorem Tb.below {D:Nat→Prop}{h:Int}(t:Tb D w wr v h l)(hb:Below wr.heap.size wr w'):Tb D w w' v h l:=
 ⟨t.k2.below hb,t.k4.below hb,t.g.below hb (Nat.le_refl _),Zaf t.e hb⟩
theorem Tb.start {D:Nat→Prop}{h:Int}(hg:Gs D w v l):Tb D w ((w.alloc (.cells #[v.val,.int .i64 h] 40)).alloc (.cells #[.slice none 0 0,.int .i64 0] 40)) v h l:=by
 have ab:=Zaa w (.cells #[v.val,.int .i64 h] 40);have aa:=Zaa (w.alloc (.cells #[v.val,.int .i64 h] 40)) (.cells #[.slice none 0 0,.int .i64 0] 40);have ac:=Zbf (w.alloc (.cells #[v.val,.int .i64 h] 40)) (.slice none 0 0) 0;rw [ZaA] at ac;exact⟨(Zbf w v.val h).below aa,ac,hg.below (Zaf ab aa) (Nat.le_refl _),Zaf ab aa⟩
theorem Tb.lay {D:Nat→Prop}{h:Int}(t:Tb D w wr v h l)(s:Sl)(h':Int):∃W,(Instr.storeAt 40 (.pointer (some ⟨w.heap.size+1,0,none⟩)) (ckV s h')).run Tryz.prog wr=.ok () W∧CkBlk W (w.heap.size+1) s.val h'∧Frm (fun k=>k=w.heap.size+1) wr W∧Below w.heap.size w W:=by
 obtain⟨W,aa,k,f⟩:=Zn9 wr _ _ _ t.k4 s h';exact⟨W,aa,k,f,Below.more t.e f t.e.size (Nat.le_succ _)⟩
theorem Gs.off {W:World}{s:Sl}{B p:Nat}(g:Gs (fun k=>B≤k) w s l)(f:Frm (fun k=>k=p) w W)(hp:p<B):Gs (fun k=>B≤k) W s l:=g.keep (Kept.frm f (fun k hk e=>by rw [e] at hk;omega))
theorem ZkI {D:Nat→Prop}(w:World)(v:Sl)(h:Int)(l:List Sp)(hg:Gs D w v l)(p:Int)(hm:may l h=true)(hp:isPg p=false) :
    Calls Tryz.prog 117 #[ckV v h,.int .i64 p] w fun e w'=>Below w.heap.size w w'∧∃s:Sl,e=.returned (.tuple #[ckV s h,.int .i64 (-1),.int .i64 (-1),.int .i64 1])∧Gs (fun k=>w.heap.size≤k) w' s l:=by
  have hT:=Tb.start (h:=h) hg;have HC:=hide (Zda _ v h l hT.g);rw [ZfS hm] at HC;have HT:=hide hT;have HP:=hide (ZbI p);rw [hp] at HP;have ah:Hid (∀W,Tb D w W v h l→Calls Tryz.prog 115 #[ckV v h] W fun e w'=>Below W.heap.size W w'∧∃s:Sl,e=.returned (ckV s h)∧OwnS w' s l∧s.len=v.len∧∀k,s.blk=some k→W.heap.size≤k):=fun W hW=>ZcA W v h l hW.g;have aj:v.len≤1000000:=hg.big;clear hg hT hp;obtain⟨a,len,cap⟩:=v;unfold ckV Sl.val at *;simp only at *;go_enter Tryz.func117,Tryz.ntmps117;go_wp2_with fail;refine HC.out.mono ?_;rintro e w1 ⟨rfl,ad⟩;have ab:=HT.out.below ad;have c0:=ab.k2.c0;have c1:=ab.k2.c1;have aa:=hide ab;clear ab ad HT;unfold Sl.val at c0;simp only at c0;go_wp2_with fail;refine(HP.out _).mono ?_;rintro e w2 ⟨rfl,ak⟩;obtain rfl:=ak.symm;go_wp2_with fail;refine(ah.out _ aa.out).mono ?_;rintro e w2 ⟨ae,s,rfl,ho,hl,hk⟩;have ac:=aa.out.below ae;obtain⟨W,af,k,f,hB⟩:=ac.lay s h;have ai:=hide af;have HK:=hide k;have HB:=hide hB;have ag:=aa.out.k4.lt;have HG:=hide (((ho.gs (D:=fun k=>w1.heap.size≤k) hk (by omega)).off f ag).mono (fun k hk _=>(by have:=aa.out.e.size;omega:w.heap.size≤k)));clear ac af k f hB ae ho hk ag;obtain⟨sa,sl,sc⟩:=s;unfold ckV Sl.val at *;simp only at *;go_wp2_with (refine Zab _ rfl rfl 40 (.tmp 4) (.tmp 23) rfl (.pointer (some ⟨w.heap.size+1,0,none⟩)) (.agg #[.slice sa sl sc,.int .i64 h]) rfl rfl W ai.out ?_);refine bodyPost_ret (Za7 (v:=⟨sa,sl,sc⟩) rfl HK.out _ rfl rfl rfl rfl) rfl ?_;exact⟨HB.out,⟨sa,sl,sc⟩,rfl,HG.out⟩
structure ZoN (l:List Sp) (r:Rd):Prop where
  len:r.l.length=l.length
  hand:r.h<l.length
  page:∀j,(fr r.l j).page=(fr l j).page
  pin:∀j,(fr r.l j).pin=(fr l j).pin
  found:r.at_ = -1∨∃q,q<l.length∧r.at_=((q:Nat):Int)∧(fr l q).pin=false
theorem ZbW (l:List Sp)(h j:Nat)(u:Bool):(fr (l.set h ⟨(fr l h).page,u,(fr l h).pin⟩) j).page=(fr l j).page∧(fr (l.set h ⟨(fr l h).page,u,(fr l h).pin⟩) j).pin=(fr l j).pin:=by
 by_cases e:h=j
 · subst e;by_cases hl:h<l.length
   · rw [Zav hl];exact⟨rfl,rfl⟩
   · rw [List.set_eq_of_length_le (by omega)];exact⟨rfl,rfl⟩
 · rw [Zap e];exact⟨rfl,rfl⟩
theorem Zev:∀(k:Nat)(l:List Sp)(h:Nat),h<l.length→ZoN l (rnd k l h)
 | 0,l,h,hh=>⟨rfl,hh,fun _=>rfl,fun _=>rfl,.inl rfl⟩
 | k+1,l,h,hh=>by
  have hm:(h+1) % l.length<l.length:=Nat.mod_lt _ (by omega)
  cases hp:(fr l h).pin with
  | true =>
   rw [Zd7 hp]
   exact Zev k l _ hm
  | false =>
   cases hu:(fr l h).used with
   | true =>
    rw [ZcS hp hu]
    have e:=Zev k (l.set h ⟨(fr l h).page,false,(fr l h).pin⟩) ((h+1) % l.length) (by rw [List.length_set];exact hm)
    refine⟨by rw [e.len,List.length_set],by have:=e.hand;rwa [List.length_set] at this,fun j=>by rw [e.page,(ZbW l h j false).1],fun j=>by rw [e.pin,(ZbW l h j false).2],?_⟩
    rcases e.found with e1 | ⟨q,hq,e1,e2⟩
    · exact .inl e1
    · exact .inr ⟨q,by rwa [List.length_set] at hq,e1,by rwa [(ZbW l h q false).2] at e2⟩
   | false =>
    rw [Zc6 hp hu]
    exact⟨rfl,hm,fun _=>rfl,fun _=>rfl,.inr ⟨h,hh,rfl,hp⟩⟩
theorem Zih {d:Nat}(hn:h<n)(hd:d+1<n)(hj:(h+(d+1)) % n=j):((h+1) % n+d) % n=j∧h≠j:=by
 constructor
 · rw [Nat.mod_add_mod,← hj];congr 1;omega
 · intro e;rcases Nat.lt_or_ge (h+(d+1)) n with h1 | h1
   · rw [Nat.mod_eq_of_lt h1] at hj;omega
   · rw [Nat.mod_eq_sub_mod h1,Nat.mod_eq_of_lt (by omega)] at hj;omega
theorem Zew:∀(k d:Nat)(l:List Sp)(h j:Nat),h<l.length→d<l.length→d<k→(h+d) % l.length=j→(fr l j).pin=false→(fr l j).used=false→(rnd k l h).at_ ≠ -1
 | 0,_,_,_,_,_,_,hk,_,_,_=>absurd hk (Nat.not_lt_zero _)
 | k+1,d,l,h,j,hh,hd,hk,hj,hp,hu=>by
  have hm:(h+1) % l.length<l.length:=Nat.mod_lt _ (by omega)
  cases d with
  | zero =>
   have e:h=j:=by rw [← hj,Nat.add_zero,Nat.mod_eq_of_lt hh]
   subst e
   rw [Zc6 hp hu]
   show (h:Int) ≠ -1
   omega
  | succ d =>
   obtain⟨hj',aa⟩:=Zih hh hd hj
   cases hp2:(fr l h).pin with
   | true =>
    rw [Zd7 hp2]
    exact Zew k d l _ j hm (by omega) (by omega) hj' hp hu
   | false =>
    cases hu2:(fr l h).used with
    | true =>
     rw [ZcS hp2 hu2]
     exact Zew k d _ _ j (by rw [List.length_set];exact hm) (by rw [List.length_set];omega) (by omega) (by rw [List.length_set];exact hj') (by rw [Zap aa];exact hp) (by rw [Zap aa];exact hu)
    | false =>
     rw [Zc6 hp2 hu2]
     show (h:Int) ≠ -1
     omega
theorem Zdn:∀(k d:Nat)(l:List Sp)(h j:Nat),h<l.length→d<l.length→d+l.length<k→(h+d) % l.length=j→(fr l j).pin=false→(rnd k l h).at_ ≠ -1
 | 0,_,_,_,_,_,_,hk,_,_=>absurd hk (Nat.not_lt_zero _)
 | k+1,d,l,h,j,hh,hd,hk,hj,hp=>by
  have hm:(h+1) % l.length<l.length:=Nat.mod_lt _ (by omega)
  cases d with
  | zero =>
   have e:h=j:=by rw [← hj,Nat.add_zero,Nat.mod_eq_of_lt hh]
   subst e
   cases hu:(fr l h).used with
   | true =>
    rw [ZcS hp hu]
    have hw:((h+1) % l.length+(l.length-1)) % l.length=h:=by
     rw [Nat.mod_add_mod,show h+1+(l.length-1)=h+l.length by omega,Nat.add_mod_right,Nat.mod_eq_of_lt hh]
    exact Zew k (l.length-1) _ _ h (by rw [List.length_set];exact hm) (by rw [List.length_set];omega) (by omega) (by rw [List.length_set];exact hw) (by rw [Zav hh];exact hp) (by rw [Zav hh])
   | false =>
    rw [Zc6 hp hu];show (h:Int) ≠ -1;omega
  | succ d =>
   obtain⟨hj',aa⟩:=Zih hh hd hj;cases hp2:(fr l h).pin with
   | true =>
    rw [Zd7 hp2];exact Zdn k d l _ j hm (by omega) (by omega) hj' hp
   | false =>
    cases hu2:(fr l h).used with
    | true =>
     rw [ZcS hp2 hu2];exact Zdn k d _ _ j (by rw [List.length_set];exact hm) (by rw [List.length_set];omega) (by rw [List.length_set];omega) (by rw [List.length_set];exact hj') (by rw [Zap aa];exact hp)
    | false =>
     rw [Zc6 hp2 hu2];show (h:Int) ≠ -1;omega
theorem Zn0 (hh:h<l.length)(aa:(rnd (2*l.length) l h).at_ = -1)(hj:j<l.length):(fr l j).pin=true:=by
 cases hp:(fr l j).pin with
 | true=>rfl
 | false =>
  refine absurd aa ?_;rcases Nat.lt_or_ge j h with h1 | h1
  · exact Zdn (2*l.length) (j+l.length-h) l h j hh (by omega) (by omega) (by rw [show h+(j+l.length-h)=j+l.length by omega,Nat.add_mod_right,Nat.mod_eq_of_lt hj]) hp
  · exact Zdn (2*l.length) (j-h) l h j hh (by omega) (by omega) (by rw [show h+(j-h)=j by omega,Nat.mod_eq_of_lt hj]) hp
theorem ZjZ {l':List Sp}{h h':Int}(hm:may l h=true)(aa:l'.length=l.length)(h0:0≤h')(h1:h'<l.length)
    (ho:∀j,j<l.length→j≠k→fr l' j=fr l j∨(0≤(fr l j).page∧(fr l' j).page=(fr l j).page))(hp:0≤(fr l' k).page∧(fr l' k).page<64)
    (hd:∀j,j<l.length→j≠k→(fr l j).page≠(fr l' k).page):may l' h'=true:=by
  obtain⟨m1,m2,_,_,mg⟩:=ZaI.1 hm;have pg:∀j,j<l.length→j≠k→(fr l' j).page=(fr l j).page:=by
   intro j hj ab;rcases ho j hj ab with e | e
   · rw [e]
   · exact e.2
  refine ZaI.2 ⟨by omega,by omega,h0,by omega,fun i hi=>?_⟩;rw [aa] at hi;by_cases e:i=k
  · subst e;refine .inr ⟨hp.1,hp.2,fun j hj=>?_⟩;rw [pg j (by omega) (by omega)];exact hd j (by omega) (by omega)
  · rcases mg i hi with g | ⟨g1,g2,g3⟩
    · rcases ho i hi e with e1 | e1
      · exact .inl (e1.trans g)
      · rw [g] at e1;simp [Sp.none] at e1
    · refine .inr ⟨by rw [pg i hi e];exact g1,by rw [pg i hi e];exact g2,fun j hj=>?_⟩;rw [pg i hi e];by_cases ej:j=k
      · subst ej;exact fun x=>hd i hi e x.symm
      · rw [pg j (by omega) ej];exact g3 j hj
structure Tk (l:List Sp) (h p:Int) (t:Tc) (k:Nat):Prop where
  e:t.e=0
  may:may t.l t.h=true
  len:t.l.length=l.length
  lt:k<l.length
  at_:t.at_=((k:Nat):Int)
  page:(fr t.l k).page=p
  pin:∀j,j<l.length→(fr t.l j).pin=(fr l j).pin
  others:∀j,j<l.length→j≠k→(fr t.l j).page=(fr l j).page
  was:((fr l k).page=p∧t.was = -1)∨((fr l k).pin=false∧t.was=(fr l k).page∧∀j,j<l.length→(fr l j).page≠p)
theorem ZeE {l : List Sp} {h p : Int} (hm : may l h = true) (hp : isPg p = true) :
    ((touch l h p).e = 11 ∧ (∀ k, k < l.length → (fr l k).pin = true) ∧ ∀ k, k < l.length → (fr l k).page ≠ p) ∨ ∃ k, Tk l h p (touch l h p) k := by
  obtain ⟨m1, m2, m3, m4, mg⟩ := ZaI.1 hm
  obtain ⟨p0, p1⟩ := ZaY.1 hp
  rcases ZaN l p with ⟨hi, hno⟩ | ⟨i, hil, hi, hpi, hfi⟩
  · have hhn : h.toNat < l.length := by omega
    rw [Zd9 hm hp hi]
    by_cases hn : 0 ≤ ixN l
    · have ef : fnd l h.toNat = ⟨l, h.toNat, ixN l⟩ := if_pos hn
      rw [ef]
      simp only
      rw [if_neg (by omega)]
      have en := ZhB mg
      rcases ZaN l (-1) with ⟨h3, _⟩ | ⟨q, hq, h3, h4, _⟩
      · omega
      · rw [en, h3]
        have hem := (mg q hq).empty (by omega)
        refine .inr ⟨q, ⟨rfl, ?_, by simp, hq, rfl, by simp only [Int.toNat_natCast]; rw [Zav hq], fun j hj => ?_, fun j hj hne => ?_, .inr ⟨by rw [hem]; rfl, by simp only [Int.toNat_natCast], hno⟩⟩⟩
        · simp only [Int.toNat_natCast]
          refine ZjZ (k := q) hm (by simp) (by omega) (by omega) (fun j hj hne => .inl (Zap (fun e => hne e.symm) _)) (by rw [Zav hq]; exact ⟨p0, p1⟩) (fun j hj hne => by rw [Zav hq]; exact hno j hj)
        · simp only [Int.toNat_natCast]
          by_cases e : q = j
          · subst e
            rw [Zav hq, hem]
            rfl
          · rw [Zap e]
        · simp only [Int.toNat_natCast]
          rw [Zap (fun e => hne e.symm)]
    · have ef : fnd l h.toNat = rnd (2 * l.length) l h.toNat := if_neg hn
      rw [ef]
      have kp := Zev (2 * l.length) l h.toNat hhn
      rcases kp.found with hat | ⟨q, hq, hat, hpin⟩
      · rw [if_pos (by rw [hat]; decide)]
        exact .inl ⟨rfl, fun k hk => Zn0 hhn hat hk, hno⟩
      · rw [if_neg (by rw [hat]; omega), hat]
        simp only [Int.toNat_natCast]
        have hq' : q < (rnd (2 * l.length) l h.toNat).l.length := by rw [kp.len]; exact hq
        have hpos : ∀ j, j < l.length → 0 ≤ (fr l j).page := by
          intro j hj
          rcases mg j hj with g | g
          · exfalso
            have en := ZhB mg
            rcases ZaN l (-1) with ⟨_, h4⟩ | ⟨i, _, h4, _⟩
            · exact h4 j hj (by rw [g]; rfl)
            · omega
          · exact g.1
        refine .inr ⟨q, ⟨rfl, ?_, by simp [kp.len], hq, rfl, by rw [Zav hq'], fun j hj => ?_, fun j hj hne => by rw [Zap (fun e => hne e.symm), kp.page], .inr ⟨hpin, kp.page q, hno⟩⟩⟩
        · refine ZjZ (k := q) hm (by simp [kp.len]) (by show (0 : Int) ≤ ((_ : Nat) : Int); omega) (by have := kp.hand; show ((_ : Nat) : Int) < _; omega) (fun j hj hne => .inr ⟨hpos j hj, by rw [Zap (fun e => hne e.symm), kp.page]⟩) (by rw [Zav hq']; exact ⟨p0, p1⟩) (fun j hj hne => by rw [Zav hq']; exact hno j hj)
        · by_cases e : q = j
          · subst e
            rw [Zav hq', hpin]
          · rw [Zap e, kp.pin]
  · rw [ZfJ hp hi]
    refine .inr ⟨i, ⟨rfl, ?_, by simp, hil, rfl, by rw [(ZbW l i i true).1]; exact hpi, fun j _ => (ZbW l i j true).2, fun j _ _ => (ZbW l i j true).1, .inl ⟨hpi, rfl⟩⟩⟩
    refine ZjZ (k := i) hm (by simp) m3 m4 (fun j hj hne => .inl (Zap (fun e => hne e.symm) _)) (by rw [(ZbW l i i true).1, hpi]; exact ⟨p0, p1⟩) (fun j hj hne => ?_)
    rw [(ZbW l i i true).1, hpi]
    exact fun x => hne (Gds.one mg hj hil (x.trans hpi.symm) (by rw [x]; exact p0))
theorem Bx.start {w3:World}(ho:OwnS w3 ⟨some ⟨b,o,none⟩,len,cap⟩ l)(h:Nat):Bx (w3.alloc (.cells #[.slice (some ⟨b,o,none⟩) len cap,.int .i64 (h:Int)] 40)) (w3.alloc (.cells #[.slice (some ⟨b,o,none⟩) len cap,.int .i64 (h:Int)] 40)) w3.heap.size b o len cap l h∧w3.heap.size≠b:=by
 refine⟨⟨Zbf w3 _ _,ho.below (Zaa w3 _),Frm.refl _ _⟩,?_⟩;have:=Own.lt ho (k:=b) rfl;omega
theorem Bx.to {B:Nat}(x:Bx w' wr g b o len cap l h)(hb:Below B w w')(hB:B≤w'.heap.size)(hg:B≤g)(hb':B≤b):Below B w wr:=
 hb.trans (x.frm.below hB (fun k hk=>by rcases hk with e | e <;> rw [e] <;> assumption))
theorem Bx.sp (x:Bx w wr g b o len cap l h)(aa:g≠b)(i:Nat)(hi:i<len)(y:Sp):∃W,(Instr.storeAt 130 (.pointer (some ⟨b,o+i*3,none⟩)) y.val).run Tryz.prog wr=.ok () W∧Bx w W g b o len cap (l.set i y) h:=by
 obtain⟨W,ab,k,f⟩:=ZoD wr b o len cap l x.own i hi y;exact⟨W,ab,x.ck.off f aa,k,x.frm.trans f (fun _ _ e=>.inr e)⟩
theorem Zmr (hp:isPg p=true):frm l p=ixP l p:=if_pos hp
theorem Zkx:∀(k:Nat)(l:List Sp)(h:Nat),(rnd k l h).at_ = -1∨∃q:Nat,(rnd k l h).at_=(q:Int)
 | 0,_,_=>.inl rfl
 | k+1,l,h=>by
  unfold rnd
  split
  · exact Zkx k _ _
  · split
    · exact Zkx k _ _
    · exact .inr ⟨h,rfl⟩
theorem ZnV (l:List Sp)(h:Nat):(fnd l h).at_ = -1∨∃q:Nat,(fnd l h).at_=(q:Int):=by
 unfold fnd;split
 · rename_i hn;exact .inr ⟨(ixN l).toNat,(Int.toNat_of_nonneg hn).symm⟩
 · exact Zkx _ _ _
theorem Bx.again (x:Bx w wr g b o len cap l h):Bx wr wr g b o len cap l h:=⟨x.ck,x.own,Frm.refl _ _⟩
theorem ZkH {D:Nat→Prop}(w:World)(v:Sl)(h:Int)(l:List Sp)(hg:Gs D w v l)(p:Int)(hm:may l h=true)(hp:isPg p=true)(i:Nat)(hi:ixP l p=(i:Int))(hil:i<l.length) :
    Calls Tryz.prog 117 #[ckV v h,.int .i64 p] w fun e w'=>Below w.heap.size w w'∧∃s:Sl,e=.returned (.tuple #[ckV s h,.int .i64 (i:Int),.int .i64 (-1),.int .i64 0])∧Gs (fun k=>w.heap.size≤k) w' s (l.set i ⟨(fr l i).page,true,(fr l i).pin⟩):=by
  obtain⟨_,_,h0,_,_⟩:=ZaI.1 hm
  obtain⟨n,rfl⟩:=Int.eq_ofNat_of_zero_le h0
  have hT:=Tb.start (h:=(n:Int)) hg
  have HC:=hide (Zda _ v (n:Int) l hT.g)
  rw [ZfS hm] at HC
  have HT:=hide hT
  have HP:=hide (ZbI p)
  have HFO:Hid (∀W,Gs D W v l→_):=fun W hW=>by have:=ZcP W v (n:Int) l hW p;rwa [Zmr hp,hi] at this
  rw [hp] at HP
  have HCP:Hid (∀W,Tb D w W v (n:Int) l→Calls Tryz.prog 115 #[ckV v (n:Int)] W fun e w'=>Below W.heap.size W w'∧∃s:Sl,e=.returned (ckV s (n:Int))∧OwnS w' s l∧s.len=v.len∧∀k,s.blk=some k→W.heap.size≤k):=fun W hW=>ZcA W v _ l hW.g
  have hbig:v.len≤1000000:=hg.big
  have hlv:i<v.len:=by rw [← hg.len];exact hil
  clear hg hT hp hi hil hm h0
  obtain⟨a,len,cap⟩:=v
  unfold ckV Sl.val at *
  simp only at *
  go_enter Tryz.func117,Tryz.ntmps117
  go_wp2_with fail
  refine HC.out.mono ?_
  rintro e w1 ⟨rfl,hb1⟩
  have hT1:=HT.out.below hb1
  have c0:=hT1.k2.c0
  have c1:=hT1.k2.c1
  have HT1:=hide hT1
  clear hT1 hb1 HT
  unfold Sl.val at c0
  simp only at c0
  go_wp2_with fail
  refine(HP.out _).mono ?_
  rintro e w2 ⟨rfl,hw2⟩
  obtain rfl:=hw2.symm
  go_wp2_with fail
  refine(HCP.out _ HT1.out).mono ?_
  rintro e w2 ⟨hb2,s,rfl,ho,hl,hk⟩
  obtain⟨b,o,ha⟩:=ho.pos (by rw [hl];omega)
  obtain⟨sa,sl,sc⟩:=s
  replace ha:sa=some ⟨b,o,none⟩:=ha
  replace hl:sl=len:=hl
  subst ha
  subst hl
  have hbb:w1.heap.size≤b:=hk b rfl
  obtain⟨hx,hne⟩:=Bx.start ho n
  have hA:=Zaa w2 (.cells #[.slice (some ⟨b,o,none⟩) sl sc,.int .i64 (n:Int)] 40)
  have hb3:=Zaf hb2 hA
  have hT3:=HT1.out.below hb3
  have d0:=hT3.k2.c0
  have d1:=hT3.k2.c1
  have HT3:=hide hT3
  have HX:=hide hx
  have HB3:=hide hb3
  have HS2:=hide hb2.size
  clear hb2 ho hk hx hA hb3 hT3
  unfold ckV Sl.val at *
  simp only at *
  go_wp2_with fail
  generalize w2.alloc (.cells #[.slice (some ⟨b,o,none⟩) sl sc,.int .i64 (n:Int)] 40)=W3 at *
  refine(HFO.out _ HT3.out.g).mono ?_
  rintro e w4 ⟨rfl,hb4⟩
  have hx4:=HX.out.below hb4
  obtain⟨W5,hst5,hx5⟩:=hx4.use hne i hlv true
  have hE5:=hx5.to HB3.out (Nat.le_trans HS2.out (by have:=HX.out.ck.lt;omega)) HS2.out hbb
  have hT5:=HT1.out.below hE5
  obtain⟨W6,hst6,k6,f6,hB6⟩:=hT5.lay ⟨some ⟨b,o,none⟩,sl,sc⟩ (n:Int)
  have HST5:=hide hst5
  have HST6:=hide hst6
  have HK6:=hide k6
  have HB6:=hide hB6
  have hsz:=HT1.out.k4.lt
  have HG:=hide (((hx5.own.gs (D:=fun k=>w1.heap.size≤k) (fun k hk=>by have e:some b=some k:=hk;cases e;exact hbb) hbig).off f6 hsz).mono (fun k hk _=>(by have:=HT1.out.e.size;omega:w.heap.size≤k)))
  have e0:=hx4.ck.c0
  have g0:=hx5.ck.c0
  have g1:=hx5.ck.c1
  have i2:(i:Int)<(sl:Int):=by omega
  clear hx4 hx5 hE5 hT5 hst5 hst6 k6 f6 hB6 hsz hb4 HT3 HX HB3 HS2 HT1 HCP HFO HP
  unfold ckV Sl.val at *
  simp only at *
  go_wp2_with (first | refine Zab _ rfl rfl 4 (.tmp 35) (.const (.bool true)) rfl (.pointer (some ⟨b,o+i*3+1,none⟩)) (.bool true) rfl rfl W5 HST5.out ?_ | refine Zab _ rfl rfl 40 (.tmp 4) (.tmp 36) rfl (.pointer (some ⟨w.heap.size+1,0,none⟩)) (.agg #[.slice (some ⟨b,o,none⟩) sl sc,.int .i64 (n:Int)]) rfl rfl W6 HST6.out ?_)
  refine bodyPost_ret (Za7 (v:=⟨some ⟨b,o,none⟩,sl,sc⟩) rfl HK6.out _ rfl rfl rfl rfl) rfl ?_
  exact⟨HB6.out,⟨some ⟨b,o,none⟩,sl,sc⟩,rfl,HG.out⟩
theorem ZiT {D:Nat→Prop}(w:World)(v:Sl)(h:Int)(l:List Sp)(hg:Gs D w v l)(p:Int)(hm:may l h=true)(hp:isPg p=true)(hi:ixP l p = -1) :
    Calls Tryz.prog 117 #[ckV v h,.int .i64 p] w fun e w'=>Below w.heap.size w w'∧∃s:Sl,e=.returned (.tuple #[ckV s (touch l h p).h,.int .i64 (touch l h p).at_,.int .i64 (touch l h p).was,.int .i64 (touch l h p).e])∧Gs (fun k=>w.heap.size≤k) w' s (touch l h p).l:=by
  obtain⟨hl1,hl64,h0,hh0,_⟩:=ZaI.1 hm
  obtain⟨n,rfl⟩:=Int.eq_ofNat_of_zero_le h0
  have HTF:=hide (Zd9 hm hp hi)
  simp only [Int.toNat_natCast] at HTF
  have hT:=Tb.start (h:=(n:Int)) hg
  have HC:=hide (Zda _ v (n:Int) l hT.g)
  rw [ZfS hm] at HC
  have HT:=hide hT
  have HP:=hide (ZbI p)
  have HFO:Hid (∀W,Gs D W v l→_):=fun W hW=>by have:=ZcP W v (n:Int) l hW p;rwa [Zmr hp,hi] at this
  rw [hp] at HP
  have HCP:Hid (∀W,Tb D w W v (n:Int) l→Calls Tryz.prog 115 #[ckV v (n:Int)] W fun e w'=>Below W.heap.size W w'∧∃s:Sl,e=.returned (ckV s (n:Int))∧OwnS w' s l∧s.len=v.len∧∀k,s.blk=some k→W.heap.size≤k):=fun W hW=>ZcA W v _ l hW.g
  have hbig:v.len≤1000000:=hg.big
  have hv1:1≤v.len:=by rw [← hg.len];exact hl1
  have hv64:v.len≤64:=by rw [← hg.len];exact hl64
  have hn:n<v.len:=by rw [← hg.len];omega
  clear hg hT hp hi hm h0 hl1 hl64 hh0
  obtain⟨a,len,cap⟩:=v
  unfold ckV Sl.val at *
  simp only at *
  go_enter Tryz.func117,Tryz.ntmps117
  go_wp2_with fail
  refine HC.out.mono ?_
  rintro e w1 ⟨rfl,hb1⟩
  have hT1:=HT.out.below hb1
  have c0:=hT1.k2.c0
  have c1:=hT1.k2.c1
  have HT1:=hide hT1
  clear hT1 hb1 HT
  unfold Sl.val at c0
  simp only at c0
  go_wp2_with fail
  refine(HP.out _).mono ?_
  rintro e w2 ⟨rfl,hw2⟩
  obtain rfl:=hw2.symm
  go_wp2_with fail
  refine(HCP.out _ HT1.out).mono ?_
  rintro e w2 ⟨hb2,s,rfl,ho,hl,hk⟩
  obtain⟨b,o,ha⟩:=ho.pos (by rw [hl];omega)
  obtain⟨sa,sl,sc⟩:=s
  replace ha:sa=some ⟨b,o,none⟩:=ha
  replace hl:sl=len:=hl
  subst ha
  subst hl
  have hbb:w1.heap.size≤b:=hk b rfl
  obtain⟨hx,hne⟩:=Bx.start ho n
  have hA:=Zaa w2 (.cells #[.slice (some ⟨b,o,none⟩) sl sc,.int .i64 (n:Int)] 40)
  have hb3:=Zaf hb2 hA
  have hT3:=HT1.out.below hb3
  have d0:=hT3.k2.c0
  have d1:=hT3.k2.c1
  have HT3:=hide hT3
  have HX:=hide hx
  have HB3:=hide hb3
  have HS2:=hide hb2.size
  clear hb2 ho hk hx hA hb3 hT3
  unfold ckV Sl.val at *
  simp only at *
  go_wp2_with fail
  generalize w2.alloc (.cells #[.slice (some ⟨b,o,none⟩) sl sc,.int .i64 (n:Int)] 40)=W3 at *
  refine(HFO.out _ HT3.out.g).mono ?_
  rintro e w4 ⟨rfl,hb4⟩
  have hx4:=(HX.out.below hb4).again
  have HFD:=hide (Zlq w4 w2.heap.size b o sl sc l n hx4 hne hv1 hv64 hn)
  have hE4:=Zaf HB3.out hb4
  have HE4:=hide hE4
  have HG4:Hid (w1.heap.size≤w4.heap.size):=hE4.size
  clear hx4 hE4 hb4 HX HB3 HFO HP
  rcases ZnV l n with hat | ⟨q,hat⟩
  · rw [hat] at HFD
    have e:touch l (n:Int) p=⟨l,(n:Int),-1,-1,11⟩:=by rw [HTF.out,if_pos (by rw [hat];decide)]
    have HE:=hide e
    clear e hat HTF
    go_wp2_with fail
    refine HFD.out.mono ?_
    rintro e w5 ⟨rfl,hx5,_,_,_⟩
    have hE5:=hx5.to HE4.out HG4.out HS2.out hbb
    have hT5:=HT1.out.below hE5
    have d0:=hT5.k2.c0
    have d1:=hT5.k2.c1
    have HT5:=hide hT5
    clear hx5 hE5 hT5 HFD HE4 HG4
    unfold Sl.val at d0
    simp only at d0
    go_wp2_with fail
    refine(HCP.out _ HT5.out).mono ?_
    rintro e w6 ⟨hb6,s,rfl,ho,hl,hk⟩
    have hT6:=HT5.out.below hb6
    obtain⟨W,hst,k,f,hB⟩:=hT6.lay s (n:Int)
    have HST:=hide hst
    have HK:=hide k
    have HB:=hide hB
    have hsz:=HT5.out.k4.lt
    have HG:=hide (((ho.gs (D:=fun k=>w5.heap.size≤k) hk (by omega)).off f hsz).mono (fun k hk _=>(by have:=HT5.out.e.size;omega:w.heap.size≤k)))
    clear hT6 hst k f hB hb6 ho hk hsz
    obtain⟨ra,rl,rc⟩:=s
    unfold ckV Sl.val at *
    simp only at *
    go_wp2_with (refine Zab _ rfl rfl 40 (.tmp 4) (.tmp 42) rfl (.pointer (some ⟨w.heap.size+1,0,none⟩)) (.agg #[.slice ra rl rc,.int .i64 (n:Int)]) rfl rfl W HST.out ?_)
    refine bodyPost_ret (Za7 (v:=⟨ra,rl,rc⟩) rfl HK.out _ rfl rfl rfl rfl) rfl ?_
    rw [HE.out]
    exact⟨HB.out,⟨ra,rl,rc⟩,rfl,HG.out⟩
  · rw [hat] at HFD
    have e:touch l (n:Int) p=⟨(fnd l n).l.set q ⟨p,true,false⟩,((fnd l n).h:Int),(q:Int),(fr (fnd l n).l q).page,0⟩:=by rw [HTF.out,if_neg (by rw [hat];omega),hat];rfl
    have HE:=hide e
    clear e hat HTF
    generalize fnd l n=R at *
    obtain⟨rl,rh,ra⟩:=R
    simp only at *
    go_wp2_with fail
    refine HFD.out.mono ?_
    rintro e w5 ⟨rfl,hx5,hrl,hrh,hq⟩
    have hqs:q<sl:=by omega
    obtain⟨W6,hst6,hx6⟩:=hx5.sp hne q hqs ⟨p,true,false⟩
    have hE6:=hx6.to HE4.out HG4.out HS2.out hbb
    have hT6:=HT1.out.below hE6
    obtain⟨W7,hst7,k7,f7,hB7⟩:=hT6.lay ⟨some ⟨b,o,none⟩,sl,sc⟩ (rh:Int)
    have HST6:=hide hst6
    have HST7:=hide hst7
    have HK7:=hide k7
    have HB7:=hide hB7
    have hsz:=HT1.out.k4.lt
    have HG:=hide (((hx6.own.gs (D:=fun k=>w1.heap.size≤k) (fun k hk=>by have e:some b=some k:=hk;cases e;exact hbb) hbig).off f7 hsz).mono (fun k hk _=>(by have:=HT1.out.e.size;omega:w.heap.size≤k)))
    have e0:=hx5.ck.c0
    obtain⟨q0,q1,q2⟩:=hx5.own.cells rfl hqs
    have g0:=hx6.ck.c0
    have g1:=hx6.ck.c1
    have i2:(q:Int)<(sl:Int):=by omega
    have i3:¬(q:Int) = -1:=by omega
    clear hx5 hx6 hE6 hT6 hst6 hst7 k7 f7 hB7 hsz HT3 HS2 HT1 HCP HFD HE4 HG4 hrl
    unfold ckV Sl.val Sp.val at *
    simp only at *
    go_wp2_with (first | refine Zab _ rfl rfl 130 (.tmp 54) (.tmp 53) rfl (.pointer (some ⟨b,o+q*3,none⟩)) (.agg #[.int .i64 p,.bool true,.bool false]) rfl rfl W6 HST6.out ?_ | refine Zab _ rfl rfl 40 (.tmp 4) (.tmp 55) rfl (.pointer (some ⟨w.heap.size+1,0,none⟩)) (.agg #[.slice (some ⟨b,o,none⟩) sl sc,.int .i64 (rh:Int)]) rfl rfl W7 HST7.out ?_)
    refine bodyPost_ret (Za7 (v:=⟨some ⟨b,o,none⟩,sl,sc⟩) rfl HK7.out _ rfl rfl rfl rfl) rfl ?_
    rw [HE.out]
    exact⟨HB7.out,⟨some ⟨b,o,none⟩,sl,sc⟩,rfl,HG.out⟩
theorem ZkG {D:Nat→Prop}(w:World)(v:Sl)(h:Int)(l:List Sp)(hg:Gs D w v l)(p:Int)(hm:may l h=true) :
    Calls Tryz.prog 117 #[ckV v h,.int .i64 p] w fun e w'=>Below w.heap.size w w'∧∃s:Sl,e=.returned (.tuple #[ckV s (touch l h p).h,.int .i64 (touch l h p).at_,.int .i64 (touch l h p).was,.int .i64 (touch l h p).e])∧Gs (fun k=>w.heap.size≤k) w' s (touch l h p).l:=by
  cases hp:isPg p with
  | false =>
   rw [Zg7 hp];exact ZkI w v h l hg p hm hp
  | true =>
   rcases ZaN l p with ⟨h1,_⟩ | ⟨i,hi,h1,_,_⟩
   · exact ZiT w v h l hg p hm hp h1
   · rw [ZfJ hp h1];exact ZkH w v h l hg p hm hp i h1 hi
theorem ZjB {h:Int}(hm:may l h=true)(p:Int):(frm l p = -1∧(p<0∨ixP l p<0))∨∃i,i<l.length∧frm l p=(i:Int)∧ixP l p=(i:Int)∧0≤p∧p<64:=by
 obtain⟨_,_,_,_,mg⟩:=ZaI.1 hm;cases hp:isPg p with
 | false =>
  refine .inl ⟨if_neg (by rw [hp];decide),?_⟩;rcases Int.lt_or_le p 0 with h1 | h1
  · exact .inl h1
  · rcases ZaN l p with ⟨h2,_⟩ | ⟨i,hi,h2,h3,_⟩
    · exact .inr (by omega)
    · have:=(mg i hi).bound;rw [ZaY.2 ⟨h1,by omega⟩] at hp;cases hp
 | true =>
  have e:frm l p=ixP l p:=if_pos hp;obtain⟨p0,p1⟩:=ZaY.1 hp;rcases ZaN l p with ⟨h2,_⟩ | ⟨i,hi,h2,h3,_⟩
  · exact .inl ⟨e.trans h2,.inr (by omega)⟩
  · exact .inr ⟨i,hi,e.trans h2,h2,p0,p1⟩
theorem Zh3 (h:p<0∨ixP l p<0):dropC l p=⟨l,3⟩:=if_pos h
theorem Zgb (h:0≤p)(hi:ixP l p=(i:Int))(hp:(fr l i).pin=true):dropC l p=⟨l,1⟩:=by
 unfold dropC;rw [if_neg (by omega),hi];simp [hp]
theorem Zgc (h:0≤p)(hi:ixP l p=(i:Int))(hp:(fr l i).pin=false):dropC l p=⟨l.set i Sp.none,0⟩:=by
 unfold dropC;rw [if_neg (by omega),hi];simp [hp]
theorem Zle {D:Nat→Prop}(w:World)(v:Sl)(h:Int)(l:List Sp)(hg:Gs D w v l)(p:Int)(hm:may l h=true) :
    Calls Tryz.prog 94 #[ckV v h,.int .i64 p] w fun e w'=>Below w.heap.size w w'∧∃s:Sl,e=.returned (.tuple #[ckV s h,.int .i64 (dropC l p).e])∧Gs (fun k=>w.heap.size≤k) w' s (dropC l p).l:=by
  obtain⟨hl1,hl64,h0,hh0,_⟩:=ZaI.1 hm
  obtain⟨n,rfl⟩:=Int.eq_ofNat_of_zero_le h0
  have HFC:=hide (ZjB hm p)
  have hT:=Tb.start (h:=(n:Int)) hg
  have HC:=hide (Zda _ v (n:Int) l hT.g)
  rw [ZfS hm] at HC
  have HT:=hide hT
  have HFO:Hid (∀W,Gs D W v l→_):=fun W hW=>ZcP W v (n:Int) l hW p
  have HCP:Hid (∀W,Tb D w W v (n:Int) l→Calls Tryz.prog 115 #[ckV v (n:Int)] W fun e w'=>Below W.heap.size W w'∧∃s:Sl,e=.returned (ckV s (n:Int))∧OwnS w' s l∧s.len=v.len∧∀k,s.blk=some k→W.heap.size≤k):=fun W hW=>ZcA W v _ l hW.g
  have hbig:v.len≤1000000:=hg.big
  have hv1:1≤v.len:=by rw [← hg.len];exact hl1
  have HLV:Hid (l.length=v.len):=hg.len
  clear hg hT hm h0 hl1 hl64 hh0
  obtain⟨a,len,cap⟩:=v
  unfold ckV Sl.val at *
  simp only at *
  go_enter Tryz.func94,Tryz.ntmps94
  go_wp2_with fail
  refine HC.out.mono ?_
  rintro e w1 ⟨rfl,hb1⟩
  have hT1:=HT.out.below hb1
  have c0:=hT1.k2.c0
  have c1:=hT1.k2.c1
  have HT1:=hide hT1
  clear hT1 hb1 HT
  unfold Sl.val at c0
  simp only at c0
  go_wp2_with fail
  refine(HCP.out _ HT1.out).mono ?_
  rintro e w2 ⟨hb2,s,rfl,ho,hl,hk⟩
  obtain⟨b,o,ha⟩:=ho.pos (by rw [hl];omega)
  obtain⟨sa,sl,sc⟩:=s
  replace ha:sa=some ⟨b,o,none⟩:=ha
  replace hl:sl=len:=hl
  subst ha
  subst hl
  have hbb:w1.heap.size≤b:=hk b rfl
  obtain⟨hx,hne⟩:=Bx.start ho n
  have hA:=Zaa w2 (.cells #[.slice (some ⟨b,o,none⟩) sl sc,.int .i64 (n:Int)] 40)
  have hb3:=Zaf hb2 hA
  have hT3:=HT1.out.below hb3
  have d0:=hT3.k2.c0
  have d1:=hT3.k2.c1
  have HT3:=hide hT3
  have HX:=hide hx
  have HB3:=hide hb3
  have HS2:=hide hb2.size
  clear hb2 ho hk hx hA hb3 hT3
  unfold ckV Sl.val at *
  simp only at *
  go_wp2_with fail
  generalize w2.alloc (.cells #[.slice (some ⟨b,o,none⟩) sl sc,.int .i64 (n:Int)] 40)=W3 at *
  have HFR:=hide (HFO.out _ HT3.out.g)
  rcases HFC.out with ⟨hf,hno⟩ | ⟨i,hil,hf,hi,hp0,hp1⟩
  · rw [hf] at HFR
    have HE:=hide (Zh3 hno)
    clear hf hno HFC
    refine HFR.out.mono ?_
    rintro e w4 ⟨rfl,hb4⟩
    have hx4:=HX.out.below hb4
    have hE4:=hx4.to HB3.out (Nat.le_trans HS2.out (by have:=HX.out.ck.lt;omega)) HS2.out hbb
    have hT4:=HT1.out.below hE4
    obtain⟨W6,hst6,k6,f6,hB6⟩:=hT4.lay ⟨some ⟨b,o,none⟩,sl,sc⟩ (n:Int)
    have HST6:=hide hst6
    have HK6:=hide k6
    have HB6:=hide hB6
    have hsz:=HT1.out.k4.lt
    have HG:=hide (((hx4.own.gs (D:=fun k=>w1.heap.size≤k) (fun k hk=>by have e:some b=some k:=hk;cases e;exact hbb) hbig).off f6 hsz).mono (fun k hk _=>(by have:=HT1.out.e.size;omega:w.heap.size≤k)))
    have g0:=hx4.ck.c0
    have g1:=hx4.ck.c1
    clear hx4 hE4 hT4 hst6 k6 f6 hB6 hsz hb4 HT3 HX HB3 HS2 HT1 HCP HFO HFR
    unfold ckV Sl.val at *
    simp only at *
    go_wp2_with (refine Zab _ rfl rfl 40 (.tmp 4) (.tmp 22) rfl (.pointer (some ⟨w.heap.size+1,0,none⟩)) (.agg #[.slice (some ⟨b,o,none⟩) sl sc,.int .i64 (n:Int)]) rfl rfl W6 HST6.out ?_)
    refine bodyPost_ret (ZaC (v:=⟨some ⟨b,o,none⟩,sl,sc⟩) rfl HK6.out _ rfl rfl) rfl ?_
    rw [HE.out]
    exact⟨HB6.out,⟨some ⟨b,o,none⟩,sl,sc⟩,rfl,HG.out⟩
  · rw [hf] at HFR
    have hlv:i<sl:=by have:=HLV.out;omega
    have i2:(i:Int)<(sl:Int):=by omega
    cases hpn:(fr l i).pin with
    | true =>
     have HE:=hide (Zgb hp0 hi hpn)
     have HPN:=hide hpn
     clear hf hil hi hp0 hp1 HFC hpn
     refine HFR.out.mono ?_
     rintro e w4 ⟨rfl,hb4⟩
     have hx4:=HX.out.below hb4
     have hE4:=hx4.to HB3.out (Nat.le_trans HS2.out (by have:=HX.out.ck.lt;omega)) HS2.out hbb
     have hT4:=HT1.out.below hE4
     obtain⟨vb,vo,ha,q0,q1,q2⟩:=hT4.g.cell i hlv
     replace ha:a=some ⟨vb,vo,none⟩:=ha
     subst ha
     rw [HPN.out] at q2
     have r0:=hT4.k2.c0
     obtain⟨W6,hst6,k6,f6,hB6⟩:=hT4.lay ⟨some ⟨b,o,none⟩,sl,sc⟩ (n:Int)
     have HST6:=hide hst6
     have HK6:=hide k6
     have HB6:=hide hB6
     have hsz:=HT1.out.k4.lt
     have HG:=hide (((hx4.own.gs (D:=fun k=>w1.heap.size≤k) (fun k hk=>by have e:some b=some k:=hk;cases e;exact hbb) hbig).off f6 hsz).mono (fun k hk _=>(by have:=HT1.out.e.size;omega:w.heap.size≤k)))
     have g0:=hx4.ck.c0
     have g1:=hx4.ck.c1
     clear hx4 hE4 hT4 hst6 k6 f6 hB6 hsz hb4 HT3 HX HB3 HS2 HT1 HCP HFO HFR
     unfold ckV Sl.val at *
     simp only at *
     go_wp2_with (refine Zab _ rfl rfl 40 (.tmp 4) (.tmp 29) rfl (.pointer (some ⟨w.heap.size+1,0,none⟩)) (.agg #[.slice (some ⟨b,o,none⟩) sl sc,.int .i64 (n:Int)]) rfl rfl W6 HST6.out ?_)
     refine bodyPost_ret (ZaC (v:=⟨some ⟨b,o,none⟩,sl,sc⟩) rfl HK6.out _ rfl rfl) rfl ?_
     rw [HE.out]
     exact⟨HB6.out,⟨some ⟨b,o,none⟩,sl,sc⟩,rfl,HG.out⟩
    | false =>
     have HE:=hide (Zgc hp0 hi hpn)
     have HPN:=hide hpn
     clear hf hil hi hp0 hp1 HFC hpn
     refine HFR.out.mono ?_
     rintro e w4 ⟨rfl,hb4⟩
     have hx4:=HX.out.below hb4
     have hE4:=hx4.to HB3.out (Nat.le_trans HS2.out (by have:=HX.out.ck.lt;omega)) HS2.out hbb
     have hT4:=HT1.out.below hE4
     obtain⟨vb,vo,ha,q0,q1,q2⟩:=hT4.g.cell i hlv
     replace ha:a=some ⟨vb,vo,none⟩:=ha
     subst ha
     rw [HPN.out] at q2
     have r0:=hT4.k2.c0
     have HX4:=hide hx4
     have HSZ4:Hid (w1.heap.size≤w4.heap.size):=hE4.size
     have HE4:=hide hE4
     clear hx4 hE4 hT4 hb4 HT3 HX HB3 HCP HFO HFR
     unfold ckV Sl.val at *
     simp only at *
     go_wp2_with fail
     refine Pl.q8 (ops:=Pl.find 10 ((Tryz.f94.body).getD .skip)) ?_
     refine ZnJ _ w2.heap.size b o sl sc i (n:Int) l HX4.out.ck HX4.out.own hlv hne (by rfl) rfl (by rfl) (by rfl) ?_
     intro u w5 ⟨k5,o5,f5⟩
     simp only [Act.put,List.setIfInBounds_toArray,List.set_cons_zero,List.set_cons_succ]
     have hE5:Below w1.heap.size w1 w5:=Below.more HE4.out f5 HSZ4.out hbb
     have hT5:=HT1.out.below hE5
     obtain⟨W6,hst6,k6,f6,hB6⟩:=hT5.lay ⟨some ⟨b,o,none⟩,sl,sc⟩ (n:Int)
     have HST6:=hide hst6
     have HK6:=hide k6
     have HB6:=hide hB6
     have hsz:=HT1.out.k4.lt
     have HG:=hide (((o5.gs (D:=fun k=>w1.heap.size≤k) (fun k hk=>by have e:some b=some k:=hk;cases e;exact hbb) hbig).off f6 hsz).mono (fun k hk _=>(by have:=HT1.out.e.size;omega:w.heap.size≤k)))
     have g0:=k5.c0
     have g1:=k5.c1
     clear k5 o5 f5 hE5 hT5 hst6 k6 f6 hB6 hsz HX4 HE4 HSZ4 HT1 HS2
     unfold ckV Sl.val at *
     simp only at *
     go_wp2_with (refine Zab _ rfl rfl 40 (.tmp 4) (.tmp 35) rfl (.pointer (some ⟨w.heap.size+1,0,none⟩)) (.agg #[.slice (some ⟨b,o,none⟩) sl sc,.int .i64 (n:Int)]) rfl rfl W6 HST6.out ?_)
     refine bodyPost_ret (ZaC (v:=⟨some ⟨b,o,none⟩,sl,sc⟩) rfl HK6.out _ rfl rfl) rfl ?_
     rw [HE.out]
     exact⟨HB6.out,⟨some ⟨b,o,none⟩,sl,sc⟩,rfl,HG.out⟩
theorem Pl.copyC {P:Program}{ops:Array Oper}{f:Nat→Value}(i:Nat)(t:TypeId)(x y:Operand)(v:Value)(w':World)(h:(Pl.op ops i).op=.call { callee:=.builtin .copy,args:=#[x,y],argTypes:=#[t,t] })(hx:Pl.inB n x=true)(hy:Pl.inB n y=true)
    (hv:∀ty,(Builtin.copy_ #[t,t] ty #[Pl.ev f x,Pl.ev f y]).run P w=.ok v w') :
    ∀A,Pl.At n A f→(execOp A.eval (Pl.op ops i)).run P w=.ok (.value v) w':=by
  intro A hA;unfold execOp;rw [h];simp [resolve,invoke,builtin,hA.ev x hx,hA.ev y hy,hv]
theorem Zm6:∀n:Fin 256,bits .and .u64 (n.val:Int) 4294967295=(n.val:Int):=by decide +kernel
theorem Zkc (n:Nat)(hn:n≤255)(w:World):Calls Tryz.prog 130 #[.int .u64 1,.int .u64 (n:Nat)] w fun e w'=>e=.returned (.tuple #[.int .u64 0,.int .u64 (n:Nat)])∧w'=w:=by
 (have ab:bits .and .u64 1 4294967295=1:=by decide +kernel);(have aa:bits .and .u64 0 4294967295=0:=by decide +kernel);have ac:bits .and .u64 (n:Int) 4294967295=(n:Int):=Zm6 ⟨n,by omega⟩;(have hd:(n:Int) / 4294967296=0:=by omega);(have hw:IntKind.u64.wrap (n:Int)=(n:Int):=by rw [IntKind.wrap_u64];omega);(have h0:IntKind.u64.wrap 0=0:=by decide);clear hn;go_enter Tryz.func130,Tryz.ntmps130;go_wp2_with fail;go_ret2;exact⟨by simp,rfl⟩
theorem mul_one (n:Nat)(hn:n≤255)(w:World):Calls Tryz.prog 118 #[.int .u64 1,.int .u64 (n:Nat)] w fun e w'=>e=.returned (.tuple #[.int .u64 0,.int .u64 (n:Nat)])∧w'=w:=by
 have H:=hide (Zkc n hn);go_enter Tryz.func118,Tryz.ntmps118;go_wp2_with fail;refine(H.out _).mono ?_;rintro e w' ⟨rfl,hw⟩;obtain rfl:=hw.symm;go_wp2_with fail;go_ret2;exact⟨rfl,rfl⟩
theorem Zg9 {ops:Array Oper}{rest:List Oper}{o:Oper}{a:Act}{Q:Exit→Act→World→Prop}(w:World)(ab:o.guard=none)(t:TypeId)(x y:Operand)(ho:o.op=.makeSlice t x y)(u u' v:Value)(hu:a.eval x=u)(hu':a.eval y=u')(w':World)(aa:(Instr.makeSlice t u u').run Tryz.prog w=.ok v w')(hK:wpList Tryz.prog ops Q rest (a.put o.dst v) w'):wpList Tryz.prog ops Q (o :: rest) a w:=by
 refine Zb3 w ab v w' ?_ hK;have e:execOp a.eval o=(do pure (.value (← Instr.makeSlice t (a.eval x) (a.eval y)))):=by
  unfold execOp;rw [ho]
 rw [e,hu,hu'];simp [aa]
def rp (n m:Nat):List Sp:=List.replicate m Sp.none ++ List.replicate (n-m) Sp.zero
theorem Zdo (h:m≤n):(rp n m).length=n:=by
 simp [rp];omega
theorem Zo3 (n:Nat):rp n n=List.replicate n Sp.none:=by simp [rp]
theorem Zo4 (h:j<m)(hm:m≤n):fr (rp n m) j=Sp.none:=by
 rw [ZdC (by rw [Zdo hm];omega)];unfold rp;rw [List.getElem_append_left (by simpa using h)];simp
theorem Zkz {c:Nat}(h:m+c≤n):Zau (rp n (m+c))=(Zau (rp n m)).take (m*3) ++ Zau (List.replicate c Sp.none) ++ (Zau (rp n m)).drop (m*3+c*3):=by
 have e1:(Zau (rp n m)).take (m*3)=Zau (List.replicate m Sp.none):=by
  unfold rp;rw [ZaV,List.take_append_of_le_length (by rw [Zan];simp),List.take_of_length_le (by rw [Zan];simp)]
 have e2:(Zau (rp n m)).drop (m*3+c*3)=Zau (List.replicate (n-(m+c)) Sp.zero):=by
  unfold rp;rw [ZaV,List.drop_append,Zan,List.length_replicate,List.drop_eq_nil_of_le (by rw [Zan,List.length_replicate];omega),List.nil_append,show m*3+c*3-m*3=c*3 by omega];rw [show n-m=c+(n-(m+c)) by omega,← List.replicate_append_replicate,ZaV,List.drop_append,List.drop_eq_nil_of_le (by rw [Zan];simp),Zan,List.length_replicate,Nat.sub_self];rfl
 rw [e1,e2,← ZaV,← ZaV];unfold rp;rw [List.replicate_append_replicate]
def Rp (w:World) (g n m:Nat):Prop:=w.heap[g]? = some (Obj.cells (Zau (rp n m)).toArray 130 (0,0))
theorem ZjW (n:Nat):madeCells (Value.agg #[.int .i64 0,.bool false,.bool false]).cells (n*3)=(Zau (rp n 0)).toArray:=by
 (have e:rp n 0=List.replicate n Sp.zero:=by simp [rp]);rw [e];apply Array.ext
 · simp [size_madeCells,Zan]
 · intro i h1 h2;(have hi:i<n*3:=by simpa [size_madeCells] using h1);have hg:=Zbn (List.replicate n Sp.zero) (i / 3) (i % 3) (by simp;omega) (by omega);rw [show i / 3*3+i % 3=i by omega] at hg;have hz:fr (List.replicate n Sp.zero) (i / 3)=Sp.zero:=by
    rw [ZdC (by simp;omega)];simp
   rw [hz] at hg;(have hl:i<(Zau (List.replicate n Sp.zero)).length:=by rw [Zan];simpa using hi);rw [List.getElem?_eq_getElem hl] at hg;(have hm:i % 3=0∨i % 3=1∨i % 3=2:=by omega);simp only [List.getElem_toArray];rcases hm with e | e | e <;> rw [e] at hg
   · have hg':some ((Zau (List.replicate n Sp.zero))[i])=some (Value.int .i64 0):=hg;rw [Option.some.inj hg'];simp [madeCells,Value.cells,e]
   · have hg':some ((Zau (List.replicate n Sp.zero))[i])=some (Value.bool false):=hg;rw [Option.some.inj hg'];simp [madeCells,Value.cells,e]
   · have hg':some ((Zau (List.replicate n Sp.zero))[i])=some (Value.bool false):=hg;rw [Option.some.inj hg'];simp [madeCells,Value.cells,e]
theorem Zi6 (n:Nat)(hn:n≤64)(w:World):(Instr.makeSlice 38 (.int .i64 (n:Nat)) (.int .i64 (n:Nat))).run Tryz.prog w=.ok (.slice (some ⟨w.heap.size,0,none⟩) n n) (w.alloc (.cells (Zau (rp n 0)).toArray 130)):=by
 obtain⟨i0,hi,ab,aa,ac⟩:=info_parts Zgh;have h:=run_makeSlice (P:=Tryz.prog) w 38 130 i0 _ Tryz.underlying38 hi ab .i64 .i64 (n:Nat) (n:Nat) (by omega) (by omega) (by rw [aa];simp;omega) (by rw [ac];simp;omega) (by omega);rw [aa,show (n:Int).toNat=n by omega,ZjW] at h;exact h
theorem Zg0 (w:World)(ty:TypeId)(g o dLen dCap:Nat)(a:Addr)(sLen sCap:Nat)(cur:Array Value)(cs:List Value)(c:Nat)(hc:c=Nat.min sLen dLen)
    (hg:w.heap[g]? = some (.cells cur 130 (0,0)))(hn:cs.length=c*3)
    (ab:∀j v,cs[j]? = some v→w.cell? (a.add j)=some v)(aa:o+cs.length≤cur.size)(h1:∀v∈cs,v.oneCell'=true) :
    (Builtin.copy_ #[38,38] ty #[.slice (some ⟨g,o,none⟩) dLen dCap,.slice (some a) sLen sCap]).run Tryz.prog w =
     .ok (.int .i64 (c:Int)) (w.setRow g (cur.toList.take o ++ cs ++ cur.toList.drop (o+cs.length)).toArray):=by
 obtain⟨i0,hi,ae,ad,af⟩:=info_parts Zgh;have hl:=run_loadCells_list (P:=Tryz.prog) w a cs ab;have ac:=run_storeCells_at Tryz.prog g o 130 cs 0 cur w hg (by simpa using aa) h1;rw [hn] at hl;simp [Builtin.copy_,run_underlying Tryz.underlying38,Builtin.lenOf,Builtin.firstCells,sizeOf,typeInfo,hi,ad,← hc,hl,ac,goInt]
theorem szSp (w:World):(sizeOf 130).run Tryz.prog w=.ok 3 w:=by
 obtain⟨i0,hi,ab,aa,ac⟩:=info_parts Zgh;simp [sizeOf,typeInfo,hi,aa]
theorem Zmo:Tryz.prog.elem 38=130:=by kernel_rfl
theorem Zhl (g n m:Nat)(h:m<n)(w:World):(Instr.sliceAt 38 (.slice (some ⟨g,0,none⟩) n n) (some (.int .i64 (m:Int))) none none).run Tryz.prog w=.ok (.slice (some ⟨g,m*3,none⟩) (n-m) (n-m)) w:=by
 (have aa:Tryz.prog.underlying 38=some (.slice (Tryz.prog.elem 38)):=by kernel_rfl);rw [run_sliceAt_slice w 38 _ _ _ _ aa,run_slice_l w 38 (some ⟨g,0,none⟩) n n aa .i64 (m:Nat) (by omega) (by omega),Zmo,szSp];(have:¬n=m:=by omega);simp [Result.andThen,sliced,this,Addr.add_lit]
theorem Zhm (g n m:Nat)(h:m<n)(h0:0<m)(w:World):(Instr.sliceAt 38 (.slice (some ⟨g,0,none⟩) n n) none (some (.int .i64 (m:Int))) none).run Tryz.prog w=.ok (.slice (some ⟨g,0,none⟩) m n) w:=by
 (have aa:Tryz.prog.underlying 38=some (.slice (Tryz.prog.elem 38)):=by kernel_rfl);rw [run_sliceAt_slice w 38 _ _ _ _ aa,run_slice_h w 38 (some ⟨g,0,none⟩) n n aa .i64 (m:Nat) (by omega) (by omega),Zmo,szSp];(have:¬n=0:=by omega);simp [Result.andThen,sliced,this,Addr.add_lit]
theorem Zgo {c:Nat}{v:Value}(h:(Zau (List.replicate c Sp.none))[j]? = some v):j / 3<c∧Sp.none.cells[j % 3]? = some v:=by
 have hl:=(List.getElem?_eq_some_iff.1 h).1;rw [Zan,List.length_replicate] at hl;have hg:=Zbn (List.replicate c Sp.none) (j / 3) (j % 3) (by simp;omega) (by omega);rw [show j / 3*3+j % 3=j by omega,h] at hg;have hz:fr (List.replicate c Sp.none) (j / 3)=Sp.none:=by
  rw [ZdC (by simp;omega)];simp
 rw [hz] at hg;exact⟨by omega,hg.symm⟩
theorem Rp.cell (h:Rp w g n m)(hm:m≤n){v:Value}(hj:j / 3<m)(hv:Sp.none.cells[j % 3]? = some v):w.cell? ⟨g,j,none⟩=some v:=by
 rw [cell_of_row _ _ _ _ _ _ h];have hg:=Zbn (rp n m) (j / 3) (j % 3) (by rw [Zdo hm];omega) (by omega);rw [show j / 3*3+j % 3=j by omega,Zo4 hj hm,hv] at hg;simpa using hg
theorem Zjj (g n m:Nat)(hm:m<n)(_h0:0<m)(w:World)(hg:Rp w g n m)(ty:TypeId) :
    ∃w',(Builtin.copy_ #[38,38] ty #[.slice (some ⟨g,m*3,none⟩) (n-m) (n-m),.slice (some ⟨g,0,none⟩) m n]).run Tryz.prog w=.ok (.int .i64 ((Nat.min m (n-m):Nat):Int)) w'∧Rp w' g n (m+Nat.min m (n-m))∧w'=w.setRow g (Zau (rp n (m+Nat.min m (n-m)))).toArray:=by
  have hc:Nat.min m (n-m)≤m∧Nat.min m (n-m)≤n-m:=⟨Nat.min_le_left _ _,Nat.min_le_right _ _⟩;have h:=Zg0 w ty g (m*3) (n-m) (n-m) ⟨g,0,none⟩ m n _ (Zau (List.replicate (Nat.min m (n-m)) Sp.none)) (Nat.min m (n-m)) rfl hg (by rw [Zan,List.length_replicate])
   (fun j v hj=>by
    obtain⟨h1,h2⟩:=Zgo hj;rw [Addr.add_lit,Nat.zero_add];exact hg.cell (Nat.le_of_lt hm) (by omega) h2) (by simp only [List.size_toArray,Zan,List.length_replicate,Zdo (Nat.le_of_lt hm)];omega) (Zcb _)
  have e:=Zkz (n:=n) (m:=m) (c:=Nat.min m (n-m)) (by omega);simp only [Zan,List.length_replicate] at h;rw [← e] at h;refine⟨_,h,?_,rfl⟩;exact setRow_heap w g _ _ _ _ hg
theorem Ziq (g b n:Nat)(h0:0<n)(w:World)(hg:Rp w g n 0)(hb:Cell3 w b 0 Sp.none)(ty:TypeId) :
    ∃w',(Builtin.copy_ #[38,38] ty #[.slice (some ⟨g,0,none⟩) n n,.slice (some ⟨b,0,none⟩) 1 1]).run Tryz.prog w=.ok (.int .i64 1) w'∧Rp w' g n 1∧w'=w.setRow g (Zau (rp n 1)).toArray:=by
  have h:=Zg0 w ty g 0 n n ⟨b,0,none⟩ 1 1 _ (Zau (List.replicate 1 Sp.none)) 1 (by symm;exact Nat.min_eq_left h0) hg rfl
   (fun j v hj=>by
    obtain⟨h1,h2⟩:=Zgo hj;rw [Addr.add_lit,Nat.zero_add];obtain⟨c0,c1,c2⟩:=hb;(have hm:j=0∨j=1∨j=2:=by omega);rcases hm with rfl | rfl | rfl
    · simp [Sp.none,Sp.cells] at h2;rw [← h2];exact c0
    · simp [Sp.none,Sp.cells] at h2;rw [← h2];exact c1
    · simp [Sp.none,Sp.cells] at h2;rw [← h2];exact c2) (by simp only [List.size_toArray,Zan,List.length_replicate,Zdo (Nat.zero_le n)];omega) (Zcb _)
  have e:=Zkz (n:=n) (m:=0) (c:=1) (by omega);simp only [Zan,List.length_replicate] at h;simp only [Nat.zero_mul] at e;rw [← e] at h;exact⟨_,h,setRow_heap w g _ _ _ _ hg,rfl⟩
theorem addN (a b:Nat)(x y:Operand)(h2:a+b≤9223372036854775807)(w:World):(do eqGuard .add 3 x y (.int .i64 (a:Int)) (.int .i64 (b:Int));binOp .add 3 (.int .i64 (a:Int)) (.int .i64 (b:Int)):Sem Value).run Tryz.prog w=.ok (.int .i64 ((a+b:Nat):Int)) w:=by
 (have:IntKind.i64.wrap ((a:Int)+(b:Int))=((a+b:Nat):Int):=by rw [IntKind.wrap_i64];omega);simp [go_sem,eqGuard,this]
theorem rep9 (w0 w:World)(g n m:Nat)(hm:m<n)(h0:0<m)(hn:n≤64)(hB:w0.heap.size≤g)(hg:Rp w g n m)(hW:Below w0.heap.size w0 w)
    {Q:Exit→Act→World→Prop}{A:Act}(hsz:A.tmps.size=48)(hdf:A.defers=[])(s7:A.tmps.getD 7 undef=.slice (some ⟨g,0,none⟩) n n)(s8:A.tmps.getD 8 undef=.int .i64 (m:Int))
    (hend:∀(u:Nat→Value) w',(Below w0.heap.size w0 w'∧Rp w' g n (m+Nat.min m (n-m)))→Q .normal (((((((((((A).put (some 38) (u 38)).put (some 39) (u 39)).put (some 40) (u 40)).put (some 41) (u 41)).put (some 42) (u 42)).put (some 43) (u 43)).put (some 44) (u 44)).put (some 45) (u 45)).put (some 46) (u 46)).put (some 8) (.int .i64 ((m+Nat.min m (n-m):Nat):Int))) w') :
    (Code.region 9 (Pl.find 9 ((Tryz.f103.body).getD .skip)) true).wp Tryz.prog Q A w:=by
  have hA:=Pl.At.same (v:=.int .i64 (m:Int)) (d:=8) (Pl.At.same (v:=.slice (some ⟨g,0,none⟩) n n) (d:=7) (Pl.At.here hsz hdf) s7) s8
  refine Pl.qa (S:=(fun w'=>Below w0.heap.size w0 w')) hA hW.drew ?_
  rw [show (Pl.find 9 ((Tryz.f103.body).getD .skip)).size=10 by kernel_rfl]
  refine Pl.q1 0 38 (.int .i64 (m:Int)) (Pl.q0) (Pl.q2 (.tmp 8)) hW.drew ?_
  refine Pl.q1 1 39 (.slice (some ⟨g,0,none⟩) n n) (Pl.q0) (Pl.q2 (.tmp 7)) hW.drew ?_
  refine Pl.q1 2 40 (.int .i64 (m:Int)) (Pl.q0) (Pl.q2 (.tmp 8)) hW.drew ?_
  refine Pl.q1 3 41 (.slice (some ⟨g,m*3,none⟩) (n-m) (n-m)) (Pl.q0) (Pl.qo 38 (.tmp 39) (some (.tmp 40)) none (Zhl g n m hm)) hW.drew ?_
  refine Pl.q1 4 42 (.slice (some ⟨g,0,none⟩) n n) (Pl.q0) (Pl.q2 (.tmp 7)) hW.drew ?_
  refine Pl.q1 5 43 (.int .i64 (m:Int)) (Pl.q0) (Pl.q2 (.tmp 8)) hW.drew ?_
  refine Pl.q1 6 44 (.slice (some ⟨g,0,none⟩) m n) (Pl.q0) (Pl.qo 38 (.tmp 42) none (some (.tmp 43)) (Zhm g n m hm h0)) hW.drew ?_
  obtain⟨w1,hrun,hg1,hw1⟩:=Zjj g n m hm h0 w.drew hg 3
  have hS1:Below w0.heap.size w0 w1:=by rw [hw1];exact below_setRow hW.drew hB _
  refine Pl.qf 7 45 (.int .i64 ((Nat.min m (n-m):Nat):Int)) w1 (Pl.q0) (Pl.copyC 7 38 (.tmp 41) (.tmp 44) _ _ (by kernel_rfl) (by decide) (by decide) (fun ty=>hrun)) hS1 ?_
  refine Pl.q1 8 46 (.int .i64 ((m+Nat.min m (n-m):Nat):Int)) (Pl.q0) (Pl.q9 .add 3 3 (.tmp 38) (.tmp 45) (.int .i64 (m:Int)) (.int .i64 ((Nat.min m (n-m):Nat):Int)) (addN m (Nat.min m (n-m)) _ _ (by have h1:Nat.min m (n-m)≤m:=Nat.min_le_left _ _;omega))) hS1 ?_
  refine Pl.q1 9 8 (.int .i64 ((m+Nat.min m (n-m):Nat):Int)) (Pl.q0) (Pl.qm (.tmp 46)) hS1 ?_
  refine Pl.q7 (fun A' hA'=>?_)
  rw [Pl.At.ext hA' ((((((((((hA.put 38 _).put 39 _).put 40 _).put 41 _).put 42 _).put 43 _).put 44 _).put 45 _).put 46 _).put 8 _)]
  exact hend hA'.fn _ ⟨hS1,hg1⟩
theorem ZiL (b n:Nat)(w:World)(hx:Cell3 w b 0 Sp.none)(h1:1≤n)(hn:n≤64) :
    Calls Tryz.prog 103 #[.slice (some ⟨b,0,none⟩) 1 1,.int .i64 (n:Int)] w fun e w'=>Below w.heap.size w w'∧∃g,e=.returned (.slice (some ⟨g,0,none⟩) n n)∧w.heap.size≤g∧Rp w' g n n:=by
  have HM:=hide (mul_one n (by omega));(have au:IntKind.u64.wrap (n:Int)=(n:Int):=by rw [IntKind.wrap_u64];omega);(have av:IntKind.i64.wrap (n:Int)=(n:Int):=by rw [IntKind.wrap_i64];omega);have an:=hide (Zi6 n hn w);have hA:=Zaa w (.cells (Zau (rp n 0)).toArray 130);have hr:Rp (w.alloc (.cells (Zau (rp n 0)).toArray 130)) w.heap.size n 0:=heap_alloc_new w _;have ai:=hx.below hA;generalize w.alloc (.cells (Zau (rp n 0)).toArray 130)=W1 at *;obtain⟨W2,ae,ah,aa⟩:=Ziq w.heap.size b n h1 W1 hr ai 3;(have aj:Hid (Below w.heap.size w W2):=by rw [aa];exact below_setRow hA (Nat.le_refl _) _);have ao:=hide ah;have al:=hide ae;clear hx hA hr ai aa ah ae;go_enter Tryz.func103,Tryz.ntmps103;go_wp2_with fail;refine(HM.out _).mono ?_;rintro e w' ⟨rfl,hw⟩;obtain rfl:=hw.symm;go_wp2_with (first | refine Zg9 _ rfl 38 (.tmp 29) (.tmp 29) rfl (.int .i64 (n:Int)) (.int .i64 (n:Int)) (.slice (some ⟨w.heap.size,0,none⟩) n n) rfl rfl W1 an.out ?_ | refine ZeH W1 rfl 38 (.tmp 31) (.tmp 32) rfl (.int .i64 1) W2 (fun _=>al.out) ?_);go_loopw [8] (fun i wr'=>∃m:Nat,m≤n∧0<m∧i=.int .i64 m∧Hid (Rp wr' w.heap.size n m)∧Hid (Below w.heap.size w wr')) (fun i _=>n-(intOf i).toNat)
  case atStart=>exact ⟨1,h1,by omega,rfl,ao,aj⟩
  case round =>
   obtain⟨m,hm,ab,rfl,hg,ac⟩:=hrel;rcases Nat.lt_or_ge m n with ap | ar
   · have HL:=hide ap;go_wp2_with fail;refine Pl.q8 (ops:=Pl.find 9 ((Tryz.f103.body).getD .skip)) ?_;refine rep9 w wr w.heap.size n m HL.out ab hn (Nat.le_refl _) hg.out ac.out (by rfl) (by rfl) (by rfl) (by rfl) ?_;intro u w2 ⟨ad,af⟩;simp only [Act.put,List.setIfInBounds_toArray,List.set_cons_zero,List.set_cons_succ];have ak:=hide ad;have am:=hide af;have aq:Nat.min m (n-m)≤n-m∧0<Nat.min m (n-m):=⟨Nat.min_le_right _ _,by rw [Nat.lt_min];omega⟩;clear ad af;generalize Nat.min m (n-m)=c2 at *;go_wp2_with fail;go_roundw
     case rel=>exact ⟨m+c2,by omega,by omega,by go_num,am,ak⟩
     case measure=>simp only [intOf];omega
   · (have ag:m=n:=by omega);(have HO:Hid (Rp wr w.heap.size n n):=by have:=hg.out;rw [ag] at this;exact this);clear ag;go_wp2_with fail;go_ret;exact⟨ac.out,_,rfl,Nat.le_refl _,HO.out⟩
theorem Rp.own (h:Rp w g n n)(hn:n≤64):OwnS w ⟨some ⟨g,0,none⟩,n,n⟩ (List.replicate n Sp.none):=by
 unfold Rp at h;rw [Zo3] at h;refine⟨by rw [Zan,List.length_replicate],.inr ⟨g,0,_,rfl,h,?_,Nat.le_refl _,by show n≤maxLen;unfold maxLen;omega,?_⟩⟩
 · simp [Zan]
 · rw [List.drop_zero,List.take_of_length_le (by simp [Zan])]
theorem Znl (n:Int)(hn:n<1∨64<n)(w:World):Calls Tryz.prog 79 #[.int .i64 n] w fun e w'=>Below w.heap.size w w'∧e=.returned (.tuple #[ckV Sl.nil 0,.int .i64 1]):=by
 have HB:=hide (Zaa w (.cells #[.slice none 0 0,.int .i64 0] 40));have HK:=hide (Zbf w (.slice none 0 0) 0);by_cases h1:n<1
 · clear hn;go_enter Tryz.func79,Tryz.ntmps79;go_wp2_with fail;refine bodyPost_ret (ZaC (v:=Sl.nil) rfl HK.out _ rfl rfl) rfl ?_;exact⟨HB.out,rfl⟩
 · (have h2:64<n:=by omega);clear hn;go_enter Tryz.func79,Tryz.ntmps79;go_wp2_with fail;refine bodyPost_ret (ZaC (v:=Sl.nil) rfl HK.out _ rfl rfl) rfl ?_;exact⟨HB.out,rfl⟩
theorem Zor (n:Nat)(h1:1≤n)(h64:n≤64)(w:World):Calls Tryz.prog 79 #[.int .i64 (n:Int)] w fun e w'=>Below w.heap.size w w'∧∃s:Sl,e=.returned (.tuple #[ckV s 0,.int .i64 0])∧Gs (fun k=>w.heap.size≤k) w' s (List.replicate n Sp.none):=by
 have i1:¬(n:Int)<1:=by omega
 have i2:¬(64:Int)<(n:Int):=by omega
 have HE:=hide Zde
 have HR:=hide (fun b W hx=>ZiL b n W hx h1 h64)
 have HB:=hide (Zaa w (.cells #[.slice none 0 0,.int .i64 0] 40))
 have HK:=hide (Zbf w (.slice none 0 0) 0)
 go_enter Tryz.func79,Tryz.ntmps79
 go_wp2_with fail
 refine(HE.out _).mono ?_
 rintro e w1 ⟨rfl,hb1⟩
 have HB1:=hide (Zaf HB.out hb1)
 have HK1:=hide (HK.out.below hb1)
 have HS:=hide (Zck w1 Sp.none)
 have hA:=Zaa w1 (.cells #[.int .i64 (-1),.bool false,.bool false] 130)
 have HB2:=hide (Zaf HB1.out hA)
 have HK2:=hide (HK1.out.below hA)
 clear hb1 HB HK hA
 unfold Sp.val Sp.none at *
 simp only at *
 go_wp2_with fail
 refine(HR.out w1.heap.size _ HS.out.cell3).mono ?_
 rintro e w2 ⟨hb2,g,rfl,hg,hr⟩
 have hb3:=Zaf HB2.out hb2
 have hk3:=HK2.out.below hb2
 obtain⟨W,hst,k,f⟩:=Zn9 w2 _ _ _ hk3 ⟨some ⟨g,0,none⟩,n,n⟩ 0
 have hgw:w.heap.size<g:=by
  have e1:=HK1.out.lt
  rw [ZaA] at hg
  omega
 have HG:=hide (((hr.own h64).off f (by omega)).gs (D:=fun k=>w.heap.size≤k) (fun k hk=>by have e:some g=some k:=hk;cases e;omega) (by show n≤_;omega))
 have HBW:=hide (Below.more hb3 f hb3.size (Nat.le_refl _))
 have HST:=hide hst
 have HKW:=hide k
 clear hb2 hg hr hb3 hk3 hst k f hgw HB1 HK1 HS HB2 HK2 HR HE
 unfold ckV Sl.val at *
 simp only at *
 go_wp2_with (refine Zab _ rfl rfl 40 (.tmp 2) (.tmp 15) rfl (.pointer (some ⟨w.heap.size,0,none⟩)) (.agg #[.slice (some ⟨g,0,none⟩) n n,.int .i64 0]) rfl rfl W HST.out ?_)
 refine bodyPost_ret (ZaC (v:=⟨some ⟨g,0,none⟩,n,n⟩) rfl HKW.out _ rfl rfl) rfl ?_
 exact⟨HBW.out,⟨some ⟨g,0,none⟩,n,n⟩,rfl,HG.out⟩
end Go.Proofs.YtpnlebpnhmibfaaGreat
