/-
  Lemmas.
-/
import Derived.Test.YtdojdcncncgncaaGreatKtbf
import Derived.Test.YtdojdcncncgncaaGreatKtbg
import Derived.Sort.LotD1
import Derived.Deep.CutBlock
import Derived.Sort.Walk7
import Derived.Test.YtdojdcncncgncaaGreatKtaj
namespace Go.Proofs.YtdojdcncncgncaaGreat
open Go.RowKit
set_option linter.unusedVariables false
set_option maxRecDepth 100000
set_option maxHeartbeats 4000000
variable {W w w0:World}{s:Nat}{K:IntKind}{ty:TypeId}{z:Int}
open Go.RowKit Go.Sort
theorem Sq.other {blk off m:Nat}{d:Array Int}(h:Sq w0 blk off m W d)(hs:s≠blk)(h0:w0.heap.size≤s)(v:Value):Sq w0 blk off m (W.setCell ⟨s,0,none⟩ v) d:=by
 have hb:∀k,k≠s→(W.setCell ⟨s,0,none⟩ v).heap[k]? = W.heap[k]?:=fun k hk=>by
  simp only [World.setCell];rw [Array.getElem?_modify,if_neg (fun e=>hk e.symm)]
 refine⟨h.size,fun t ht=>⟨?_,?_⟩,?_⟩
 · rw [← (h.holds t ht).1];simp only [World.cell?,hb blk (fun e=>hs e.symm)]
 · rw [← (h.holds t ht).2];simp only [World.frozen?,hb blk (fun e=>hs e.symm)]
 · exact(h.frm.mono (G:=fun k=>k=blk∨k=s) (fun i _ e=>.inl e)).setCell (.inr rfl) v |>.mono (fun i hi e=>by
    rcases e with e | e
    · exact e
    · omega)
def Bn (K:IntKind) (ty:TypeId) (W:World) (s:Nat) (z:Int):Prop:=W.heap[s]? = some (.cells #[.int K z] ty (0,0))
theorem Bn.cell (h:Bn K ty W s z):W.cell? ⟨s,0,none⟩=some (.int K z):=by
 rw [cell_of_row _ _ _ _ _ _ h];rfl
theorem Bn.fz (h:Bn K ty W s z):W.frozen? ⟨s,0,none⟩=false:=frozen_of_row W s 0 _ ty h
theorem Bn.set (h:Bn K ty W s z)(y:Int):Bn K ty (W.setCell ⟨s,0,none⟩ (.int K y)) s y:=by
 unfold Bn at *;simp only [World.setCell];rw [Array.getElem?_modify,if_pos rfl,h];rfl
theorem Bn.far (h:Bn K ty W s z){p:Addr}(hp:p.block≠s)(v:Value):Bn K ty (W.setCell p v) s z:=by
 unfold Bn at *;rw [← h];simp only [World.setCell];rw [Array.getElem?_modify,if_neg hp]
theorem Bn.drewN (h:Bn K ty W s z)(q:Nat):Bn K ty (W.drewN q) s z:=h
def O2 (w0:World) (blk off m s:Nat) (d:Array Int) (x y:Nat) (e:Ending) (W:World):Prop:=
  (∃p q:Nat,e=.returned (.tuple #[.int .i64 (p:Nat),.int .i64 (q:Nat)])∧((p=x∧q=y)∨(p=y∧q=x)))∧Sq w0 blk off m W d∧∃z,Bn .i64 3 W s z
theorem Zlw (w0 W:World)(blk off m cap s x y:Nat)(d:Array Int)(h:Sq w0 blk off m W d)(z:Int)(hz:Bn .i64 3 W s z)(hs:s≠blk)(h0:w0.heap.size≤s)(hx:x<m)(hy:y<m)(hm:m<1000000) :
    Calls Tryz.prog 189 #[.slice (some ⟨blk,off,none⟩) m cap,.int .i64 (x:Nat),.int .i64 (y:Nat),.pointer (some ⟨s,0,none⟩)] W (O2 w0 blk off m s d x y):=by
  have HS:=hide h;have HZ:=hide hz;clear h hz;obtain⟨G,hG⟩:∃G:Nat→Int,∀t,G t=d[t]!:=⟨fun t=>d[t]!,fun _=>rfl⟩;(have ad:∀t,t<m→W.cell? ⟨blk,off+t,none⟩=some (.int .u64 (G t)):=fun t ht=>by rw [hG];exact HS.out.cell t ht);have ae:∀t,t<m→W.frozen? ⟨blk,off+t,none⟩=false:=HS.out.fz;have HG:Hid (∀t,G t=d[t]!):=hG;have aa:=HS;clear hG;have HD:Hid (∀q,Sq w0 blk off m (W.drewN q) d):=aa.out.drewN;clear aa HS;have ab:Hid (∀q,Bn .i64 3 (W.drewN q) s z):=HZ.out.drewN;have c0:=HZ.out.cell;have c1:=HZ.out.fz;have HE:Hid (∀q v,Sq w0 blk off m ((W.drewN q).setCell ⟨s,0,none⟩ v) d):=fun q v=>(HD.out q).other hs h0 v;have ac:Hid (∀q y,Bn .i64 3 ((W.drewN q).setCell ⟨s,0,none⟩ (.int .i64 y)) s y):=fun q y=>(ab.out q).set y;go_enter Tryz.func189,Tryz.ntmps189;go_wp2_with fail;go_quiet (first | (go_at_call 168;refine Calls.quiet_of_same (Zah _ _ _)));go_wp2_with fail
  · (try simp only [Exit.inBlock,Exit.then]);go_ret2;exact⟨⟨y,x,rfl,.inr ⟨rfl,rfl⟩⟩,HE.out _ _,_,ac.out _ _⟩
  · (try simp only [Exit.inBlock,Exit.then]);go_ret2;exact⟨⟨x,y,rfl,.inl ⟨rfl,rfl⟩⟩,HD.out _,_,ab.out _⟩
def M3 (w0:World) (blk off m s:Nat) (d:Array Int) (x y t:Nat) (e:Ending) (W:World):Prop:=
  (∃p:Nat,e=.returned (.int .i64 (p:Nat))∧(p=x∨p=y∨p=t))∧Sq w0 blk off m W d∧∃z,Bn .i64 3 W s z
theorem Zho (w0 W:World)(blk off m cap s x y t:Nat)(d:Array Int)(h:Sq w0 blk off m W d)(z:Int)(hz:Bn .i64 3 W s z)(hs:s≠blk)(h0:w0.heap.size≤s)(hx:x<m)(hy:y<m)(ht:t<m)(hm:m<1000000)(vx vy vt:Int)(ex:vx=(x:Nat))(ey:vy=(y:Nat))(et:vt=(t:Nat)) :
    Calls Tryz.prog 181 #[.slice (some ⟨blk,off,none⟩) m cap,.int .i64 vx,.int .i64 vy,.int .i64 vt,.pointer (some ⟨s,0,none⟩)] W (M3 w0 blk off m s d x y t):=by
  subst ex ey et;have HC:Hid (∀(V:World) (x y:Nat),Sq w0 blk off m V d→(∃z,Bn .i64 3 V s z)→x<m→y<m→_):=fun V x y hq ⟨z,hz⟩ hx hy=>Zlw w0 V blk off m cap s x y d hq z hz hs h0 hx hy hm;have H1:=hide (HC.out W x y h ⟨z,hz⟩ hx hy);clear h hz;go_enter Tryz.func181,Tryz.ntmps181;go_wp2_with fail;refine H1.out.mono ?_;rintro e w1 ⟨⟨p,q,rfl,ag⟩,ah,ak⟩;have H2:=hide (HC.out w1 q t ah ak (by omega) ht);have ac:=hide ag;clear ah ak H1 ag;go_wp2_with fail;refine H2.out.mono ?_;rintro e w2 ⟨⟨p2,q2,rfl,ab⟩,ai,al⟩;(have hp:p<m:=by have:=ac.out;omega);(have af:p2<m:=by have:=ac.out;omega);have H3:=hide (HC.out w2 p p2 ai al hp af);have aa:=hide ab;clear ai al H2 ab hp af;go_wp2_with fail;refine H3.out.mono ?_;rintro e w3 ⟨⟨p3,q3,rfl,ae⟩,aj,am⟩;have ad:Hid (M3 w0 blk off m s d x y t (.returned (.int .i64 (q3:Nat))) w3):=⟨⟨q3,rfl,by have:=ac.out;have:=aa.out;omega⟩,aj,am⟩;clear aj am H3 ae ac aa;go_wp2_with fail;go_ret;exact ad.out
theorem Zhp (w0 W:World)(blk off m cap s x:Nat)(d:Array Int)(h:Sq w0 blk off m W d)(z:Int)(hz:Bn .i64 3 W s z)(hs:s≠blk)(h0:w0.heap.size≤s)(h1:1≤x)(hx:x+1<m)(hm:m<1000000)(vx:Int)(ex:vx=(x:Nat)) :
    Calls Tryz.prog 180 #[.slice (some ⟨blk,off,none⟩) m cap,.int .i64 vx,.pointer (some ⟨s,0,none⟩)] W (M3 w0 blk off m s d (x-1) x (x+1)):=by
  (have ad:1≤vx:=by omega);(have ae:vx<1000000:=by omega);have H1:=hide (Zho w0 W blk off m cap s (x-1) x (x+1) d h z hz hs h0 (by omega) (by omega) hx hm (vx-1) vx (vx+1) (by omega) ex (by omega));clear h hz ex;go_enter Tryz.func180,Tryz.ntmps180;go_wp2_with fail;refine H1.out.mono ?_;rintro e w1 ⟨⟨p,rfl,hp⟩,ab,ac⟩;have aa:Hid (M3 w0 blk off m s d (x-1) x (x+1) (.returned (.int .i64 (p:Nat))) w1):=⟨⟨p,rfl,hp⟩,ab,ac⟩;clear hp ab ac H1;go_wp2_with fail;go_ret;exact aa.out
def CpS (w0:World) (blk off m a b:Nat) (d:Array Int) (e:Ending) (W:World):Prop:=
  (∃(p:Nat) (h:Int),e=.returned (.tuple #[.int .i64 (p:Nat),.int .i64 h])∧a≤p∧p<b∧(h=0∨h=1∨h=2))∧Sq w0 blk off m W d
theorem Zie (w0 W:World)(blk off m cap a b:Nat)(d:Array Int)(h:Sq w0 blk off m W d)(bk:a+12<b)(hb:b≤m)(hm:m<1000000) :
    Calls Tryz.prog 165 #[.slice (some ⟨blk,off,none⟩) m cap,.int .i64 (a:Nat),.int .i64 (b:Nat)] W (CpS w0 blk off m a b d):=by
  obtain⟨n,hn⟩:∃n:Nat,n=b-a:=⟨_,rfl⟩;obtain⟨p,hp⟩:∃p:Nat,p=n / 4:=⟨_,rfl⟩;(have q1:(b:Int)-(a:Int)=(n:Int):=by omega);(have q2:(n:Int) / 4=(p:Int):=by omega);(have bh:12<n:=by omega);(have k1:a+p*3<b:=by omega);(have k2:3≤p:=by omega);(have k3:a+p*3+1<b:=by omega);have bg:=h.lt (by omega);(have hs:W.heap.size≠blk:=by omega);have h0:w0.heap.size≤W.heap.size:=h.frm.size;have HB:=Zaa W (.cells #[.int .i64 0] 3);have bb:=h.below HB;have al:Bn .i64 3 (W.alloc (.cells #[.int .i64 0] 3)) W.heap.size 0:=heap_alloc_new W _;obtain⟨s,af⟩:∃s,s=W.heap.size:=⟨_,rfl⟩;rw [← af] at hs h0 al;have ab:Hid (∀(V:World) (vx:Int) (x:Nat),Sq w0 blk off m V d→(∃z,Bn .i64 3 V s z)→vx=(x:Nat)→1≤x→x+1<m→_):=fun V vx x hq ⟨z,hz⟩ e h1 h2=>Zhp w0 V blk off m cap s x d hq z hz hs h0 h1 h2 hm vx e;have ad:Hid (∀(V:World) (vx vy vt:Int) (x y t:Nat),Sq w0 blk off m V d→(∃z,Bn .i64 3 V s z)→vx=(x:Nat)→vy=(y:Nat)→vt=(t:Nat)→x<m→y<m→t<m→_):=fun V vx vy vt x y t hq ⟨z,hz⟩ e1 e2 e3 h1 h2 h3=>Zho w0 V blk off m cap s x y t d hq z hz hs h0 h1 h2 h3 hm vx vy vt e1 e2 e3;have aa:=hide bb;have ah:=hide al;(have bj:(8:Int)≤(n:Int):=by omega);clear h hn hp HB bb al bg;by_cases bi:50≤n
  · (have bf:(50:Int)≤(n:Int):=by omega);(have k4:12≤p:=by omega);go_enter Tryz.func165,Tryz.ntmps165;go_wp2_with fail;generalize W.alloc (.cells #[.int .i64 0] 3)=W1 at *;rw [← af];clear af;refine(ab.out _ _ (a+p) aa.out ⟨_,ah.out⟩ (by omega) (by omega) (by omega)).mono ?_;rintro e w1 ⟨⟨r1,rfl,av⟩,ay,bc⟩;have ai:=hide av;have an:=hide ay;have aq:=hide bc;clear av ay bc aa ah;go_wp2_with fail;refine(ab.out _ _ (a+p*2) an.out aq.out (by omega) (by omega) (by omega)).mono ?_;rintro e w2 ⟨⟨r2,rfl,aw⟩,az,bd⟩;have aj:=hide aw;have ao:=hide az;have ar:=hide bd;clear aw az bd an aq;go_wp2_with fail;refine(ab.out _ _ (a+p*3) ao.out ar.out (by omega) (by omega) (by omega)).mono ?_;rintro e w3 ⟨⟨r3,rfl,ax⟩,ba,be⟩;have ak:=hide ax;have ap:=hide ba;have au:=hide be;clear ax ba be ao ar;go_wp2_with fail;refine(ad.out _ _ _ _ r1 r2 r3 ap.out au.out rfl rfl rfl (by have:=ai.out;omega) (by have:=aj.out;omega) (by have:=ak.out;omega)).mono ?_;rintro e w4 ⟨⟨r4,rfl,am⟩,ae,⟨z4,ag⟩⟩;have ac:Hid (∀hh:Int,(hh=0∨hh=1∨hh=2)→CpS w0 blk off m a b d (.returned (.tuple #[.int .i64 (r4:Nat),.int .i64 hh])) w4):=fun hh hc=>⟨⟨r4,hh,rfl,by have:=ai.out;have:=aj.out;have:=ak.out;omega,by have:=ai.out;have:=aj.out;have:=ak.out;omega,hc⟩,ae⟩;have cz:=ag.cell;clear ae ag am ai aj ak ap au;go_wp2_with fail;(all_goals (try simp only [Exit.inBlock,Exit.then]));(all_goals go_ret2);all_goals exact ac.out _ (by decide)
  · (have bf:¬(50:Int)≤(n:Int):=by omega);go_enter Tryz.func165,Tryz.ntmps165;go_wp2_with fail;generalize W.alloc (.cells #[.int .i64 0] 3)=W1 at *;rw [← af];clear af;refine(ad.out _ _ _ _ (a+p) (a+p*2) (a+p*3) aa.out ⟨_,ah.out⟩ (by omega) (by omega) (by omega) (by omega) (by omega) (by omega)).mono ?_;rintro e w4 ⟨⟨r4,rfl,am⟩,ae,⟨z4,ag⟩⟩;have ac:Hid (∀hh:Int,(hh=0∨hh=1∨hh=2)→CpS w0 blk off m a b d (.returned (.tuple #[.int .i64 (r4:Nat),.int .i64 hh])) w4):=fun hh hc=>⟨⟨r4,hh,rfl,by omega,by omega,hc⟩,ae⟩;have cz:=ag.cell;clear ae ag am aa ah;go_wp2_with fail;(all_goals (try simp only [Exit.inBlock,Exit.then]));(all_goals go_ret2);all_goals exact ac.out _ (by decide)
open Go.RowKit Go.Sort
def BpS (w0:World) (blk off m a b:Nat) (d:Array Int) (e:Ending) (W:World):Prop:=e=.returned (.tuple #[])∧∃d',PermIn a b d d'∧Sq w0 blk off m W d'
theorem ZoS (s:Nat)(V:World)(z:Nat)(hz:z<18446744073709551616)(h:Bn .u64 166 V s z):Calls Tryz.prog 147 #[.pointer (some ⟨s,0,none⟩)] V fun e w'=>∃Y:Nat,Y<18446744073709551616∧e=.returned (.int .u64 (Y:Nat))∧w'=(V.setCell ⟨s,0,none⟩ (.int .u64 (Y:Nat))).drewN 3:=by
 have hc:=Go.Proofs.AnyF.xorshift_Next (P:=Tryz.prog) (ρ:=Zbb) { Zki with } s 0 z hz V h.cell h.fz;change Calls Tryz.prog 147 _ _ _ at hc;exact hc.mono fun e w' ⟨h1,h2⟩=>⟨_,xorNextN_lt z hz,h1,h2⟩
theorem ZhJ (w0 W:World)(blk off m cap a b:Nat)(d:Array Int)(h:Sq w0 blk off m W d)(be:a+12<b)(hb:b≤m)(hm:m<1000000) :
    Calls Tryz.prog 164 #[.slice (some ⟨blk,off,none⟩) m cap,.int .i64 (a:Nat),.int .i64 (b:Nat)] W (BpS w0 blk off m a b d):=by
  obtain⟨n,hn⟩:∃n:Nat,n=b-a:=⟨_,rfl⟩;obtain⟨p,hp⟩:∃p:Nat,p=n / 4:=⟨_,rfl⟩;obtain⟨M,hM⟩:∃M:Nat,M=1 <<< bitsLen n:=⟨_,rfl⟩;(have bc:1≤M:=by rw [hM,Nat.one_shiftLeft];exact Nat.two_pow_pos _);(have bd:M≤2*n:=by rw [hM,Nat.one_shiftLeft];exact two_pow_bitsLen_le (by omega));have ax:Hid (∀w,Calls Tryz.prog 146 #[.int .i64 (n:Nat)] w fun e w'=>e=.returned (.int .u64 (M:Nat))∧w'=w):=by
   intro w;have hc:=Go.Proofs.AnyF.nextPowerOfTwo (P:=Tryz.prog) (ρ:=Zbb) { Zki with } n (by omega) w;change Calls Tryz.prog 146 _ _ _ at hc;rw [hM];exact hc
  (have q1:(b:Int)-(a:Int)=(n:Int):=by omega);(have q2:(n:Int) / 4=(p:Int):=by omega);(have bk:a+n=b:=by omega);(have k1:a+p*3<b:=by omega);(have k2:3≤p:=by omega);(have k3:n<1000000:=by omega);have ay:=h.lt (by omega);(have hs:W.heap.size≠blk:=by omega);have h0:w0.heap.size≤W.heap.size:=h.frm.size;have HB:=Zaa W (.cells #[.int .u64 (n:Nat)] 166);have aw:=h.below HB;have aa:Bn .u64 166 (W.alloc (.cells #[.int .u64 (n:Nat)] 166)) W.heap.size (n:Nat):=heap_alloc_new W _;obtain⟨s,ap⟩:∃s,s=W.heap.size:=⟨_,rfl⟩;rw [← ap] at hs h0 aa;have ac:=hide aw;have ar:=hide aa;have ba:=h.size;(have bb:(8:Int)≤(n:Int):=by omega);clear h hn hp HB aw aa ay hM;go_enter Tryz.func164,Tryz.ntmps164;go_wp2_with fail;generalize W.alloc (.cells #[.int .u64 (n:Nat)] 166)=W1 at *;rw [← ap];clear ap;refine(ax.out _).mono ?_;rintro e w1 ⟨rfl,hw⟩;obtain rfl:=hw.symm;go_wp2_with fail;go_loopw [9] (fun vi wr=>∃(i:Nat) (dk:Array Int) (z:Nat),vi=.int .i64 (i:Nat)∧a+p*2-1≤i∧i≤a+p*2+2∧Hid (PermIn a b d dk)∧Hid (Sq w0 blk off m wr dk)∧Hid (z<18446744073709551616)∧Hid (Bn .u64 166 wr s (z:Nat))) (fun vi _=>a+p*2+2-(intOf vi).toNat)
  case atStart=>exact ⟨a+p*2-1,d,n,by congr 1;omega,Nat.le_refl _,by omega,permIn_refl _ _ _,ac,(show Hid _ from by show _<_;omega),ar⟩
  case round =>
   clear ac ar;obtain⟨i,dk,z,rfl,bh,bi,ae,ah,hz,aa⟩:=hrel;by_cases bj:i≤a+p*2+1
   · (have az:(i:Int)≤(a:Int)+(p:Int)*2+1:=by omega);have au:=hide (ZoS s wr z hz.out aa.out);go_wp2_with fail;refine au.out.mono ?_;rintro e w2 ⟨Y,hY,rfl,aq⟩;obtain⟨O,hO⟩:∃O:Nat,O=Y &&& (M-1):=⟨_,rfl⟩;(have lO:O≤M-1:=by rw [hO];exact Nat.and_le_right);have eAnd:bits .and .u64 (Y:Int) ((M:Int)-1)=(O:Int):=by
      rw [show ((M:Int)-1)=((M-1:Nat):Int) by omega,bits_and_u64_nat _ _ hY (by omega),hO]
     (have an:Hid (Sq w0 blk off m w2 dk):=by show Sq _ _ _ _ _ _;rw [aq];exact (ah.out.other hs h0 _).drewN 3);(have ai:Hid (Bn .u64 166 w2 s (Y:Nat)):=by show Bn _ _ _ _ _;rw [aq];exact (aa.out.set _).drewN 3);have HY:=hide hY;clear aq hO hY au ah aa hz;go_upto_if 43 with fail;go_cut [10] from 26 to 64 (fun ov wx=>∃o:Nat,ov=.int .i64 (o:Nat)∧o<n∧Hid (Sq w0 blk off m wx dk)∧Hid (Bn .u64 166 wx s (Y:Nat)))
     case first =>
      by_cases bl:n≤O
      · (have ao:(n:Int)≤(O:Int):=by omega);go_wp2_with fail;go_meet
        case rel=>exact ⟨O-n,by congr 1;omega,by omega,an,ai⟩
      · (have ao:¬(n:Int)≤(O:Int):=by omega);go_wp2_with fail;go_meet
        case rel=>exact ⟨O,rfl,by omega,an,ai⟩
     case rest =>
      clear an ai eAnd;obtain⟨o,rfl,ho,af,ag⟩:=hcut;obtain⟨G,hG⟩:∃G:Nat→Int,∀t,G t=dk[t]!:=⟨fun t=>dk[t]!,fun _=>rfl⟩;(have bf:∀t,t<m→wc.cell? ⟨blk,off+t,none⟩=some (.int .u64 (G t)):=fun t ht=>by rw [hG];exact af.out.cell t ht);have bg:∀t,t<m→wc.frozen? ⟨blk,off+t,none⟩=false:=af.out.fz;have HG:Hid (∀t,G t=dk[t]!):=hG;have ab:=af;clear hG;(have i1:i<m:=by omega);(have i2:a+o<m:=by omega);have al:Hid (PermIn a b d (swp dk i (a+o))):=permIn_trans _ _ _ _ _ ae.out (swp_permIn dk a b i (a+o) (by omega) (by omega) (by omega) (by omega) (by rw [ab.out.size];exact hb));by_cases av:i=a+o
      · have HX:=hide ((ab.out.swap 0 i i i1 i1).drew1);rw [← HG.out] at HX;(have am:Hid (PermIn a b d (swp dk i i)):=by show PermIn _ _ _ _;have:=al.out;rwa [← av] at this);have ad:=(ag.out.far (p:=⟨blk,off+i,none⟩) (fun e=>hs e.symm) (.int .u64 (G i))).far (p:=⟨blk,off+i,none⟩) (fun e=>hs e.symm) (.int .u64 (G i));have aj:=hide (ad.drewN 1);(have bm:(a:Int)+(o:Int)=(i:Int):=by omega);clear ab af HG al ae ag ad av;go_wp2_with fail;go_region;(all_goals go_wp2_with fail);go_roundw
        case rel=>exact ⟨i+1,_,Y,by go_num,by omega,by omega,am,HX,HY,aj⟩
        case measure=>simp only [intOf];omega
      · have HX:=hide ((ab.out.swap 0 i (a+o) i1 i2).drew1);rw [← HG.out,← HG.out] at HX;have ad:=(ag.out.far (p:=⟨blk,off+i,none⟩) (fun e=>hs e.symm) (.int .u64 (G (a+o)))).far (p:=⟨blk,off+(a+o),none⟩) (fun e=>hs e.symm) (.int .u64 (G i));have aj:=hide (ad.drewN 1);clear ab af HG ae ag ad;go_wp2_with fail;go_region;(all_goals go_wp2_with fail);go_roundw
        case rel=>exact ⟨i+1,_,Y,by go_num,by omega,by omega,al,HX,HY,aj⟩
        case measure=>simp only [intOf];omega
   · (have az:¬(i:Int)≤(a:Int)+(p:Int)*2+1:=by omega);have ak:Hid (BpS w0 blk off m a b d (.returned (.tuple #[])) wr):=⟨rfl,dk,ae.out,ah.out⟩;clear ae ah hz aa;go_wp2_with fail;go_end0;exact ak.out
open Go.RowKit Go.Sort
def SoS (w0:World) (blk off m a b:Nat) (d:Array Int) (e:Ending) (W:World):Prop:=e=.returned (.tuple #[])∧∃d',PermIn a b d d'∧SortedIn ltInt a b d'∧Sq w0 blk off m W d'
def FinQ (a b:Nat) (d:Array Int) (p q:Nat) (dk:Array Int):Prop:=∀d',PermIn p q dk d'→SortedIn ltInt p q d'→PermIn a b d d'∧SortedIn ltInt a b d'
theorem Zlz (w0:World)(blk off m cap:Nat)(hm:m<1000000):∀(k:Nat)(W:World)(a b limit:Nat)(d:Array Int),b-a≤k→Sq w0 blk off m W d→a≤b→b≤m→limit<1000000→Go.Sort.Below ltInt a b d →
    Calls Tryz.prog 144 #[.slice (some ⟨blk,off,none⟩) m cap,.int .i64 (a:Nat),.int .i64 (b:Nat),.int .i64 (limit:Nat)] W (SoS w0 blk off m a b d):=by
  intro k
  induction k using Nat.strongRecOn with
  | _ k ih =>
  intro W a b limit d hk h cl cm bu av;have HS:=hide h;have IH:Hid (∀(V:World) (x y l:Nat) (dk:Array Int),y-x<k→Sq w0 blk off m V dk→x≤y→y≤m→l<1000000→Go.Sort.Below ltInt x y dk→_):=fun V x y l dk h1 h2 h3 h4 h5 h6=>ih (y-x) h1 V x y l dk (Nat.le_refl _) h2 h3 h4 h5 h6;have bz:=hide av;clear h av ih;go_enter Tryz.func144,Tryz.ntmps144;go_wp2_with fail;go_loopw [1,2,3,8,9] (fun v1 v2 v3 v8 v9 wr=>∃(p q l:Nat) (wb wp:Bool) (dk:Array Int),v1=.int .i64 (p:Nat)∧v2=.int .i64 (q:Nat)∧v3=.int .i64 (l:Nat)∧v8=.bool wb∧v9=.bool wp∧p≤q∧q≤m∧q-p≤k∧l<1000000∧Hid (Sq w0 blk off m wr dk)∧Hid (Go.Sort.Below ltInt p q dk)∧Hid (FinQ a b d p q dk)) (fun v1 v2 _ _ _ _=>(intOf v2).toNat-(intOf v1).toNat)
  case atStart=>exact ⟨a,b,limit,true,true,d,rfl,rfl,rfl,rfl,rfl,cl,cm,hk,bu,HS,bz,fun d' h1 h2=>⟨h1,h2⟩⟩
  case round =>
   clear HS bz;obtain⟨p,q,l,wb,wp,dk,rfl,rfl,rfl,rfl,rfl,bd,aa,da,ct,aj,an,ac⟩:=hrel;obtain⟨n,hn⟩:∃n:Nat,p+n=q:=⟨q-p,by omega⟩;(have q1:(q:Int)-(p:Int)=(n:Int):=by omega);by_cases cw:n≤12
   · (have bq:(n:Int)≤12:=by omega);have HC:=hide (ZkX w0 wr blk off m cap p q dk aj.out bd aa hm);have hI:=insertionSort_holds (lt:=ltInt) swo_ltInt dk p q bd (by rw [aj.out.size];exact aa);have HE:=hide (ac.out _ hI.1 hI.2);clear ac an hI aj;go_wp2_with fail;refine HC.out.mono ?_;rintro e w1 ⟨rfl,ag⟩;have ar:=hide ag;clear ag HC;go_wp2_with fail;(try simp only [Exit.inBlock,Exit.then]);refine bodyPost_ret (results_none rfl _ _ _) rfl ?_;exact⟨rfl,_,HE.out.1,HE.out.2,ar.out⟩
   (have bq:¬(n:Int)≤12:=by omega);by_cases cr:l=0
   · obtain rfl:=cr;have HC:=hide (Zj7 w0 wr blk off m cap p q dk aj.out (by omega) aa hm);have hI:=heapSort_holds (lt:=ltInt) swo_ltInt dk p q bd (by rw [aj.out.size];exact aa);have HE:=hide (ac.out _ hI.1 hI.2);clear ac an hI aj;go_wp2_with fail;refine HC.out.mono ?_;rintro e w1 ⟨rfl,ag⟩;have ar:=hide ag;clear ag HC;go_wp2_with fail;(try simp only [Exit.inBlock,Exit.then]);refine bodyPost_ret (results_none rfl _ _ _) rfl ?_;exact⟨rfl,_,HE.out.1,HE.out.2,ar.out⟩
   (have bt:¬(l:Int)=0:=by omega);have cs:((l:Int) == 0)=false:=beq_eq_false_iff_ne.2 bt;(have al:p+12<q:=by omega);go_upto_if 35 with fail;go_cut [3] from 19 to 133 (fun lv wx=>∃(l2:Nat) (d1:Array Int),lv=.int .i64 (l2:Nat)∧l2<1000000∧Hid (PermIn p q dk d1)∧Hid (Sq w0 blk off m wx d1))
   case first =>
    cases wb with
    | true =>
     go_wp2_with fail;go_meet
     case rel=>exact ⟨l,dk,rfl,ct,permIn_refl _ _ _,aj⟩
    | false =>
     have HC:=hide (ZhJ w0 wr blk off m cap p q dk aj.out al aa hm);go_wp2_with fail;refine HC.out.mono ?_;rintro e w1 ⟨rfl,d1,ao,ag⟩;have ar:=hide ag;have ch:=hide ao;clear ag ao HC;go_wp2_with fail;go_meet
     case rel=>exact ⟨l-1,d1,by congr 1;omega,by omega,ch,ar⟩
   case rest =>
    clear aj;obtain⟨l2,d1,rfl,ax,ao,ag⟩:=hcut;have ca:=hide (Zie w0 wc blk off m cap p q d1 ag.out al aa hm);clear ag;go_wp2_with fail;refine ca.out.mono ?_;rintro e w2 ⟨⟨c,hh,rfl,cn,co,ce⟩,cf⟩;have au:=hide cf;have HH:=hide ce;clear cf ce ca;go_upto_if 50 with fail;go_cut [11,12] from 19 to 133 (fun cv hv wx=>∃(c2:Nat) (h2:Int) (d2:Array Int),cv=.int .i64 (c2:Nat)∧hv=.int .i64 h2∧p≤c2∧c2<q∧Hid (PermIn p q dk d2)∧Hid (Sq w0 blk off m wx d2))
    case first =>
     by_cases cd:hh=2
     · obtain rfl:=cd;have HC:=hide (Zl5 w0 w2 blk off m cap p q d1 au.out (by omega) aa hm);have ci:Hid (PermIn p q dk (reverseRange d1 p q)):=permIn_trans _ _ _ _ _ ao.out (reverseRange_holds d1 p q bd (by rw [au.out.size];exact aa));clear au HH;go_wp2_with fail;refine HC.out.mono ?_;rintro e w3 ⟨rfl,ab⟩;have cj:=hide ab;clear ab HC;go_wp2_with fail;go_meet
       case rel=>exact ⟨q-1-(c-p),1,_,by congr 1;omega,rfl,by omega,by omega,ci,cj⟩
     · have cq:(hh == 2)=false:=beq_eq_false_iff_ne.2 cd;go_wp2_with fail;go_meet
       case rel=>exact ⟨c,hh,d1,rfl,rfl,cn,co,ao,au⟩
    case rest =>
     clear au ao HH;obtain⟨c2,h2,d2,rfl,rfl,ah,ai,ay,ab⟩:=hcut;go_upto_region 15 with fail;go_cut [68] from 19 to 133 (fun tv wx=>∃t:Bool,tv=.bool t∧Hid (Sq w0 blk off m wx d2))
     case first =>
      by_cases cc:h2=1
      · obtain rfl:=cc;cases wb <;> cases wp;(all_goals go_wp2_with fail);all_goals go_meet
        case rel=>exact ⟨_,rfl,ab⟩
        case rel=>exact ⟨_,rfl,ab⟩
        case rel=>exact ⟨_,rfl,ab⟩
        case rel=>exact ⟨_,rfl,ab⟩
      · have cp:(h2 == 1)=false:=beq_eq_false_iff_ne.2 cc;cases wb <;> cases wp;(all_goals go_wp2_with fail);all_goals go_meet
        case rel=>exact ⟨_,rfl,ab⟩
        case rel=>exact ⟨_,rfl,ab⟩
        case rel=>exact ⟨_,rfl,ab⟩
        case rel=>exact ⟨_,rfl,ab⟩
     case rest =>
     clear ab;obtain⟨t,rfl,ab⟩:=hcut;go_upto_if 68 with fail;go_cut [] from 19 to 133 (fun wx=>∃d3:Array Int,Hid (PermIn p q dk d3)∧Hid (Sq w0 blk off m wx d3))
     case first =>
      cases t with
      | false =>
       go_wp2_with fail;go_meet
       case rel=>exact ⟨d2,ay,ab⟩
      | true =>
       have cb:Go.Sort.Below ltInt p q d2:=an.out.perm (by rw [← ay.out.1,ab.out.size];exact aa) ay.out;have hI:=partialInsertionSort_holds (lt:=ltInt) swo_ltInt d2 p q (by omega) (by rw [ab.out.size];exact aa) cb;have HC:=hide (ZjT w0 wc blk off m cap p q d2 ab.out (by omega) aa hm);have bj:Hid (PermIn p q dk (partialInsertionSort ltInt d2 p q).1):=permIn_trans _ _ _ _ _ ay.out hI.1;have bi:=hide hI.2;obtain⟨R,hR⟩:∃R,R=partialInsertionSort ltInt d2 p q:=⟨_,rfl⟩;rw [← hR] at bj bi HC;obtain⟨d3,r⟩:=R;clear hI cb hR;cases r with
       | true =>
        have HE:=hide (ac.out _ bj.out (bi.out rfl));clear ac an bi;go_wp2_with fail;refine HC.out.mono ?_;rintro e w4 ⟨rfl,ad⟩;have bo:=hide ad;clear ad HC;go_wp2_with fail;(try simp only [Exit.inBlock,Exit.then]);refine bodyPost_ret (results_none rfl _ _ _) rfl ?_;exact⟨rfl,_,HE.out.1,HE.out.2,bo.out⟩
       | false =>
        go_wp2_with fail;refine HC.out.mono ?_;rintro e w4 ⟨rfl,ad⟩;have bo:=hide ad;clear ad HC;go_wp2_with fail;go_meet
        case rel=>exact ⟨d3,bj,bo⟩
     case rest =>
      clear ab ay;obtain⟨d3,bc,ad⟩:=hcut;have br:Go.Sort.Below ltInt p q d3:=an.out.perm (by rw [← bc.out.1,ad.out.size];exact aa) bc.out;(have bx:q≤d3.size:=by rw [ad.out.size];exact aa);have ae:Hid (FinQ a b d p q d3):=fun d' x y=>ac.out d' (permIn_trans _ _ _ _ _ bc.out x) y;have bl:=hide (fun (mid:Nat) (ap:Bool) (d4:Array Int) (hx:partition ltInt d3 p q c2=(mid,ap,d4))=>round_part (lt:=ltInt) swo_ltInt (partition_holds _) ah ai bx br hx);have bk:=hide (fun (h0:0<p) (bb:ltInt d3[p-1]! d3[c2]! = false) (mid:Nat) (d4:Array Int) (hx:partitionEqual ltInt d3 p q c2=(mid,d4))=>round_eq (lt:=ltInt) swo_ltInt (partitionEqual_holds _) h0 ah ai bx br bb hx);clear ac an bc br bx;go_upto_region 17 with fail;go_cut [87] from 19 to 133 (fun tv wx=>∃t:Bool,tv=.bool t∧Hid (t=true→0<p∧ltInt d3[p-1]! d3[c2]! = false)∧Hid (Sq w0 blk off m wx d3))
      case first =>
       obtain⟨G,hG⟩:∃G:Nat→Int,∀t,G t=d3[t]!:=⟨fun t=>d3[t]!,fun _=>rfl⟩;(have cx:∀t,t<m→wc.cell? ⟨blk,off+t,none⟩=some (.int .u64 (G t)):=fun t ht=>by rw [hG];exact ad.out.cell t ht);have cy:∀t,t<m→wc.frozen? ⟨blk,off+t,none⟩=false:=ad.out.fz;have HG:Hid (∀t,G t=d3[t]!):=hG;have ba:=ad;clear hG;have HD:Hid (∀q,Sq w0 blk off m (wc.drewN q) d3):=ba.out.drewN;(have i2:c2<m:=by omega);by_cases bw:0<p
       · (have cu:(0:Int)<(p:Int):=by omega);(have i1:p-1<m:=by omega);cases hl:ltInt (G (p-1)) (G c2) with
         | false =>
          have HT:Hid (0<p∧ltInt d3[p-1]! d3[c2]! = false):=⟨bw,by rw [← HG.out,← HG.out];exact hl⟩;clear ba HG ad;go_wp2_with fail;go_quiet (first | (go_at_call 168;refine Calls.quiet_of_same (Zah _ _ _)));go_wp2_with fail;go_meet
          case rel=>exact ⟨true,rfl,hide (fun _=>HT.out),HD.out _⟩
         | true =>
          (have HT:Hid (false=true→0<p∧ltInt d3[p-1]! d3[c2]! = false):=fun e=>by cases e);clear ba HG ad;go_wp2_with fail;go_quiet (first | (go_at_call 168;refine Calls.quiet_of_same (Zah _ _ _)));go_wp2_with fail;go_meet
          case rel=>exact ⟨false,rfl,HT,HD.out _⟩
       · have cu:decide ((0:Int)<(p:Int))=false:=decide_eq_false (by omega);(have HT:Hid (false=true→0<p∧ltInt d3[p-1]! d3[c2]! = false):=fun e=>by cases e);clear ba HG ad;go_wp2_with fail;go_quiet (first | (go_at_call 168;refine Calls.quiet_of_same (Zah _ _ _)));go_wp2_with fail;go_meet
         case rel=>exact ⟨false,rfl,HT,HD.out _⟩
      case rest =>
       clear ad;obtain⟨t2,rfl,bs,be⟩:=hcut;cases t2 with
       | true =>
        obtain⟨bw,bb⟩:=bs.out rfl;have HC:=hide (Zhv w0 wc blk off m cap p q c2 d3 be.out ah ai aa hm);obtain⟨R,hR⟩:∃R,R=partitionEqual ltInt d3 p q c2:=⟨_,rfl⟩;obtain⟨mid,d4⟩:=R;obtain⟨r1,r2,r3,r4,r5⟩:=bk.out bw bb mid d4 hR.symm;rw [← hR] at HC;have aq:=hide r4;have cg:Hid (FinQ a b d mid q d4):=fun d' x y=>ae.out d' (r5 d' x y).1 (r5 d' x y).2;clear bs be bk bl ae bb hR r4 r5;go_wp2_with fail;refine HC.out.mono ?_;rintro e w5 ⟨rfl,am⟩;have ck:=hide am;clear am HC;go_wp2_with fail;go_roundw
        case rel=>exact ⟨mid,q,l2,wb,wp,d4,rfl,rfl,rfl,rfl,rfl,r2,aa,by omega,ax,ck,aq,cg⟩
        case measure=>simp only [intOf];omega
       | false =>
        have HC:=hide (ZjR w0 wc blk off m cap p q c2 d3 be.out ah ai aa hm);obtain⟨R,hR⟩:∃R,R=partition ltInt d3 p q c2:=⟨_,rfl⟩;obtain⟨mid,ap',d4⟩:=R;obtain⟨r1,r2,r3,r4,r5,r6,r7⟩:=bl.out mid ap' d4 hR.symm;rw [← hR] at HC;have aq:=hide r4;have bf:=hide r5;have bm:=hide r6;have bn:=hide r7;clear bs be bk bl hR r4 r5 r6 r7;go_wp2_with fail;refine HC.out.mono ?_;rintro e w5 ⟨⟨ap,rfl⟩,am⟩;by_cases cz:mid-p<q-mid
        · (have bv:(mid:Int)-(p:Int)<(q:Int)-(mid:Int):=by omega);have HL:=hide (IH.out w5 p mid l2 d4 (by omega) am r1 (by omega) ax aq.out);clear am HC bn;go_wp2_with fail;refine HL.out.mono ?_;rintro e w6 ⟨rfl,L,aw,af,az⟩;obtain⟨u1,u2⟩:=bm.out L aw af;have bg:=hide u1;have bh:Hid (FinQ a b d (mid+1) q L):=fun d' x y=>ae.out d' (u2 d' x y).1 (u2 d' x y).2;have bp:=hide az;clear az aw af u1 u2 HL bm aq bf ae;go_wp2_with fail;go_roundw
          case rel=>exact ⟨mid+1,q,l2,_,ap,L,by go_num,rfl,rfl,rfl,rfl,r2,aa,by omega,ax,bp,bg,bh⟩
          case measure=>simp only [intOf];omega
        · (have bv:¬(mid:Int)-(p:Int)<(q:Int)-(mid:Int):=by omega);have ak:=IH.out w5 (mid+1) q l2 d4 (by omega) am r2 aa ax bf.out;have HL:Hid (Calls Tryz.prog 144 #[.slice (some ⟨blk,off,none⟩) m cap,.int .i64 ((mid:Int)+1),.int .i64 (q:Nat),.int .i64 (l2:Nat)] w5 (SoS w0 blk off m (mid+1) q d4)):=ak;clear am HC bm ak;go_wp2_with fail;refine HL.out.mono ?_;rintro e w6 ⟨rfl,L,aw,af,az⟩;obtain⟨u1,u2⟩:=bn.out L aw af;have bg:=hide u1;have bh:Hid (FinQ a b d p mid L):=fun d' x y=>ae.out d' (u2 d' x y).1 (u2 d' x y).2;have bp:=hide az;clear az aw af u1 u2 HL bn aq bf ae;go_wp2_with fail;go_roundw
          case rel=>exact ⟨p,mid,l2,_,ap,L,rfl,rfl,rfl,rfl,rfl,r1,by omega,by omega,ax,bp,bg,bh⟩
          case measure=>simp only [intOf];omega
open Go.RowKit Go.Sort Go.Lib
theorem Zkh (w0 W:World)(blk off m cap:Nat)(d:Array Int)(h:Sq w0 blk off m W d)(hm:m<1000000) :
    Calls Tryz.prog 112 #[.slice (some ⟨blk,off,none⟩) m cap] W (SoS w0 blk off m 0 m d):=by
  have aa:Hid (∀V,Calls Tryz.prog 80 #[.int .u64 (m:Nat)] V fun e w'=>e=.returned (.int .i64 (Lib.bitLen m:Nat))∧w'=V):=by
   intro V;have hc:=Go.Proofs.Any.bits_Len (SlLaysF0.n15.bits (P:=Tryz.prog) (ρ:=Zbb) { Zki with }) (m:Int) V (by omega) (by omega);rwa [Int.toNat_natCast] at hc
  have ac:Lib.bitLen m<1000000:=Nat.lt_of_le_of_lt (Lib.bitLen_le m 62 (by omega) (by omega)) (by omega);have HC:=hide (Zlz w0 blk off m cap hm m W 0 m (Lib.bitLen m) d (by omega) h (Nat.zero_le _) (Nat.le_refl _) ac (.inl rfl));have ab:Hid (Calls Tryz.prog 144 #[.slice (some ⟨blk,off,none⟩) m cap,.int .i64 0,.int .i64 (m:Nat),.int .i64 (Lib.bitLen m:Nat)] W (SoS w0 blk off m 0 m d)):=HC;(have wr:IntKind.u64.wrap (m:Int)=m:=by simp [IntKind.wrap,IntKind.bits,IntKind.signed];omega);clear h HC ac;generalize Lib.bitLen m=bl at *;go_enter Tryz.func112,Tryz.ntmps112;go_wp2_with fail;refine(aa.out _).mono ?_;rintro e w' ⟨rfl,hw⟩;obtain rfl:=hw.symm;go_wp2_with fail;refine ab.out.mono ?_;rintro e w1 ⟨rfl,ad⟩;have HS:=hide ad;clear ad ab;go_wp2_with fail;go_end0;exact⟨rfl,HS.out⟩
theorem Ziq (W:World):Calls Tryz.prog 112 #[.slice none 0 0] W fun e w'=>e=.returned (.tuple #[])∧w'=W:=by
 have aa:Hid (∀V,Calls Tryz.prog 80 #[.int .u64 0] V fun e w'=>e=.returned (.int .i64 0)∧w'=V):=by
  intro V;have hc:=Go.Proofs.Any.bits_Len (SlLaysF0.n15.bits (P:=Tryz.prog) (ρ:=Zbb) { Zki with }) 0 V (by omega) (by omega);exact hc
 have hI:Hid (∀V,Calls Tryz.prog 162 #[.slice none 0 0,.int .i64 0,.int .i64 0] V fun e w'=>e=.returned (.tuple #[])∧w'=V):=by
  intro V;go_enter Tryz.func162,Tryz.ntmps162;go_wp2_with fail;refine wp_loop_rounds 1 ?_;rw [rounds_succ];go_wp2_with fail;go_end0;exact⟨rfl,rfl⟩
 have hP:Hid (∀V,Calls Tryz.prog 144 #[.slice none 0 0,.int .i64 0,.int .i64 0,.int .i64 0] V fun e w'=>e=.returned (.tuple #[])∧w'=V):=by
  intro V;go_enter Tryz.func144,Tryz.ntmps144;go_wp2_with fail;refine wp_loop_rounds 1 ?_;rw [rounds_succ];go_wp2_with fail;refine(hI.out _).mono ?_;rintro e w' ⟨rfl,hw⟩;obtain rfl:=hw.symm;go_wp2_with fail;(try simp only [Exit.inBlock,Exit.then]);refine bodyPost_ret (results_none rfl _ _ _) rfl ?_;exact⟨rfl,rfl⟩
 go_enter Tryz.func112,Tryz.ntmps112;go_wp2_with fail;refine(aa.out _).mono ?_;rintro e w' ⟨rfl,hw⟩;obtain rfl:=hw.symm;go_wp2_with fail;refine(hP.out _).mono ?_;rintro e w1 ⟨rfl,hw⟩;obtain rfl:=hw.symm;go_wp2_with fail;go_end0;exact⟨rfl,rfl⟩
theorem Zhg (d:List Int)(j:Nat)(h0:0<j)(hj:j<d.length):keeps d.toArray j=true↔d[j]≠d[j-1]'(by omega):=by
 unfold keeps;rw [decide_eq_true_eq,getElem!_pos d.toArray j (by simpa using hj),getElem!_pos d.toArray (j-1) (by simp;omega)];simp only [List.getElem_toArray];constructor
 · rintro (h | h)
   · omega
   · exact h
 · exact .inr
theorem Zfw (D ks:List Int)(hp:D.Perm ks)(ac:∀i j (ad:i<j)(hj:j<D.length),D[i]'(by omega)≤D[j]):decide ((compactUpTo D.toArray D.toArray.size).length<ks.length) = !decide ks.Nodup:=by
 have ab:=hp.length_eq;(have ae:D.toArray.size=ks.length:=by simp [ab]);rw [ae];by_cases aa:∀j,j<ks.length→keeps D.toArray j=true
 · have hn:ks.Nodup:=by
    rw [← hp.nodup_iff];refine List.pairwise_iff_getElem.2 fun i j hi hj ad=>?_;have hk:=(Zhg D j (by omega) hj).1 (aa j (by rw [← ab];exact hj));have h2:=ac (j-1) j (by omega) hj;by_cases e:i=j-1
    · subst e;exact fun h=>hk h.symm
    · have h1:=ac i (j-1) (by omega) (by omega);intro h;omega
   rw [compactUpTo_all _ _ aa];simp [hn]
 · have hn:¬ks.Nodup:=by
    intro hn;apply aa;intro j hj;rcases Nat.eq_zero_or_pos j with rfl | h0
    · exact keeps_lt_one _ 0 (by omega)
    · rw [Zhg D j h0 (by rw [ab];exact hj)];have:=List.pairwise_iff_getElem.1 (hp.nodup_iff.2 hn) (j-1) j (by omega) (by omega) (by omega);exact fun h=>this h.symm
   have hl:(compactUpTo D.toArray ks.length).length<ks.length:=by
    unfold compactUpTo;rw [List.length_map];have:((List.range ks.length).filter (keeps D.toArray)).length<(List.range ks.length).length:=by
     rw [List.length_filter_lt_length_iff_exists];have:∃j,¬(j<ks.length→keeps D.toArray j=true):=Classical.not_forall.1 aa;obtain⟨j,hj⟩:=this;rw [Classical.not_imp] at hj;exact⟨j,List.mem_range.2 hj.1,hj.2⟩
    simpa using this
   rw [decide_eq_true hl,decide_eq_false hn];rfl
theorem Zf2 {g off n:Nat}(d:Array Int):Frm (fun k=>k=g) w (putRow uE (Sort.ahead w n) g off d):=by
 refine⟨rfl,rfl,rfl,by simp [putRow,mapBlock,Sort.ahead],fun k _ hk=>?_⟩;simp only [putRow,mapBlock,Sort.ahead,Array.getElem?_modify];rw [if_neg (fun e=>hk e.symm)]
def uVals (ks:List Int):List Value:=ks.map (.int .u64)
theorem Zfd (ks:List Int):(uVals ks).length=ks.length:=by simp [uVals]
theorem ZlT (w:World)(s:Sl)(ks:List Int)(h:Own 100 1 w s (uVals ks))(hl:ks.length<1000000) :
    Calls Tryz.prog 74 #[s.val] w fun e w'=>e=.returned (.bool (!decide ks.Nodup))∧Frm (fun k=>s.blk=some k) w w':=by
  (have af:ks.length=s.len:=by have:=h.1;rw [Zfd,Nat.mul_one] at this;exact this);rcases h.2 with ⟨rfl,h0⟩ | ⟨g,off,cur,ha,hg,aw,au,av,ht⟩
  · have:ks=[]:=by
     have:=congrArg List.length h0;rw [Zfd] at this;exact List.eq_nil_of_length_eq_zero this
    subst this;have HS:=hide (Ziq w);have HC:Hid (Calls Tryz.prog 113 #[.slice none 0 0] w fun e w'=>e=.returned (.slice none 0 0)∧w'=w):=by
     clear h hl af h0 HS;go_enter Tryz.func113,Tryz.ntmps113;go_wp2_with fail;go_ret;exact⟨rfl,rfl⟩
    rw [show (!decide ([]:List Int).Nodup)=false by decide];unfold Sl.nil Sl.val;clear h hl af h0;go_enter Tryz.func74,Tryz.ntmps74;go_wp2_with fail;refine HS.out.mono ?_;rintro e w' ⟨rfl,hw⟩;obtain rfl:=hw.symm;go_wp2_with fail;refine HC.out.mono ?_;rintro e w' ⟨rfl,hw⟩;obtain rfl:=hw.symm;go_wp2_with fail;go_ret;exact⟨rfl,Frm.refl _ _⟩
  · obtain⟨sa,sn,sc⟩:=s;simp only at ha af aw au av ht;subst ha;(have ax:ks.toArray.size=sn:=by simp [af]);have hH:Holds uE w g off ks.toArray:=by
     intro j hj;(have hj':j<ks.length:=by simpa using hj);refine⟨?_,frozen_of_row w g _ _ _ hg⟩;have ae:=h.cell rfl j (.int .u64 ks[j]) (by simp [uVals,hj']);rw [Addr.add_lit] at ae;rw [ae,getElem!_pos ks.toArray j hj];simp [uE]
    have ao:Hid (Sq w g off sn w ks.toArray):=⟨ax,hH,Frm.refl _ _⟩;have HS:=hide (Zkh w w g off sn sc ks.toArray ao.out (by omega));have ay:sn≤sc:=au;clear h hg aw au av ht hH;unfold Sl.val Sl.blk;simp only [Option.map_some,Option.some.injEq];by_cases am:ks.Nodup
    · rw [show (!decide ks.Nodup)=false by simp [am]];go_enter Tryz.func74,Tryz.ntmps74;go_wp2_with fail;refine HS.out.mono ?_;rintro e w1 ⟨rfl,d',aa,ab,ad⟩;have ap:d'.size=sn:=ad.size;have ak:d'.toList.Perm ks:=by
       have:=aa.2.2;rw [Array.extract_eq_self_of_le (by omega),Array.extract_eq_self_of_le (by omega)] at this;simpa using this
      have ac:=Zfw d'.toList ks ak (fun i j ar hj=>by
       (have hj':j<d'.size:=by simpa using hj);have:=ab i j (Nat.zero_le _) ar (by omega);rw [getElem!_pos d' j hj',getElem!_pos d' i (by omega)] at this;unfold ltInt at this;simp only [decide_eq_false_iff_not,Int.not_lt] at this;simpa using this)
      rw [show (!decide ks.Nodup)=false by simp [am],Array.toArray_toList] at ac;have hc:=Go.Proofs.AnyE.slices_Compact Zi9 uE (fun _=>rfl) (EqlAt.intD _ _ .u64) (NeqAt.intD _ _ .u64) 0 Tryz.zeroValue100 g off sc d' w1 ad.holds (by omega) (by omega);change Calls Tryz.prog 113 _ _ _ at hc;rw [ap] at hc ac;(have aj:¬(compactUpTo d' sn).length<sn:=by rw [← af];rw [← af] at ac;simpa using ac);have HC:=hide hc;have ai:=ad.frm;have ag:=hide ai;generalize compactUpTo d' sn=cu at *;clear hc ac ad ab aa ak ao HS ai;obtain⟨cn,ah⟩:∃cn,cn=cu.length:=⟨_,rfl⟩;rw [← ah] at aj HC;(have aq:¬(cn:Int)<(sn:Int):=by omega);clear ah aj;go_wp2_with fail;refine HC.out.mono ?_;rintro e w2 ⟨rfl,q,al⟩;(have an:Hid (Frm (fun k=>k=g) w w2):=by show Frm _ _ _;rw [al];exact ag.out.trans (Zf2 _) (fun _ _ e=>e));clear al HC ag;go_wp2_with fail;go_ret;exact⟨by simp;omega,an.out.mono (fun i _ e=>e.symm)⟩
    · rw [show (!decide ks.Nodup)=true by simp [am]];go_enter Tryz.func74,Tryz.ntmps74;go_wp2_with fail;refine HS.out.mono ?_;rintro e w1 ⟨rfl,d',aa,ab,ad⟩;have ap:d'.size=sn:=ad.size;have ak:d'.toList.Perm ks:=by
       have:=aa.2.2;rw [Array.extract_eq_self_of_le (by omega),Array.extract_eq_self_of_le (by omega)] at this;simpa using this
      have ac:=Zfw d'.toList ks ak (fun i j ar hj=>by
       (have hj':j<d'.size:=by simpa using hj);have:=ab i j (Nat.zero_le _) ar (by omega);rw [getElem!_pos d' j hj',getElem!_pos d' i (by omega)] at this;unfold ltInt at this;simp only [decide_eq_false_iff_not,Int.not_lt] at this;simpa using this)
      rw [show (!decide ks.Nodup)=true by simp [am],Array.toArray_toList] at ac;have hc:=Go.Proofs.AnyE.slices_Compact Zi9 uE (fun _=>rfl) (EqlAt.intD _ _ .u64) (NeqAt.intD _ _ .u64) 0 Tryz.zeroValue100 g off sc d' w1 ad.holds (by omega) (by omega);change Calls Tryz.prog 113 _ _ _ at hc;rw [ap] at hc ac;(have aj:(compactUpTo d' sn).length<sn:=by rw [← af];rw [← af] at ac;simpa using ac);have HC:=hide hc;have ai:=ad.frm;have ag:=hide ai;generalize compactUpTo d' sn=cu at *;clear hc ac ad ab aa ak ao HS ai;obtain⟨cn,ah⟩:∃cn,cn=cu.length:=⟨_,rfl⟩;rw [← ah] at aj HC;(have aq:(cn:Int)<(sn:Int):=by omega);clear ah aj;go_wp2_with fail;refine HC.out.mono ?_;rintro e w2 ⟨rfl,q,al⟩;(have an:Hid (Frm (fun k=>k=g) w w2):=by show Frm _ _ _;rw [al];exact ag.out.trans (Zf2 _) (fun _ _ e=>e));clear al HC ag;go_wp2_with fail;go_ret;exact⟨by simp,an.out.mono (fun i _ e=>e.symm)⟩
structure Sx where
  i:Nat
  k:Nat
  x:Rx
def Sx.hr (y:Sx):Hr:=⟨y.x.r,y.i,y.k⟩
def Sx.cells (y:Sx):List Value:=[.int .i64 (y.i:Nat),.int .i64 (y.k:Nat),.float .f64 y.x.r.key,.bool y.x.r.dead,.slice y.x.a y.x.n y.x.c,.int .i64 y.x.r.wr,.int .i64 y.x.r.cell,.int .i64 y.x.r.no]
def Sx.val (y:Sx):Value:=.agg #[.int .i64 (y.i:Nat),.int .i64 (y.k:Nat),.float .f64 y.x.r.key,.bool y.x.r.dead,.slice y.x.a y.x.n y.x.c,.int .i64 y.x.r.wr,.int .i64 y.x.r.cell,.int .i64 y.x.r.no]
def Sx.zero:Sx:=⟨0,0,Rx.zero⟩
def ZaR (l:List Sx):List Value:=l.flatMap Sx.cells
theorem ZcI:∀l:List Sx,(ZaR l).length=l.length*8
 | []=>rfl
 | y :: l=>by
  have e:ZaR (y :: l)=y.cells ++ ZaR l:=rfl
  rw [e,List.length_append,ZcI l,List.length_cons]
  have:y.cells.length=8:=rfl
  omega
theorem Zgi (l m:List Sx):ZaR (l ++ m)=ZaR l ++ ZaR m:=by simp [ZaR]
theorem Zft (l:List Sx):∀u∈ZaR l,u.oneCell'=true:=by
 intro u hu;obtain⟨y,_,hy⟩:=List.mem_flatMap.1 hu;simp only [Sx.cells,List.mem_cons,List.not_mem_nil,or_false] at hy;rcases hy with rfl | rfl | rfl | rfl | rfl | rfl | rfl | rfl <;> rfl
theorem Zfs:∀(l:List Sx)(j t:Nat),j<l.length→t<8→(ZaR l)[j*8+t]? = (l.getD j Sx.zero).cells[t]?
 | [],j,t,hj,_=>by simp at hj
 | y :: l,0,t,_,ht=>by
  have e:ZaR (y :: l)=y.cells ++ ZaR l:=rfl
  have hl:y.cells.length=8:=rfl
  rw [e,Nat.zero_mul,Nat.zero_add,List.getElem?_append_left (by omega)]
  rfl
 | y :: l,j+1,t,hj,ht=>by
  have e:ZaR (y :: l)=y.cells ++ ZaR l:=rfl
  have hl:y.cells.length=8:=rfl
  rw [e,List.getElem?_append_right (by omega),hl,show (j+1)*8+t-8=j*8+t by omega]
  exact Zfs l j t (by simpa using hj) ht
theorem ZoE:(Tryz.prog.info? 72).map (fun i=>(i.zero,i.size,i.bytes))=some (some (.agg #[.int .i64 0,.int .i64 0,.float .f64 0,.bool false,.slice none 0 0,.int .i64 0,.int .i64 0,.int .i64 0]),8,80):=by kernel_rfl
theorem ZnK:(Tryz.prog.info? 100).map (fun i=>(i.zero,i.size,i.bytes))=some (some (.int .u64 0),1,8):=by kernel_rfl
def rkS (l:List Sx):List Int:=l.map fun y=>((Fl.rk y.x.r.key:Nat):Int)
structure Stk (w0 w:World) (bA bR:Nat) (S:List Sx):Prop where
  ex:∃sA sR:Sl,w.heap[bA]? = some (.cells #[sA.val] 68 (0,0))∧w.heap[bR]? = some (.cells #[sR.val] 105 (0,0))∧Own 72 8 w sA (ZaR S)∧Own 100 1 w sR (uVals (rkS S))∧(∀k,sA.blk=some k→w0.heap.size≤k)∧(∀k,sR.blk=some k→w0.heap.size≤k)
  newA:w0.heap.size≤bA
  newR:w0.heap.size≤bR
  below:Below w0.heap.size w0 w
  flt:∀y∈S,ColF w y.x
  fits:∀y∈S,y.x.r.fits
theorem Stk.keep {w':World}{bA bR:Nat}{S:List Sx}(h:Stk w0 w bA bR S)(hb:Below w.heap.size w w'):Stk w0 w' bA bR S:=by
 obtain⟨sA,sR,h1,h2,h3,h4,h5,h6⟩:=h.ex;refine⟨⟨sA,sR,(hb.block _ (Array.getElem?_eq_some_iff.1 h1).1).trans h1,(hb.block _ (Array.getElem?_eq_some_iff.1 h2).1).trans h2,Own.frame h3 (fun k hk=>hb.block k (Own.lt h3 hk)),Own.frame h4 (fun k hk=>hb.block k (Own.lt h4 hk)),h5,h6⟩,h.newA,h.newR,h.below.trans (hb.mono h.below.size),fun y hy=>(h.flt y hy).keep hb,h.fits⟩
theorem Ze8 (v:Int)(w:World):(Instr.buildSlice 105 1 #[(0,.int .u64 v)]).run Tryz.prog w=.ok (.slice (some ⟨w.heap.size,0,none⟩) 1 1) (w.alloc (.cells #[.int .u64 v] 100)):=by
 simp [go_sem,Instr.buildSlice]
theorem Zpe (w:World)(y:Sx):Src Tryz.prog 8 68 (.slice (some ⟨w.heap.size,0,none⟩) 1 1) 1 (ZaR [y]) (w.alloc (.cells y.cells.toArray 72)):=by
 refine Src.ofSlice _ Tryz.underlying68 ⟨w.heap.size,0,none⟩ 1 1 (ZaR [y]) rfl (fun j u hj=>?_) (Zft _);have hb:(w.alloc (.cells y.cells.toArray 72)).heap[w.heap.size]? = some (.cells y.cells.toArray 72 (0,0)):=heap_alloc_new w _;rw [Addr.add_lit,cell_of_row _ _ _ _ _ _ hb];simpa [ZaR,Sx.cells] using hj
theorem Zoo (w:World)(v:Int):Src Tryz.prog 1 105 (.slice (some ⟨w.heap.size,0,none⟩) 1 1) 1 (uVals [v]) (w.alloc (.cells #[.int .u64 v] 100)):=by
 refine Src.ofSlice _ Tryz.underlying105 ⟨w.heap.size,0,none⟩ 1 1 (uVals [v]) rfl (fun j u hj=>?_) (by intro u hu;simp [uVals] at hu;subst hu;rfl);have hb:(w.alloc (.cells #[.int .u64 v] 100)).heap[w.heap.size]? = some (.cells #[.int .u64 v] 100 (0,0)):=heap_alloc_new w _;rw [Addr.add_lit,cell_of_row _ _ _ _ _ _ hb];simpa [uVals] using hj
theorem Zkw {b:Nat}{t:TypeId}{v:Value}(h:w.heap[b]? = some (.cells #[v] t (0,0)))(u:Value):(w.setCell ⟨b,0,none⟩ u).heap[b]? = some (.cells #[u] t (0,0))∧Frm (fun k=>k=b) w (w.setCell ⟨b,0,none⟩ u):=by
 refine⟨?_,Frm.setCell (F:=fun k=>k=b) (Frm.refl _ w) rfl u⟩;simp only [World.setCell];rw [Array.getElem?_modify,if_pos rfl,h];rfl
theorem Zbj {b:Nat}{t:TypeId}{v:Value}(h:w.heap[b]? = some (.cells #[v] t (0,0))):w.cell? ⟨b,0,none⟩=some v∧w.frozen? ⟨b,0,none⟩=false:=by
 refine⟨?_,frozen_of_row w b 0 _ t h⟩;rw [cell_of_row _ _ _ _ _ _ h];rfl
theorem Stk.all {bA bR:Nat}{S:List Sx}(h:Stk w0 w bA bR S)(y:Sx)(hl:S.length+1≤100000) :
    ∃(sA s':Sl) (W:World),w.heap[bA]? = some (.cells #[sA.val] 68 (0,0))∧(∀ty,(Builtin.append_ #[68,68] ty #[sA.val,.slice (some ⟨w.heap.size,0,none⟩) 1 1]).run Tryz.prog (w.alloc (.cells y.cells.toArray 72))=.ok s'.val W)∧W.heap[bA]? = some (.cells #[sA.val] 68 (0,0)) ∧
     (∃sR:Sl,(W.setCell ⟨bA,0,none⟩ s'.val).heap[bA]? = some (.cells #[s'.val] 68 (0,0))∧(W.setCell ⟨bA,0,none⟩ s'.val).heap[bR]? = some (.cells #[sR.val] 105 (0,0))∧Own 72 8 (W.setCell ⟨bA,0,none⟩ s'.val) s' (ZaR (S ++ [y]))∧Own 100 1 (W.setCell ⟨bA,0,none⟩ s'.val) sR (uVals (rkS S))∧(∀k,s'.blk=some k→w0.heap.size≤k)∧(∀k,sR.blk=some k→w0.heap.size≤k)) ∧
     Below w0.heap.size w0 (W.setCell ⟨bA,0,none⟩ s'.val)∧(∀k,k<w.heap.size→(∃(C:Array Value) (fr:Nat × Nat),w.heap[k]? = some (Obj.cells C 23 fr)∨w.heap[k]? = some (Obj.cells C 33 fr)∨w.heap[k]? = some (Obj.cells C 26 fr))→(W.setCell ⟨bA,0,none⟩ s'.val).heap[k]? = w.heap[k]?)∧w.heap.size≤W.heap.size:=by
 obtain⟨sA,sR,h1,h2,h3,h4,h5,h6⟩:=h.ex;have hB:=Zaa w (.cells y.cells.toArray 72);have h3':Own 72 8 (w.alloc (.cells y.cells.toArray 72)) sA (ZaR S):=Own.frame h3 (fun k hk=>hB.block k (Own.lt h3 hk));(have ak:S.length=sA.len:=by have:=h3.1;rw [ZcI] at this;omega);obtain⟨s',W,ag,ho,ai,ae,ah⟩:=ZaA Tryz.underlying68 ZoE rfl (by decide) _ sA (ZaR S) h3' (Zft S) _ 1 (ZaR [y]) (Zpe w y) (by omega) 0;have l1:=(Array.getElem?_eq_some_iff.1 h1).1;have l2:=(Array.getElem?_eq_some_iff.1 h2).1;have ad:∀(k:Nat) (C:Array Value) (t:TypeId) (fr:Nat × Nat),w.heap[k]? = some (Obj.cells C t fr)→t≠72→W.heap[k]? = w.heap[k]?:=by
  intro k C t fr hk ht;have af:=(Array.getElem?_eq_some_iff.1 hk).1;refine(ae.block k (Nat.lt_of_lt_of_le af hB.size) (fun e=>?_)).trans (hB.block k af);obtain⟨cur,ab⟩:=Own.kind h3' e;rw [hB.block k af,hk] at ab;simp only [Option.some.injEq,Obj.cells.injEq] at ab;exact ht ab.2.1
 have h1':=(ad bA _ _ _ h1 (by decide)).trans h1;have h2':=(ad bR _ _ _ h2 (by decide)).trans h2;obtain⟨b1,f1⟩:=Zkw h1' s'.val;have aj:bR≠bA:=by
  intro e;rw [e,h1] at h2;simp only [Option.some.injEq,Obj.cells.injEq] at h2;exact absurd h2.2.1 (by decide)
 have l1W:bA<W.heap.size:=(Array.getElem?_eq_some_iff.1 h1').1;have ac:Below w0.heap.size w0 W:=(Zad h.below hB).trans (ae.below (Zad h.below hB).size (fun k hk=>h5 k hk));have aa:∀k:Nat,(∃(C:Array Value) (t:TypeId) (fr:Nat × Nat),W.heap[k]? = some (Obj.cells C t fr)∧t≠68)→(W.setCell ⟨bA,0,none⟩ s'.val).heap[k]? = W.heap[k]?:=by
  rintro k ⟨C,t,fr,hk,ht⟩;refine f1.block k (Array.getElem?_eq_some_iff.1 hk).1 (fun e=>?_);rw [e,h1'] at hk;simp only [Option.some.injEq,Obj.cells.injEq] at hk;exact ht hk.2.1.symm
 refine⟨sA,s',W,h1,fun ty=>ag,h1',⟨sR,b1,?_,?_,?_,fun k hk=>?_,h6⟩,ac.trans (f1.below ac.size (fun k hk=>by rw [hk];exact h.newA)),?_,Nat.le_trans hB.size ae.size⟩
 · exact(aa bR ⟨_,_,_,h2',by decide⟩).trans h2'
 · (have ho':Own 72 8 W s' (ZaR (S ++ [y])):=by rw [Zgi];exact ho);exact Own.frame ho' (fun k hk=>by
    obtain⟨cur,ab⟩:=Own.kind ho' hk;exact aa k ⟨_,_,_,ab,by decide⟩)
 · refine Own.frame h4 (fun k hk=>?_);obtain⟨cur,ab⟩:=Own.kind h4 hk;have e:=ad k _ _ _ ab (by decide);exact(aa k ⟨_,_,_,e.trans ab,by decide⟩).trans e
 · rcases ah with e | ⟨e,_⟩
   · exact h5 k (by rw [← e];exact hk)
   · rw [e] at hk;cases hk;have:=h.below.size;rw [Zae];omega
 · rintro k hk ⟨C,fr,hc | hc | hc⟩
   · have e:=ad k _ _ _ hc (by decide);exact(aa k ⟨_,_,_,e.trans hc,by decide⟩).trans e
   · have e:=ad k _ _ _ hc (by decide);exact(aa k ⟨_,_,_,e.trans hc,by decide⟩).trans e
   · have e:=ad k _ _ _ hc (by decide);exact(aa k ⟨_,_,_,e.trans hc,by decide⟩).trans e
end Go.Proofs.YtdojdcncncgncaaGreat
