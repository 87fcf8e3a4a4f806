/-
  Lemmas.
-/
import Derived.Test.YtiecfcjlhldhdaaGreatKeao
import Derived.Test.YtiecfcjlhldhdaaGreatKebd
import Derived.Shelf.SortM.Plain
import Derived.Shelf.SortM.SortNone
import Derived.Shelf.SlicesE.Compact
import Derived.Test.YtiecfcjlhldhdaaGreatRows
namespace Go.Proofs.YtiecfcjlhldhdaaGreat
open Go.RowKit
set_option linter.unusedVariables false
set_option linter.unusedSimpArgs false
set_option maxRecDepth 100000
set_option maxHeartbeats 4000000
variable {g:Nat}{u:Un}{w W w':World}{c:Value}{t:Tbl}
noncomputable def mayB (t:Tbl):Bool:=@decide t.May (Classical.propDecidable _)
theorem Zgp (h:t.May):mayB t=true:=@decide_eq_true _ (Classical.propDecidable _) h
theorem ZbR (h:¬t.May):mayB t=false:=@decide_eq_false _ (Classical.propDecidable _) h
theorem Zeq :mayB t=true↔t.May:=⟨fun h=>@of_decide_eq_true _ (Classical.propDecidable _) h,Zgp⟩
theorem Zm0 (t:Tbl)(v:Sl)(w:World)(h:Es w v t.es) :
    Calls Tryz.prog 37 #[t.val v] w fun e w'=>e=.returned (.bool (mayB t))∧Below w.heap.size w w':=by
  have hb:=Zg8 w t v;have HW:=hide hb;have HT:=hide (ZaJ.new w t v);have HE:=hide (h.keep hb (Nat.le_refl _));have hl:t.es.length=v.len:=h.len;have ay:=h.big;clear h hb;obtain⟨va,vl,vc⟩:=v;simp only at hl ay;have HL:=hide hl;unfold Tbl.val;by_cases z0:t.nx<1
  · have HR:Hid (mayB t=false):=ZbR (fun k=>by have:=k.nx;omega);clear hl HT HE HL;go_enter Tryz.func37,Tryz.ntmps37;go_wp2_with fail;go_ret;exact⟨by rw [HR.out];rfl,HW.out⟩
  by_cases z1:2147483647<t.nx
  · have HR:Hid (mayB t=false):=ZbR (fun k=>by have:=k.nx;omega);clear hl HT HE HL;go_enter Tryz.func37,Tryz.ntmps37;go_wp2_with fail;go_ret;exact⟨by rw [HR.out];rfl,HW.out⟩
  by_cases z2:t.no<1
  · have HR:Hid (mayB t=false):=ZbR (fun k=>by have:=k.no;omega);clear hl HT HE HL;go_enter Tryz.func37,Tryz.ntmps37;go_wp2_with fail;go_ret;exact⟨by rw [HR.out];rfl,HW.out⟩
  by_cases z3:2147483647<t.no
  · have HR:Hid (mayB t=false):=ZbR (fun k=>by have:=k.no;omega);clear hl HT HE HL;go_enter Tryz.func37,Tryz.ntmps37;go_wp2_with fail;go_ret;exact⟨by rw [HR.out];rfl,HW.out⟩
  by_cases z4:t.cm<0
  · have HR:Hid (mayB t=false):=ZbR (fun k=>by have:=k.cm;omega);clear hl HT HE HL;go_enter Tryz.func37,Tryz.ntmps37;go_wp2_with fail;go_ret;exact⟨by rw [HR.out];rfl,HW.out⟩
  by_cases z5:2147483647<t.cm
  · have HR:Hid (mayB t=false):=ZbR (fun k=>by have:=k.cm;omega);clear hl HT HE HL;go_enter Tryz.func37,Tryz.ntmps37;go_wp2_with fail;go_ret;exact⟨by rw [HR.out];rfl,HW.out⟩
  by_cases z6:vl=12
  case neg =>
   have HR:Hid (mayB t=false):=ZbR (fun k=>z6 (by rw [← hl];exact k.len));(have q6:((vl:Int) != 12)=true:=by simp;omega);(have q7:¬(vl:Int)=12:=by omega);clear hl HT HE HL z6;go_enter Tryz.func37,Tryz.ntmps37;go_wp2_with fail;go_ret;exact⟨by rw [HR.out];rfl,HW.out⟩
  subst z6;have aw:Hid ((1≤t.nx∧t.nx≤2147483647)∧(1≤t.no∧t.no≤2147483647)∧(0≤t.cm∧t.cm≤2147483647)):=⟨⟨by omega,by omega⟩,⟨by omega,by omega⟩,⟨by omega,by omega⟩⟩;go_enter Tryz.func37,Tryz.ntmps37;go_wp2_with fail;generalize w.alloc (.cells #[.int .i64 t.nx,.int .i64 t.no,.int .i64 t.cm,.slice va 12 vc] 24)=W at *;clear hl;have H0:=hide (Below.refl W.heap.size W);go_loopw [3] (fun iv wr=>∃i:Nat,i≤12∧iv=.int .i64 (i:Nat)∧Hid (∀j,j<i→EntOk t j)∧Hid (Below W.heap.size W wr)) (fun iv _=>12-(intOf iv).toNat)
  case atStart=>exact ⟨0,Nat.zero_le _,rfl,fun j hj=>absurd hj (Nat.not_lt_zero _),H0⟩
  case round =>
   obtain⟨i,hi,rfl,ad,ar⟩:=hrel;rename World=>wo;have az:=HT.out.keep ar.out;have d3:=az.c3;rcases Nat.lt_or_ge i 12 with bd | bg
   · (have i1:(i:Int)<12:=by omega);have ax:=HE.out.keep ar.out (Nat.le_refl _);obtain⟨b,off,ha,bc⟩:=ax.at' i bd;replace ha:va=some ⟨b,off,none⟩:=ha;subst ha;obtain⟨x,hx⟩:∃x,x=t.en i:=⟨_,rfl⟩;(have ah:EnAt wo b (off+i*4) x:=by rw [hx];exact bc);have HX:=hide hx;have c0:=ah.c0;have c1:=ah.c1;have c2:=ah.c2;have c3:=ah.c3;have aq:=Zaa wo (.cells #[.int .i64 x.tx,.int .i64 x.st,.int .i64 x.last,.int .i64 x.com] 127);have ac:=hide (Zac ar.out aq);have ap:=hide (az.keep aq);have an:=hide (Zc4.new wo x);have ba:=hide (ax.keep aq (Nat.le_refl _));(have bb:Hid ((wo.alloc (.cells #[.int .i64 x.tx,.int .i64 x.st,.int .i64 x.last,.int .i64 x.com] 127)).heap.size=wo.heap.size+1):=by show _=_;simp);clear az ax bc ah hx aq;generalize aj:wo.alloc (.cells #[.int .i64 x.tx,.int .i64 x.st,.int .i64 x.last,.int .i64 x.com] 127)=W4 at *;have g0:W4.cell? ⟨wo.heap.size,0,none⟩=some (.int .i64 x.tx):=an.out.at.c0;have g1:W4.cell? ⟨wo.heap.size,1,none⟩=some (.int .i64 x.st):=an.out.at.c1;have g2:W4.cell? ⟨wo.heap.size,2,none⟩=some (.int .i64 x.last):=an.out.at.c2;have g3:W4.cell? ⟨wo.heap.size,3,none⟩=some (.int .i64 x.com):=an.out.at.c3;have m0:=ap.out.c0;have m2:=ap.out.c2;have m3:=ap.out.c3;have aa:¬EntOk t i→mayB t=false:=fun k=>ZbR (fun m=>k (m.ok i bd));by_cases y0:x.st<0
     · have HR:Hid (mayB t=false):=aa (fun k=>by have:=k.st;rw [← HX.out] at this;omega);clear aa;go_wp2_with fail;go_ret;exact⟨by rw [HR.out];rfl,Zac HW.out ac.out⟩
     by_cases y1:2<x.st
     · have HR:Hid (mayB t=false):=aa (fun k=>by have:=k.st;rw [← HX.out] at this;omega);clear aa;go_wp2_with fail;go_ret;exact⟨by rw [HR.out];rfl,Zac HW.out ac.out⟩
     by_cases y2:x.st=0
     · obtain⟨xt,xs,xl,xc⟩:=x;replace y2:xs=0:=y2;subst y2;simp only at g0 g1 g2 g3 aj c0 c1 c2 c3 y0 y1;have ab:∀h:¬((⟨xt,0,xl,xc⟩:En)=En.zero),Hid (mayB t=false):=fun h=>aa (fun k=>h (by have:=k.free;rw [← HX.out] at this;exact this rfl));by_cases y3:xt=0
       case neg =>
        have HR:=ab (fun e=>y3 (congrArg En.tx e));clear aa ad ab;go_wp2_with fail;go_ret;exact⟨by rw [HR.out];rfl,Zac HW.out ac.out⟩
       by_cases y4:xl=0
       case neg =>
        have HR:=ab (fun e=>y4 (congrArg En.last e));clear aa ad ab;go_wp2_with fail;go_ret;rw [y3] at aj;rw [aj];exact⟨by rw [HR.out];rfl,Zac HW.out ac.out⟩
       by_cases y5:xc=0
       case neg =>
        have HR:=ab (fun e=>y5 (congrArg En.com e));clear aa ad ab;go_wp2_with fail;go_ret;rw [y3,y4] at aj;rw [aj];exact⟨by rw [HR.out];rfl,Zac HW.out ac.out⟩
       have HN:Hid (∀j,j<i+1→EntOk t j):=by
        intro j hj;by_cases e:j=i
        · subst e;(have ex:t.en j=En.zero:=by rw [← HX.out,y3,y4,y5];rfl);have z0:En.zero.st=0:=rfl;constructor <;> rw [ex]
          · decide
          · exact fun _=>rfl
          · exact fun h=>absurd z0 h
          · exact fun h=>absurd z0 h
          · exact fun _=>rfl
          · exact fun h=>by cases h
          · exact fun h=>absurd z0 h
        · exact ad.out j (by omega)
       clear aa ad ab;go_wp2_with fail;go_roundw
       case rel =>
        rw [y3,y4,y5] at aj;rw [aj];exact⟨i+1,by omega,by go_num,HN,ac⟩
       case measure=>simp only [intOf];omega
     obtain⟨xt,xs,xl,xc⟩:=x;simp only at g0 g1 g2 g3 aj c0 c1 c2 c3 y0 y1 y2;by_cases v0:xt<1
     · have HR:Hid (mayB t=false):=aa (fun k=>by have:=k.tx (by rw [← HX.out];exact y2);rw [← HX.out] at this;simp only at this;omega);clear aa ad;go_wp2_with fail;go_ret;exact⟨by rw [HR.out];rfl,Zac HW.out ac.out⟩
     by_cases v1:t.nx≤xt
     · have HR:Hid (mayB t=false):=aa (fun k=>by have:=k.tx (by rw [← HX.out];exact y2);rw [← HX.out] at this;simp only at this;omega);clear aa ad;go_wp2_with fail;go_ret;exact⟨by rw [HR.out];rfl,Zac HW.out ac.out⟩
     by_cases v2:xl<0
     · have HR:Hid (mayB t=false):=aa (fun k=>by have:=k.last (by rw [← HX.out];exact y2);rw [← HX.out] at this;simp only at this;omega);clear aa ad;go_wp2_with fail;go_ret;exact⟨by rw [HR.out];rfl,Zac HW.out ac.out⟩
     by_cases v3:65535<xl
     · have HR:Hid (mayB t=false):=aa (fun k=>by have:=k.last (by rw [← HX.out];exact y2);rw [← HX.out] at this;simp only at this;omega);clear aa ad;go_wp2_with fail;go_ret;exact⟨by rw [HR.out];rfl,Zac HW.out ac.out⟩
     by_cases y3:xs=1
     · subst y3;by_cases v4:¬xc=0
       · have HR:Hid (mayB t=false):=aa (fun k=>by have:=k.act (by rw [← HX.out]);rw [← HX.out] at this;simp only at this;omega);clear aa ad;go_wp2_with fail;go_ret;exact⟨by rw [HR.out];rfl,Zac HW.out ac.out⟩
       (have q4:(xc != 0)=false:=by simp at v4 ⊢;exact v4);(have q5:(xc == 0)=true:=by simp at v4 ⊢;exact v4);(have V4:Hid (xc=0):=by show _=_;omega);clear v4;have ai:Hid ((∀j,j<i→(t.en j).tx≠xt∧(0<(xc:Int)→(t.en j).com≠xc))→∀j,j<i+1→EntOk t j):=by
        intro hk j hj;by_cases e:j=i
        · subst e;constructor <;> rw [← HX.out] <;> simp only
          · omega
          · exact fun h=>absurd h (by decide)
          · intro _;omega
          · intro _;omega
          · exact fun _=>V4.out
          · intro h;exact absurd h (by decide)
          · exact fun _=>hk
        · exact ad.out j (by omega)
       have am:Hid (∀k,k<i→¬((t.en k).tx≠xt∧(0<(xc:Int)→(t.en k).com≠xc))→mayB t=false):=by
        intro k hk hn;refine aa (fun m=>hn ?_);have:=m.one (by rw [← HX.out];simp) k hk;rw [← HX.out] at this;exact this
       clear aa ad;go_wp2_with fail;have av:=hide (Below.refl W4.heap.size W4);go_loopw [5] (fun kv wr=>∃k:Nat,k≤i∧kv=.int .i64 (k:Nat)∧Hid (∀j,j<k→(t.en j).tx≠xt∧(0<(xc:Int)→(t.en j).com≠xc))∧Hid (Below W4.heap.size W4 wr)) (fun kv _=>i-(intOf kv).toNat)
       case atStart=>exact ⟨0,Nat.zero_le _,rfl,fun j hj=>absurd hj (Nat.not_lt_zero _),av⟩
       case round =>
        obtain⟨k,hk,rfl,ak,af⟩:=hrel;rename World=>wk;rcases Nat.lt_or_ge k i with au | bf
        · (have k1:(k:Int)<(i:Int):=by omega);have al:=hide (ap.out.keep af.out);have ao:=hide (an.out.keep af.out);obtain⟨b',off',ha',hy⟩:=(ba.out.keep af.out (Nat.le_refl _)).at' k (by show k<12;omega);simp only [Option.some.injEq,Addr.mk.injEq,and_true] at ha';obtain⟨rfl,rfl⟩:=ha';have HY:=hide hy;clear hy;(have be:Hid (wo.heap.size≤W4.heap.size):=by show _≤_;rw [bb.out];omega);by_cases u1:(t.en k).tx=xt
          case pos =>
           have HR:Hid (mayB t=false):=am.out k au (fun m=>m.1 u1);clear ai;go_wp2_with fail;refine Pl.q9 (ops:=Pl.find 17 ((Tryz.f37.body).getD .skip)) ?_;refine Zj2 _ b off 12 vc k w.heap.size wo.heap.size t _ ⟨xt,1,xl,xc⟩ (by omega) al.out ao.out HY.out u1 (by rfl) rfl (by rfl) (by rfl) (by rfl) ?_;intro u1 w1 ae;simp only [Pl.pu,List.foldl,Act.put,List.setIfInBounds_toArray,List.set_cons_zero,List.set_cons_succ];have ag:=hide (Zac af.out ae);clear ae;go_wp2_with fail;go_ret;exact⟨by rw [HR.out];rfl,Zac HW.out (Zac ac.out ag.out)⟩
          have HN:Hid (∀j,j<k+1→(t.en j).tx≠xt∧(0<(xc:Int)→(t.en j).com≠xc)):=by
           intro j hj;by_cases e:j=k
           · subst e;exact⟨u1,fun h=>absurd h (by have:=V4.out;omega)⟩
           · exact ak.out j (by omega)
          skip;go_wp2_with fail;refine Pl.q9 (ops:=Pl.find 17 ((Tryz.f37.body).getD .skip)) ?_;refine ZnZ _ b off 12 vc k w.heap.size wo.heap.size t _ ⟨xt,1,xl,xc⟩ (by omega) al.out ao.out HY.out u1 (by have:=V4.out;show ¬0<xc;omega) (by rfl) rfl (by rfl) (by rfl) (by rfl) ?_;intro u1 w1 ae;simp only [Pl.pu,List.foldl,Act.put,List.setIfInBounds_toArray,List.set_cons_zero,List.set_cons_succ];have ag:=hide (Zac af.out ae);clear ae;go_wp2_with fail;go_roundw
          case rel=>exact ⟨k+1,by omega,by go_num,HN,ag⟩
          case measure=>simp only [intOf];omega
        · (have k1:¬(k:Int)<(i:Int):=by omega);have HN:Hid (∀j,j<i+1→EntOk t j):=ai.out (fun j hj=>ak.out j (by omega));have ag:Hid (Below W.heap.size W wk):=Zac ac.out af.out;clear ai am ak;go_wp2_with fail;go_roundw
          case rel=>exact ⟨i+1,by omega,by go_num,HN,ag⟩
          case measure=>simp only [intOf];omega
     (have y4:xs=2:=by omega);subst y4;clear y3;by_cases v4:xc<1
     · have HR:Hid (mayB t=false):=aa (fun k=>by have:=k.done (by rw [← HX.out]);rw [← HX.out] at this;simp only at this;omega);clear aa ad;go_wp2_with fail;go_ret;exact⟨by rw [HR.out];rfl,Zac HW.out ac.out⟩
     by_cases v5:t.cm<xc
     · have HR:Hid (mayB t=false):=aa (fun k=>by have:=k.done (by rw [← HX.out]);rw [← HX.out] at this;simp only at this;omega);clear aa ad;go_wp2_with fail;go_ret;exact⟨by rw [HR.out];rfl,Zac HW.out ac.out⟩
     have ai:Hid ((∀j,j<i→(t.en j).tx≠xt∧(0<(xc:Int)→(t.en j).com≠xc))→∀j,j<i+1→EntOk t j):=by
      intro hk j hj;by_cases e:j=i
      · subst e;constructor <;> rw [← HX.out] <;> simp only
        · omega
        · exact fun h=>absurd h (by decide)
        · intro _;omega
        · intro _;omega
        · intro h;exact absurd h (by decide)
        · intro _;omega
        · exact fun _=>hk
      · exact ad.out j (by omega)
     have am:Hid (∀k,k<i→¬((t.en k).tx≠xt∧(0<(xc:Int)→(t.en k).com≠xc))→mayB t=false):=by
      intro k hk hn;refine aa (fun m=>hn ?_);have:=m.one (by rw [← HX.out];simp) k hk;rw [← HX.out] at this;exact this
     clear aa ad;go_wp2_with fail;have av:=hide (Below.refl W4.heap.size W4);go_loopw [5] (fun kv wr=>∃k:Nat,k≤i∧kv=.int .i64 (k:Nat)∧Hid (∀j,j<k→(t.en j).tx≠xt∧(0<(xc:Int)→(t.en j).com≠xc))∧Hid (Below W4.heap.size W4 wr)) (fun kv _=>i-(intOf kv).toNat)
     case atStart=>exact ⟨0,Nat.zero_le _,rfl,fun j hj=>absurd hj (Nat.not_lt_zero _),av⟩
     case round =>
      obtain⟨k,hk,rfl,ak,af⟩:=hrel;rename World=>wk;rcases Nat.lt_or_ge k i with au | bf
      · (have k1:(k:Int)<(i:Int):=by omega);have al:=hide (ap.out.keep af.out);have ao:=hide (an.out.keep af.out);obtain⟨b',off',ha',hy⟩:=(ba.out.keep af.out (Nat.le_refl _)).at' k (by show k<12;omega);simp only [Option.some.injEq,Addr.mk.injEq,and_true] at ha';obtain⟨rfl,rfl⟩:=ha';have HY:=hide hy;clear hy;(have be:Hid (wo.heap.size≤W4.heap.size):=by show _≤_;rw [bb.out];omega);by_cases u1:(t.en k).tx=xt
        case pos =>
         have HR:Hid (mayB t=false):=am.out k au (fun m=>m.1 u1);clear ai;go_wp2_with fail;refine Pl.q9 (ops:=Pl.find 17 ((Tryz.f37.body).getD .skip)) ?_;refine Zj2 _ b off 12 vc k w.heap.size wo.heap.size t _ ⟨xt,2,xl,xc⟩ (by omega) al.out ao.out HY.out u1 (by rfl) rfl (by rfl) (by rfl) (by rfl) ?_;intro u1 w1 ae;simp only [Pl.pu,List.foldl,Act.put,List.setIfInBounds_toArray,List.set_cons_zero,List.set_cons_succ];have ag:=hide (Zac af.out ae);clear ae;go_wp2_with fail;go_ret;exact⟨by rw [HR.out];rfl,Zac HW.out (Zac ac.out ag.out)⟩
        (have u2:0<xc:=by omega);by_cases u3:(t.en k).com=xc
        case pos =>
         have HR:Hid (mayB t=false):=am.out k au (fun m=>m.2 u2 u3);clear ai;go_wp2_with fail;refine Pl.q9 (ops:=Pl.find 17 ((Tryz.f37.body).getD .skip)) ?_;refine Zoa _ b off 12 vc k w.heap.size wo.heap.size t _ ⟨xt,2,xl,xc⟩ (by omega) al.out ao.out HY.out u1 u2 u3 (by rfl) rfl (by rfl) (by rfl) (by rfl) ?_;intro u1 w1 ae;simp only [Pl.pu,List.foldl,Act.put,List.setIfInBounds_toArray,List.set_cons_zero,List.set_cons_succ];have ag:=hide (Zac af.out ae);clear ae;go_wp2_with fail;go_ret;exact⟨by rw [HR.out];rfl,Zac HW.out (Zac ac.out ag.out)⟩
        have HN:Hid (∀j,j<k+1→(t.en j).tx≠xt∧(0<(xc:Int)→(t.en j).com≠xc)):=by
         intro j hj;by_cases e:j=k
         · subst e;exact⟨u1,fun _=>u3⟩
         · exact ak.out j (by omega)
        skip;go_wp2_with fail;refine Pl.q9 (ops:=Pl.find 17 ((Tryz.f37.body).getD .skip)) ?_;refine Zob _ b off 12 vc k w.heap.size wo.heap.size t _ ⟨xt,2,xl,xc⟩ (by omega) al.out ao.out HY.out u1 u2 u3 (by rfl) rfl (by rfl) (by rfl) (by rfl) ?_;intro u1 w1 ae;simp only [Pl.pu,List.foldl,Act.put,List.setIfInBounds_toArray,List.set_cons_zero,List.set_cons_succ];have ag:=hide (Zac af.out ae);clear ae;go_wp2_with fail;go_roundw
        case rel=>exact ⟨k+1,by omega,by go_num,HN,ag⟩
        case measure=>simp only [intOf];omega
      · (have k1:¬(k:Int)<(i:Int):=by omega);have HN:Hid (∀j,j<i+1→EntOk t j):=ai.out (fun j hj=>ak.out j (by omega));have ag:Hid (Below W.heap.size W wk):=Zac ac.out af.out;clear ai am ak;go_wp2_with fail;go_roundw
        case rel=>exact ⟨i+1,by omega,by go_num,HN,ag⟩
        case measure=>simp only [intOf];omega
   · (have i1:¬(i:Int)<12:=by omega);have HR:Hid (mayB t=true):=Zgp ⟨aw.out.1,aw.out.2.1,aw.out.2.2,HL.out,fun j hj=>ad.out j (by omega)⟩;clear ad;go_wp2_with fail;go_ret;exact⟨by rw [HR.out];rfl,Zac HW.out ar.out⟩
section
variable {ops : Array Oper} {rest : List Oper} {o : Oper} {a : Act} {Q : Exit → Act → World → Prop}
theorem ZiM (w:World)(hw:Region.wanted o (yielded ops a.tmps)=true)(v:Value)(w':World)(aa:(execOp a.eval o).run Tryz.prog w=.ok (.value v) w')(hK:wpList Tryz.prog ops Q rest (a.put o.dst v) w'):wpList Tryz.prog ops Q (o :: rest) a w:=by
 refine BigFrame.wpList_want hw fun K hK'=>?_;unfold Oper.wp;rw [aa];exact hK' _ _ hK
theorem ZhJ (w:World)(hw:Region.wanted o (yielded ops a.tmps)=true)(t:TypeId)(x:Operand)(ho:o.op=.load t x)(p v:Value)(hp:a.eval x=p)(aa:(Instr.loadAt t p).run Tryz.prog w=.ok v w)(hK:wpList Tryz.prog ops Q rest (a.put o.dst v) w):wpList Tryz.prog ops Q (o :: rest) a w:=by
 refine ZiM w hw v w ?_ hK;have e:execOp a.eval o=(do pure (.value (← Instr.loadAt t (a.eval x)))):=by
  unfold execOp;rw [ho]
 rw [e,hp];simp [aa]
end
theorem ZeD (u:Un)(a:Option Addr)(len cap:Nat)(w:World)(h:Fs w a len cap u.row.xs) :
    Calls Tryz.prog 76 #[u.val (.slice a len cap)] w fun e w'=>e=.returned (.bool u.emp)∧Below w.heap.size w w':=by
  have HS:Hid (∀w',Below w.heap.size w w'→Calls Tryz.prog 115 #[u.val (.slice a len cap),.agg #[.int .i64 0,.int .i64 0,.int .i64 0,.int .i64 0,.int .i64 0,.int .i64 0,.float .f64 0,.bool false,.slice none 0 0,.int .i64 0,.int .i64 0,.int .i64 0]] w' fun e w''=>e=.returned (.bool u.emp)∧Below w'.heap.size w' w''):=fun w' hb=>ZkW u zeroU a len cap none 0 0 w' (h.keep hb (Nat.le_refl _)) (ZcX w')
  have HX:=hide (ZbH w u (.slice a len cap))
  have HW:Hid (∀o,Below w.heap.size w (w.alloc o)):=Zaa w
  clear h
  generalize u.emp=m at *
  unfold Un.val at HS ⊢
  go_enter Tryz.func76,Tryz.ntmps76
  go_wp2_with fail
  refine(HS.out _ (HW.out _)).mono ?_
  rintro e w1 ⟨rfl,hb1⟩
  have HW1:=hide (Zac (HW.out _) hb1)
  clear hb1
  go_wp2_with fail
  go_ret
  exact⟨rfl,HW1.out⟩
def ixU:Option Nat→Int
  | none=>-1
  | some i=>i
theorem Zpe (p:Un→Bool)(l:List Un):decide (0≤ixU (l.findIdx? p))=(l.findIdx? p).isSome:=by
 cases h:l.findIdx? p with
 | none=>rfl
 | some i=>exact decide_eq_true (Int.natCast_nonneg _)
theorem Zkk (w:World)(va:Option Addr)(vl vc:Nat)(l:List Ux)(h:Us w va vl l)(ag:vl≤1000000)(c:Int) :
    Calls Tryz.prog 112 #[.slice va vl vc,.int .i64 c] w fun e w'=>e=.returned (.bool (!(atU (uns l) c).emp))∧Below w.heap.size w w':=by
  (have hl:(uns l).length=vl:=by rw [ZcN,h.len]);have H0:=hide (Below.refl w.heap.size w);by_cases h1:c<1
  · (have HR:Hid ((!(atU (uns l) c).emp)=false):=by show _=_;rw [ZfQ (by omega),Zff];rfl);clear h hl;go_enter Tryz.func112,Tryz.ntmps112;go_wp2_with fail;go_ret;exact⟨by rw [HR.out];rfl,H0.out⟩
  by_cases h2:(vl:Int)<c
  · (have HR:Hid ((!(atU (uns l) c).emp)=false):=by show _=_;rw [ZfQ (by rw [hl];omega),Zff];rfl);clear h hl;go_enter Tryz.func112,Tryz.ntmps112;go_wp2_with fail;go_ret;exact⟨by rw [HR.out];rfl,H0.out⟩
  obtain⟨k,rfl⟩:∃k:Nat,c=(k:Int)+1:=⟨(c-1).toNat,by omega⟩;(have hk:k<vl:=by omega);rw [Zow _ (by omega),Zb6];obtain⟨b1,off,rfl,ab⟩:=h.at' k hk;have aa:=h.cols _ (h.mem hk);generalize l.getD k Ux.zero=y at *;have af:=hide (Zbs b1 (off+k*12) y w ab);have ae:Hid (Calls Tryz.prog 76 #[y.val] w fun e w'=>e=.returned (.bool y.u.emp)∧Below w.heap.size w w'):=ZeD y.u y.a y.n y.c w aa;clear ab aa h hl;generalize y.u.emp=m at *;(have i1:(k:Int)<(vl:Int):=by omega);(have i2:(1:Int)≤(k:Int)+1:=by omega);(have i3:(k:Int)+1≤(vl:Int):=by omega);clear h1 h2;go_enter Tryz.func112,Tryz.ntmps112;go_wp2_with (refine ZhJ _ (by rfl) 65 (.tmp 17) rfl (.pointer (some ⟨b1,off+k*12,none⟩)) y.val rfl af.out ?_);refine ae.out.mono ?_;rintro e w1 ⟨rfl,ac⟩;have ad:=hide ac;clear ac;go_wp2_with fail;go_ret;exact⟨rfl,ad.out⟩
theorem ZiJ {fn:Func}{x:Nat}(hr:fn.results=#[.cell x 65])(h:UnBlk W g u c)(tmps:Array Value)(ht:tmps.getD x undef=.pointer (some ⟨g,0,none⟩))(hc:∃a len cap,c=.slice a len cap):(results fn tmps).run Tryz.prog W=.ok (u.val c) W:=by
 have c0:=h.c0;have c1:=h.c1;have c2:=h.c2;have c3:=h.c3;have c4:=h.c4;have c5:=h.c5;have c6:=h.c6;have c7:=h.c7;have c8:=h.c8;have c9:=h.c9;have c10:=h.c10;have c11:=h.c11;obtain⟨a,len,cap,rfl⟩:=hc;(have aa:tmps[x]?.getD undef=.pointer (some ⟨g,0,none⟩):=by simpa using ht);simp [results,hr,aa,go_sem,c0,c1,c2,c3,c4,c5,c6,c7,c8,c9,c10,c11,Un.val]
theorem ZpH {fn:Func}{x:Nat}(aa:fn.results=#[.cell x 65]){u0:Un}{c0:Value}(h:UnBlk W g u0 c0)(u:Un)(c:Value)(hc:∃a len cap,c=.slice a len cap){A:Act}{R:Ending→World→Prop}(t2:A.tmps.getD x undef=.pointer (some ⟨g,0,none⟩))(hd:A.defers=[])
    (hR:R (.returned (u.val c)) (setUn W g u c)):bodyPost Tryz.prog fn R Exit.ret A (setUn W g u c):=by
  have hr:=ZeU h u c;generalize setUn W g u c=W' at *;exact bodyPost_ret (ZiJ aa hr _ t2 hc) hd hR
theorem ZmD (h:UnBlk w g u c)(c':Value):UnBlk (w.setCell ⟨g,8,none⟩ c') g u c':=by
 unfold UnBlk at h ⊢;rw [heap_setCell_same w g 8 _ 65 c' h];rfl
theorem Zoe (w:World)(g o:Nat)(u:Value):Frm (fun k=>k=g) w (w.setCell ⟨g,o,none⟩ u):=Frm.setCell (F:=fun k=>k=g) (Frm.refl _ w) (p:=⟨g,o,none⟩) rfl _
theorem ZeV (w:World)(g:Nat)(u:Un)(c:Value):Frm (fun k=>k=g) w (setUn w g u c):=by
 have hb:Below 0 w (setUn w g u c):=ZaS (Below.refl 0 w) (Nat.zero_le _) u c;exact⟨hb.os,hb.tape,hb.output,hb.size,fun k _ hk=>Zi3 w g u c k hk⟩
theorem UnBlk.stay (h:UnBlk w g u c){e:TypeId}(hs:Zlc e w w')(he:65≠e):UnBlk w' g u c:=(hs _ _ _ _ h he).trans h
theorem UnBlk.frm {F:Nat→Prop}(h:UnBlk w g u c)(hf:Frm F w w')(hn:¬F g):UnBlk w' g u c:=(hf.block g h.lt hn).trans h
theorem Zew (h:UnBlk w g u c)(hf:Frm (fun k=>k=g) w w'):Zlc 65 w w':=fun p C t fr hp ht=>hf.block p (Array.getElem?_eq_some_iff.1 hp).1 (fun e=>by
 subst e
 unfold UnBlk at h
 rw [h] at hp
 simp only [Option.some.injEq,Obj.cells.injEq] at hp
 exact ht hp.2.1.symm)
theorem ZaZ {u0:Un}{c0:Value}(h:UnBlk W g u0 c0)(u:Un)(a:Option Addr)(n c:Nat):(Instr.storeAt 65 (.pointer (some ⟨g,0,none⟩)) (u.val (.slice a n c))).run Tryz.prog W=.ok () (setUn W g u (.slice a n c)):=by
 have aa:∀(w:World) (a:Addr) (m:Mode) (x:Nat),(store a (.float .f64 x) m).run Tryz.prog w=stored Tryz.prog w a (.float .f64 x) m:=fun w a m x=>run_store Tryz.prog w a _ m rfl;have c0:=h.c0;have c1:=h.c1;have c2:=h.c2;have c3:=h.c3;have c4:=h.c4;have c5:=h.c5;have c6:=h.c6;have c7:=h.c7;have c8:=h.c8;have c9:=h.c9;have c10:=h.c10;have c11:=h.c11;have f0:=h.fz;simp [go_sem,Instr.storeAt,aa,stored,c0,c1,c2,c3,c4,c5,c6,c7,c8,c9,c10,c11,f0,Un.val,setUn]
theorem ZiW (w:World)(x:Ux):∃W,(Instr.storeAt 65 (.pointer (some ⟨w.heap.size,0,none⟩)) x.val).run Tryz.prog (w.alloc (.cells #[.int .i64 0,.int .i64 0,.int .i64 0,.int .i64 0,.int .i64 0,.int .i64 0,.float .f64 0,.bool false,.slice none 0 0,.int .i64 0,.int .i64 0,.int .i64 0] 65))=.ok () W∧UnBlk W w.heap.size x.u (.slice x.a x.n x.c)∧Below w.heap.size w W:=by
 have hz:UnBlk (w.alloc (.cells #[.int .i64 0,.int .i64 0,.int .i64 0,.int .i64 0,.int .i64 0,.int .i64 0,.float .f64 0,.bool false,.slice none 0 0,.int .i64 0,.int .i64 0,.int .i64 0] 65)) w.heap.size zeroU (.slice none 0 0):=ZbH w zeroU _;exact⟨_,ZaZ hz x.u x.a x.n x.c,ZeU hz _ _,ZaS (Zaa w _) (Nat.le_refl _) _ _⟩
theorem ZnS (x:Ux)(w:World)(h:Fs w x.a x.n x.c x.u.row.xs)(hn:x.n≤1000) :
    Calls Tryz.prog 113 #[x.val] w fun e w'=>∃a c,e=.returned (x.u.val (.slice a x.n c))∧OwnsV 32 w' w.heap.size (.slice a x.n c) (fVals x.u.row.xs)∧Fs w' a x.n c x.u.row.xs∧Below w.heap.size w w':=by
  have HU:=hide (ZbH w x.u (.slice x.a x.n x.c));have HB:Hid (∀A Z,Below w.heap.size w ((w.alloc A).alloc Z)):=ZaE w;have ai:Hid (∀Z,UnBlk ((w.alloc (.cells #[.int .i64 x.u.tx,.int .i64 x.u.no,.int .i64 x.u.prev,.int .i64 x.u.kind,.int .i64 x.u.page,.int .i64 x.u.slot,.float .f64 x.u.row.key,.bool x.u.row.dead,.slice x.a x.n x.c,.int .i64 x.u.row.wr,.int .i64 x.u.row.cell,.int .i64 x.u.row.no] 65)).alloc Z) w.heap.size x.u (.slice x.a x.n x.c)):=fun Z=>HU.out.keep (Zaa _ Z);have HZ:Hid (∀A,UnBlk ((w.alloc A).alloc (.cells #[.int .i64 0,.int .i64 0,.int .i64 0,.int .i64 0,.int .i64 0,.int .i64 0,.float .f64 0,.bool false,.slice none 0 0,.int .i64 0,.int .i64 0,.int .i64 0] 65)) (w.heap.size+1) zeroU (.slice none 0 0)):=fun A=>by
   have:=ZbH (w.alloc A) zeroU (.slice none 0 0);rwa [show (w.alloc A).heap.size=w.heap.size+1 by simp] at this
  have HV:Hid (∀A Z,Vs ((w.alloc A).alloc Z) x.a x.n (fVals x.u.row.xs)):=fun A Z=>(h.keep (HB.out A Z) (Nat.le_refl _)).vs;have ad:Hid (x.a=none→x.c=0):=h.nil;have ab:Hid (∀y∈x.u.row.xs,y<18446744073709551616):=h.fit;have aj:=hide h.len;(have ac:Hid (([]:List Value).length+x.n≤1000000):=by show _≤_;simp;omega);clear h HU;unfold Ux.val Un.val;go_enter Tryz.func113,Tryz.ntmps113;go_wp2_with (at_builtin;refine ZaD Zmi _ rfl (.const (.slice none 0 0)) (.tmp 5) rfl w.heap.size (.slice none 0 0) [] rfl (OwnsV.nil _ _ _) _ _ _ (fVals x.u.row.xs) rfl (HV.out _ _) ad.out ac.out (HB.out _ _).size ?_);intro v1 w2 ag ak ah;have aa:=aj.out;obtain⟨a1,c1,rfl,ao⟩:=OwnsV.fs (xs:=x.u.row.xs) (n:=x.n) (by simpa using ag) ab.out aa (by omega);have hu:=(ai.out _).stay ah (by decide);have hz:=(HZ.out _).stay ah (by decide);have af:=hide ((HB.out _ _).trans ak);have h8:=hu.c8;have ap:=hu.fz 8;have hu':=ZmD hu (.slice a1 x.n c1);have ae:=Zoe w2 w.heap.size 8 (.slice a1 x.n c1);have hz':=hz.frm ae (by omega);have am:=hide (ZeH w.heap.size x.u (.slice a1 x.n c1) ⟨_,_,_,rfl⟩ _ hu');have an:=hide (ZaZ hz' x.u a1 x.n c1);have HZ':=hide hz';have HO:Hid (OwnsV 32 (setUn (w2.setCell ⟨w.heap.size,8,none⟩ (.slice a1 x.n c1)) (w.heap.size+1) x.u (.slice a1 x.n c1)) w.heap.size (.slice a1 x.n c1) (fVals x.u.row.xs)):=by
   (have h1:OwnsV 32 w2 w.heap.size (.slice a1 x.n c1) (fVals x.u.row.xs):=by simpa using ag);exact(h1.stay (Zew hu ae) (by decide)).stay (Zew hz' (ZeV _ _ _ _)) (by decide)
  have al:Hid (Below w.heap.size w (setUn (w2.setCell ⟨w.heap.size,8,none⟩ (.slice a1 x.n c1)) (w.heap.size+1) x.u (.slice a1 x.n c1))):=ZaS (af.out.trans (ae.below af.out.size (fun k hk=>by rw [hk];exact Nat.le_refl _))) (Nat.le_succ _) _ _;clear ag ak ah ao hu hz hu' hz' ae ai HZ HV ad ac HB af aa;go_wp2_with (first | refine Zah _ rfl 65 (.tmp 1) rfl (.pointer (some ⟨w.heap.size,0,none⟩)) (x.u.val (.slice a1 x.n c1)) rfl am.out ?_ | refine Zad _ rfl rfl 65 (.tmp 2) (.tmp 9) rfl (.pointer (some ⟨w.heap.size+1,0,none⟩)) (x.u.val (.slice a1 x.n c1)) rfl rfl _ an.out ?_);refine ZpH rfl HZ'.out x.u (.slice a1 x.n c1) ⟨_,_,_,rfl⟩ (by rfl) (by rfl) ?_;exact⟨a1,c1,rfl,HO.out,HO.out.fsAt ab.out (by rw [aj.out];omega),al.out⟩
section
variable {ops : Array Oper} {rest : List Oper} {o : Oper} {a : Act} {Q : Exit → Act → World → Prop}
theorem Zc2 (w:World)(ab:o.guard=none)(S:TypeId)(s x:Operand)(ho:o.op=.call { callee:=.builtin .append,args:=#[s,x],argTypes:=#[S,S] })(vs vx:Value)(hs:a.eval s=vs)(hx:a.eval x=vx)(v':Value)(w':World)(aa:∀ty,(Builtin.append_ #[S,S] ty #[vs,vx]).run Tryz.prog w=.ok v' w')(hK:wpList Tryz.prog ops Q rest (a.put o.dst v') w'):wpList Tryz.prog ops Q (o :: rest) a w:=by
 refine wpList_plain ab fun K' hK'=>?_;unfold Oper.wp;simp [execOp,ho,resolve,invoke,builtin,hs,hx,aa,Result.andThen];exact hK' _ _ hK
end
open Go.Shelf
def ZmH:Go.Shelf.Ren:=⟨fun | 5=>44 | 8=>92 | 7=>91 | 19=>132 | 20=>133 | 10=>123 | 11=>124 | 12=>125 | 13=>126 | 14=>127 | 15=>128 | 16=>129 | 17=>130 | 18=>131 | 30=>156 | 31=>157 | 32=>158 | 33=>159 | 34=>160 | 35=>161 | 40=>182 | n=>n,fun | 23=>29 | 25=>3 | 3=>3 | 32=>142 | 22=>29 | 0=>0 | 44=>178 | 46=>88 | 4=>4 | 36=>170 | 35=>169 | 41=>175 | 5=>5 | 9=>9 | 53=>200 | 57=>204 | 63=>222 | 64=>223 | n=>n,fun | n=>n⟩
theorem Zof:Go.Proofs.SlLaysM.n5 Tryz.prog ZmH:={
 mixed:=by kernel_rfl
 f5:=⟨Tryz.f44.name,by decide,Tryz.func44.trans (congrArg some (by kernel_rfl))⟩
 f7:=⟨Tryz.f91.name,by decide,Tryz.func91.trans (congrArg some (by kernel_rfl))⟩
 f8:=Tryz.func92.trans (congrArg some (by kernel_rfl))
 f10:=⟨Tryz.f123.name,by decide,Tryz.func123.trans (congrArg some (by kernel_rfl))⟩
 f11:=⟨Tryz.f124.name,by decide,Tryz.func124.trans (congrArg some (by kernel_rfl))⟩
 f12:=⟨Tryz.f125.name,by decide,Tryz.func125.trans (congrArg some (by kernel_rfl))⟩
 f13:=⟨Tryz.f126.name,by decide,Tryz.func126.trans (congrArg some (by kernel_rfl))⟩
 f14:=⟨Tryz.f127.name,by decide,Tryz.func127.trans (congrArg some (by kernel_rfl))⟩
 f15:=⟨Tryz.f128.name,by decide,Tryz.func128.trans (congrArg some (by kernel_rfl))⟩
 f16:=⟨Tryz.f129.name,by decide,Tryz.func129.trans (congrArg some (by kernel_rfl))⟩
 f17:=⟨Tryz.f130.name,by decide,Tryz.func130.trans (congrArg some (by kernel_rfl))⟩
 f18:=⟨Tryz.f131.name,by decide,Tryz.func131.trans (congrArg some (by kernel_rfl))⟩
 f19:=Tryz.func132.trans (congrArg some (by kernel_rfl))
 f20:=Tryz.func133.trans (congrArg some (by kernel_rfl))
 f30:=⟨Tryz.f156.name,by decide,Tryz.func156.trans (congrArg some (by kernel_rfl))⟩
 f31:=Tryz.func157.trans (congrArg some (by kernel_rfl))
 f32:=Tryz.func158.trans (congrArg some (by kernel_rfl))
 f33:=⟨Tryz.f159.name,by decide,Tryz.func159.trans (congrArg some (by kernel_rfl))⟩
 f34:=⟨Tryz.f160.name,by decide,Tryz.func160.trans (congrArg some (by kernel_rfl))⟩
 f35:=⟨Tryz.f161.name,by decide,Tryz.func161.trans (congrArg some (by kernel_rfl))⟩
 f40:=⟨Tryz.f182.name,by decide,Tryz.func182.trans (congrArg some (by kernel_rfl))⟩
 t0:=Tryz.underlying0
 a0:=Tryz.isAgg0
 z0:=Tryz.sizeOf0
 v0:=Tryz.zeroValue0
 t3:=Tryz.underlying3
 a3:=Tryz.isAgg3
 z3:=Tryz.sizeOf3
 v3:=Tryz.zeroValue3
 t4:=Tryz.underlying4
 a4:=Tryz.isAgg4
 z4:=Tryz.sizeOf4
 v4:=Tryz.zeroValue4
 t5:=Tryz.underlying5
 a5:=Tryz.isAgg5
 z5:=Tryz.sizeOf5
 v5:=Tryz.zeroValue5
 t9:=Tryz.underlying9
 a9:=Tryz.isAgg9
 z9:=Tryz.sizeOf9
 v9:=Tryz.zeroValue9
 t22:=Tryz.underlying29
 a22:=Tryz.isAgg29
 z22:=Tryz.sizeOf29
 v22:=Tryz.zeroValue29
 t23:=Tryz.underlying29
 a23:=Tryz.isAgg29
 z23:=Tryz.sizeOf29
 v23:=Tryz.zeroValue29
 t25:=Tryz.underlying3
 a25:=Tryz.isAgg3
 z25:=Tryz.sizeOf3
 v25:=Tryz.zeroValue3
 t32:=Tryz.underlying142
 a32:=Tryz.isAgg142
 z32:=Tryz.sizeOf142
 v32:=Tryz.zeroValue142
 t35:=Tryz.underlying169
 a35:=Tryz.isAgg169
 z35:=Tryz.sizeOf169
 v35:=Tryz.zeroValue169
 t36:=Tryz.underlying170
 a36:=Tryz.isAgg170
 z36:=Tryz.sizeOf170
 v36:=Tryz.zeroValue170
 t41:=Tryz.underlying175
 a41:=Tryz.isAgg175
 z41:=Tryz.sizeOf175
 v41:=Tryz.zeroValue175
 t44:=Tryz.underlying178
 a44:=Tryz.isAgg178
 z44:=Tryz.sizeOf178
 v44:=Tryz.zeroValue178
 t46:=Tryz.underlying88
 a46:=Tryz.isAgg88
 z46:=Tryz.sizeOf88
 v46:=Tryz.zeroValue88
 t53:=Tryz.underlying200
 a53:=Tryz.isAgg200
 z53:=Tryz.sizeOf200
 v53:=Tryz.zeroValue200
 t57:=Tryz.underlying204
 a57:=Tryz.isAgg204
 z57:=Tryz.sizeOf204
 v57:=Tryz.zeroValue204
 t63:=Tryz.underlying222
 a63:=Tryz.isAgg222
 z63:=Tryz.sizeOf222
 v63:=Tryz.zeroValue222
 t64:=Tryz.underlying223
 a64:=Tryz.isAgg223
 z64:=Tryz.sizeOf223
 v64:=Tryz.zeroValue223 }
def ZgH:Go.Shelf.Ren:=⟨fun | 43=>45 | n=>n,fun | 22=>29 | 23=>3 | 0=>0 | 3=>3 | 4=>4 | n=>n,fun | n=>n⟩
theorem Zja:Go.Proofs.SlLaysE.n43 Tryz.prog ZgH:={
 mixed:=by kernel_rfl
 f43:=⟨Tryz.f45.name,by decide,Tryz.func45.trans (congrArg some (by kernel_rfl))⟩
 t0:=Tryz.underlying0
 a0:=Tryz.isAgg0
 z0:=Tryz.sizeOf0
 v0:=Tryz.zeroValue0
 t3:=Tryz.underlying3
 a3:=Tryz.isAgg3
 z3:=Tryz.sizeOf3
 v3:=Tryz.zeroValue3
 t4:=Tryz.underlying4
 a4:=Tryz.isAgg4
 z4:=Tryz.sizeOf4
 v4:=Tryz.zeroValue4
 t22:=Tryz.underlying29
 a22:=Tryz.isAgg29
 z22:=Tryz.sizeOf29
 v22:=Tryz.zeroValue29
 a23:=Tryz.isAgg3
 z23:=Tryz.sizeOf3 }
open Go.RowKit Go.Sort Go.Lib
def srt (ks:List Int):List Int:=ks.mergeSort fun x y=>decide (x≤y)
theorem Zg1 (ks:List Int):(srt ks).Perm ks:=List.mergeSort_perm _ _
theorem ZdJ (ks:List Int):(srt ks).length=ks.length:=(Zg1 ks).length_eq
theorem ZoC (ks:List Int){i j:Nat}(aa:i<j)(hj:j<(srt ks).length):(srt ks)[i]'(by omega)≤(srt ks)[j]:=by
 have h:(srt ks).Pairwise (fun a b=>decide (a≤b)=true):=List.pairwise_mergeSort (fun a b c h1 h2=>by simp only [decide_eq_true_eq] at *;exact Int.le_trans h1 h2) (fun a b=>by simp only [Bool.or_eq_true,decide_eq_true_eq];exact Int.le_total a b) ks;have:=List.pairwise_iff_getElem.1 h i j (by omega) hj aa;simpa using this
theorem Zf0 (d:List Int)(j:Nat)(h0:0<j)(hj:j<d.length):keeps d.toArray j=true↔d[j]≠d[j-1]'(by omega):=by
 unfold keeps;rw [decide_eq_true_eq,getElem!_pos d.toArray j (by simpa using hj),getElem!_pos d.toArray (j-1) (by simp;omega)];simp only [List.getElem_toArray];constructor
 · rintro (h | h)
   · omega
   · exact h
 · exact .inr
theorem Ze4 (ks:List Int):decide ((compactUpTo (srt ks).toArray (srt ks).toArray.size).length<ks.length) = !decide ks.Nodup:=by
 (have ab:(srt ks).toArray.size=ks.length:=by simp [ZdJ]);rw [ab];by_cases aa:∀j,j<ks.length→keeps (srt ks).toArray j=true
 · have hn:ks.Nodup:=by
    rw [← (Zg1 ks).nodup_iff];refine List.pairwise_iff_getElem.2 fun i j hi hj ac=>?_;have hk:=(Zf0 (srt ks) j (by omega) hj).1 (aa j (by rw [← ZdJ];exact hj));have h2:=ZoC ks (i:=j-1) (j:=j) (by omega) hj;by_cases e:i=j-1
    · subst e;exact fun h=>hk h.symm
    · have h1:=ZoC ks (i:=i) (j:=j-1) (by omega) (by omega);intro h;omega
   rw [compactUpTo_all _ _ aa];simp [hn]
 · have hn:¬ks.Nodup:=by
    intro hn;apply aa;intro j hj;rcases Nat.eq_zero_or_pos j with rfl | h0
    · exact keeps_lt_one _ 0 (by omega)
    · rw [Zf0 (srt ks) j h0 (by rw [ZdJ];exact hj)];have:=List.pairwise_iff_getElem.1 ((Zg1 ks).nodup_iff.2 hn) (j-1) j (by rw [ZdJ];omega) (by rw [ZdJ];exact hj) (by omega);exact fun h=>this h.symm
   have hl:(compactUpTo (srt ks).toArray ks.length).length<ks.length:=by
    unfold compactUpTo;rw [List.length_map];have:((List.range ks.length).filter (keeps (srt ks).toArray)).length<(List.range ks.length).length:=by
     rw [List.length_filter_lt_length_iff_exists];have:∃j,¬(j<ks.length→keeps (srt ks).toArray j=true):=Classical.not_forall.1 aa;obtain⟨j,hj⟩:=this;rw [Classical.not_imp] at hj;exact⟨j,List.mem_range.2 hj.1,hj.2⟩
    simpa using this
   rw [decide_eq_true hl,decide_eq_false hn];rfl
theorem ZdI {B n:Nat}{os:Array Obj}(d:Array Int)(hg:B≤g)(hB:B≤w.heap.size):Below B w (grow (putRow (Value.int .i64) (Sort.ahead w n) g 0 d) os):=by
 refine⟨rfl,rfl,rfl,by simp,fun k hk=>?_⟩;rw [heap_grow_old _ _ (by simp;omega)];(have:g≠k:=by omega);simp [putRow,mapBlock,Sort.ahead,Array.getElem?_modify,this]
theorem Zkh {cur:Array Value}{e:TypeId}{ks:List Int}(hg:w.heap[g]? = some (.cells cur e (0,0)))(ht:cur.toList.take ks.length=kVals ks):Holds (Value.int .i64) w g 0 ks.toArray:=by
 intro j hj;(have hj':j<ks.length:=by simpa using hj);refine⟨?_,frozen_of_row w g _ _ e hg⟩;rw [Nat.zero_add,cell_of_row _ _ _ _ _ _ hg,← Array.getElem?_toList];have:(cur.toList.take ks.length)[j]? = cur.toList[j]?:=List.getElem?_take_of_lt hj';rw [← this,ht,getElem!_pos ks.toArray j hj];simp [kVals,hj']
theorem ZgY (v:Value)(ks:List Int)(w:World)(base:Nat)(hb:base≤w.heap.size)(h:OwnsV 3 w base v (kVals ks))(hl:ks.length≤1000) :
    Calls Tryz.prog 78 #[v] w fun e w'=>e=.returned (.bool (!decide ks.Nodup))∧Below base w w':=by
  (have ae:(kVals ks).length=ks.length:=by simp [kVals]);rcases h.2 with ⟨rfl,h0⟩ | ⟨g,cap,cur,rfl,hg,hh,aj,ao,ap,ht⟩
  · rw [ae] at h0;have:ks=[]:=List.eq_nil_of_length_eq_zero h0;subst this;have HS:=hide (Go.Proofs.AnyM.slices_Sort_int_none Zof none 0 w);have HW:=hide (Below.refl base w);have HC:Hid (Calls Tryz.prog 45 #[.slice none 0 0] w fun e w'=>e=.returned (.slice none 0 0)∧w'=w):=by
     clear h hb hl ae h0 HS HW;go_enter Tryz.func45,Tryz.ntmps45;go_wp2_with fail;go_ret;exact⟨rfl,rfl⟩
    change Hid (Calls Tryz.prog 44 _ _ _) at HS;rw [show (!decide ([]:List Int).Nodup)=false by decide];clear h hb hl ae h0;go_enter Tryz.func78,Tryz.ntmps78;go_wp2_with fail;refine HS.out.mono ?_;rintro e w' ⟨rfl,hw⟩;obtain rfl:=hw.symm;go_wp2_with fail;refine HC.out.mono ?_;rintro e w' ⟨rfl,hw⟩;obtain rfl:=hw.symm;go_wp2_with fail;go_ret;exact⟨rfl,HW.out⟩
  · rw [ae] at aj ht ⊢;rw [Nat.mul_one] at ht;have hH:=Zkh hh ht;have ai:g<w.heap.size:=(Array.getElem?_eq_some_iff.1 hh).1;have HS:=hide (Go.Proofs.AnyM.slices_Sort_int Zof g 0 cap ks w hH ai (by omega));change Hid (Calls Tryz.prog 44 _ _ _) at HS;have HC:Hid (∀W,Holds (Value.int .i64) W g 0 (srt ks).toArray→base≤W.heap.size→Calls Tryz.prog 45 #[.slice (some ⟨g,0,none⟩) ks.length cap] W fun e w'=>e=.returned (.slice (some ⟨g,0,none⟩) (compactUpTo (srt ks).toArray (srt ks).toArray.size).length cap)∧Below base W w'):=by
     intro W hW an;(have ak:(srt ks).toArray.size=ks.length:=by simp [ZdJ]);have hc:=Go.Proofs.AnyE.slices_Compact Zja (Value.int .i64) (fun _=>rfl) (EqlAt.intD _ _ .i64) (NeqAt.intD _ _ .i64) 0 Tryz.zeroValue3 g 0 cap (srt ks).toArray W hW (by rw [ak];omega) (by rw [ak];exact aj);change Calls Tryz.prog 45 _ _ _ at hc;rw [ak] at hc ⊢;refine hc.mono ?_;rintro e w' ⟨rfl,q,rfl⟩;refine⟨rfl,?_⟩;have:=ZdI (n:=q) (os:=#[]) (compactUpTo (srt ks).toArray ks.length ++ List.replicate (ks.length-(compactUpTo (srt ks).toArray ks.length).length) 0).toArray hg an;rwa [grow_empty] at this
    have HH:=hide hH;have HG:=hide hg;have al:=hide ai;have HB:=hide hb;have am:=hide (Ze4 ks);rw [← Ze4 ks];generalize (compactUpTo (srt ks).toArray (srt ks).toArray.size).length=m at *;clear h ae hg hh aj ao ap ht hH ai hb am;by_cases hm:m<ks.length
    · rw [decide_eq_true hm];go_enter Tryz.func78,Tryz.ntmps78;go_wp2_with fail;refine HS.out.mono ?_;rintro e w1 ⟨rfl,n,os,ab⟩;(have aa:Below base w w1:=by rw [ab];exact ZdI _ HG.out HB.out);have ac:Holds (Value.int .i64) w1 g 0 (srt ks).toArray:=by
       rw [ab];exact holds_grow _ _ _ _ _ _ (by simpa using al.out) (holds_putRow _ _ _ _ ks.toArray _ (holds_ahead _ _ _ _ _ _ HH.out) (by simp))
      have af:=hide (HC.out w1 ac (Nat.le_trans HB.out aa.size));have ag:=hide aa;clear ab aa ac HS HC;go_wp2_with fail;refine af.out.mono ?_;rintro e w2 ⟨rfl,ad⟩;have ah:=hide (ag.out.trans ad);clear ad;go_wp2_with fail;go_ret;exact⟨rfl,ah.out⟩
    · rw [decide_eq_false hm];go_enter Tryz.func78,Tryz.ntmps78;go_wp2_with fail;refine HS.out.mono ?_;rintro e w1 ⟨rfl,n,os,ab⟩;(have aa:Below base w w1:=by rw [ab];exact ZdI _ HG.out HB.out);have ac:Holds (Value.int .i64) w1 g 0 (srt ks).toArray:=by
       rw [ab];exact holds_grow _ _ _ _ _ _ (by simpa using al.out) (holds_putRow _ _ _ _ ks.toArray _ (holds_ahead _ _ _ _ _ _ HH.out) (by simp))
      have af:=hide (HC.out w1 ac (Nat.le_trans HB.out aa.size));have ag:=hide aa;clear ab aa ac HS HC;go_wp2_with fail;refine af.out.mono ?_;rintro e w2 ⟨rfl,ad⟩;have ah:=hide (ag.out.trans ad);clear ad;go_wp2_with fail;go_ret;exact⟨rfl,ah.out⟩
theorem Zhe (a b:List Int):kVals (a ++ b)=kVals a ++ kVals b:=by simp [kVals]
theorem ZlS (a:List Int):(kVals a).length=a.length:=by simp [kVals]
theorem Zk2 (l:List Un)(k:Nat):(nosU (l.take k)).length≤k:=Nat.le_trans (Zju _) (by rw [List.length_take];omega)
theorem Zfx (a:Option Addr)(n cap:Nat)(l:List Ux)(w:World)(h:Us w a n l)(ci:n≤1000000) :
    Calls Tryz.prog 34 #[.slice a n cap] w fun e w'=>e=.returned (.int .i64 (chk (MayU (uns l))))∧Below w.heap.size w w':=by
  (have aw:(uns l).length=n:=by rw [ZcN,h.len]);have H0:=hide (Below.refl w.heap.size w);have aa:=Zqr (l:=uns l);rw [aw] at aa;by_cases h6:n<6
  · (have h6':(n:Int)<6:=by omega);rw [aa (by unfold lenU;simp;omega)];clear h aw aa h6;go_enter Tryz.func34,Tryz.ntmps34;go_wp2_with fail;go_ret;exact⟨rfl,H0.out⟩
  by_cases aj:378<n
  · (have h6':¬(n:Int)<6:=by omega);(have bb:(378:Int)<(n:Int):=by omega);rw [aa (by unfold lenU;simp;omega)];clear h aw aa h6 aj;go_enter Tryz.func34,Tryz.ntmps34;go_wp2_with fail;go_ret;exact⟨rfl,H0.out⟩
  (have h6':¬(n:Int)<6:=by omega);(have bb:¬(378:Int)<(n:Int):=by omega);(have ck:(n:Int).tmod 6=((n % 6:Nat):Int):=by rw [Int.ofNat_tmod];rfl);by_cases hm:n % 6=0;rotate_left
  · have hm':((((n % 6:Nat):Int)) == 0)=false:=beq_eq_false_iff_ne.2 (by omega);rw [aa (by unfold lenU;simp;omega)];clear h aw aa h6 aj;go_enter Tryz.func34,Tryz.ntmps34;go_wp2_with fail;go_ret;exact⟨rfl,H0.out⟩
  rw [hm] at ck;have ce:Hid (lenU (uns l).length=true):=(Zgl _).2 (by omega);have ay:=hide aw;have HE:=hide h;have cl:=hide h.len;(have bu:n≤378:=by omega);have cf:Hid (OwnsV 3 w w.heap.size (.slice none 0 0) (kVals (nosU ((uns l).take 0)))):=OwnsV.nil _ _ _;clear h aw aa h6 aj hm;go_enter Tryz.func34,Tryz.ntmps34;go_wp2_with fail;go_loopw [3,23] (fun v iv wr=>∃i:Nat,i≤n∧iv=.int .i64 (i:Nat)∧Hid (OwnsV 3 wr w.heap.size v (kVals (nosU ((uns l).take i))))∧Hid (∀j,j<i→okU ((uns l).getD j zeroU)=true)∧Hid (Below w.heap.size w wr)) (fun _ iv _=>n-(intOf iv).toNat)
  case atStart=>exact ⟨0,Nat.zero_le _,rfl,cf,(fun j hj=>absurd hj (Nat.not_lt_zero _)),H0⟩
  case round =>
   obtain⟨i,hi,rfl,bj,av,ar⟩:=hrel;rcases Nat.lt_or_ge i n with bi | cm
   · (have i1:(i:Int)<(n:Int):=by omega);have hr:=HE.out.keep ar.out (Nat.le_refl _);obtain⟨b1,off,rfl,bs⟩:=hr.at' i bi;have an:=hr.mem bi;have am:=hr.cols _ an;have bc:=hr.fits _ an;have bz:(uns l).getD i zeroU=(l.getD i Ux.zero).u:=Zb6 l i;generalize l.getD i Ux.zero=y at *;have bl:=hide (Zbs b1 (off+i*12) y _ bs);obtain⟨W2,bw,al,ac⟩:=ZiW _ y;have bq:=hide bw;have be:=hide (ZeH _ y.u (.slice y.a y.n y.c) ⟨_,_,_,rfl⟩ W2 al);have aq:=hide (ZeD y.u y.a y.n y.c W2 (am.keep ac (Nat.le_refl _)));have br:=hide al;have ax:=hide (am.keep ac (Nat.le_refl _));have cc:=hide bc;have ah:=hide (bj.out.keep ac (Nat.le_refl _));have ai:=hide (Zac ar.out ac);have bg:=hide (Zmd (l:=uns l) (k:=i) (by rw [ay.out];exact bi));have ba:=hide bz;have ad:y.u.val (.slice y.a y.n y.c)=y.val:=rfl;rw [ad] at aq be;clear bs an am bc bw al ac hr bj ar bz ad;cases he:y.u.emp with
     | true =>
      rw [he] at aq;have bn:Hid (∀j,j<i+1→okU ((uns l).getD j zeroU)=true):=fun j hj=>by
       by_cases e:j=i
       · rw [e,ba.out,okU,he];rfl
       · exact av.out j (by omega)
      have ag:Hid (nosU ((uns l).take (i+1))=nosU ((uns l).take i)):=by
       show _=_;rw [bg.out,ba.out,he];simp
      clear he av bg;go_wp2_with (first | refine Zah _ rfl 65 (.tmp 25) rfl (.pointer (some ⟨b1,off+i*12,none⟩)) y.val rfl bl.out ?_ | refine Zad _ rfl rfl 65 (.tmp 5) (.tmp 26) rfl (.pointer (some ⟨_,0,none⟩)) y.val rfl rfl W2 bq.out ?_ | refine Zah _ rfl 65 (.tmp 5) rfl (.pointer (some ⟨_,0,none⟩)) y.val rfl be.out ?_);refine aq.out.mono ?_;rintro e w3 ⟨rfl,ae⟩;have bh:=hide (Zac ai.out ae);have ab:=ah.out.keep ae (Nat.le_refl _);rw [← ag.out] at ab;replace ab:=hide ab;clear ae;go_wp2_with fail;go_roundw
      case rel=>exact ⟨i+1,by omega,by go_num,ab,bn,bh⟩
      case measure=>simp only [intOf];omega
     | false =>
      rw [he] at aq;have ag:Hid (nosU ((uns l).take (i+1))=nosU ((uns l).take i) ++ [y.u.no]):=by
       show _=_;rw [bg.out,ba.out,he];simp
      have cb:=hide he;clear he bg;go_wp2_with (first | refine Zah _ rfl 65 (.tmp 25) rfl (.pointer (some ⟨b1,off+i*12,none⟩)) y.val rfl bl.out ?_ | refine Zad _ rfl rfl 65 (.tmp 5) (.tmp 26) rfl (.pointer (some ⟨_,0,none⟩)) y.val rfl rfl W2 bq.out ?_ | refine Zah _ rfl 65 (.tmp 5) rfl (.pointer (some ⟨_,0,none⟩)) y.val rfl be.out ?_);refine aq.out.mono ?_;rintro e w3 ⟨rfl,ae⟩;have bh:=hide (Zac ai.out ae);have ab:=hide (ah.out.keep ae (Nat.le_refl _));have af:=hide (br.out.keep ae);have bf:=hide (ZeH _ y.u (.slice y.a y.n y.c) ⟨_,_,_,rfl⟩ w3 af.out);have ap:=hide (ZjM y.u y.a y.n y.c w3 (ax.out.keep ae (Nat.le_refl _)) cc.out.row);have ad:y.u.val (.slice y.a y.n y.c)=y.val:=rfl;rw [ad] at bf ap;clear ae ad be bl bq aq ah br ax ai;cases hmy:y.u.may with
      | false =>
       rw [hmy] at ap;have HN:Hid (MayU (uns l)=false):=Zq3 (i:=i) (by rw [ay.out];exact bi) (by rw [ba.out,okU,cb.out,hmy];rfl);clear hmy;go_wp2_with (refine Zah _ rfl 65 (.tmp 5) rfl (.pointer (some ⟨_,0,none⟩)) y.val rfl bf.out ?_);refine ap.out.mono ?_;rintro e w4 ⟨rfl,ak⟩;have az:=hide (Zac bh.out ak);clear ak;simp only [chk];go_wp2_with fail;go_ret;exact⟨by rw [HN.out];rfl,az.out⟩
      | true =>
       rw [hmy] at ap;have bn:Hid (∀j,j<i+1→okU ((uns l).getD j zeroU)=true):=fun j hj=>by
        by_cases e:j=i
        · rw [e,ba.out,okU,hmy];simp
        · exact av.out j (by omega)
       clear hmy av;go_wp2_with (refine Zah _ rfl 65 (.tmp 5) rfl (.pointer (some ⟨_,0,none⟩)) y.val rfl bf.out ?_);refine ap.out.mono ?_;rintro e w4 ⟨rfl,ak⟩;have az:=hide (Zac bh.out ak);have x1:=(af.out.keep ak).c1;have bk:=hide (Zaa w4 (.cells #[.int .i64 y.u.no] 3));have bo:=hide ((ab.out.keep ak (Nat.le_refl _)).keep bk.out (Nat.le_refl _));have cg:=hide (ZjB 3 w4 (.int .i64 y.u.no) rfl);(have cd:Hid ((kVals (nosU ((uns l).take i))).length+1≤1000000):=by show _≤_;rw [ZlS];have:=Zk2 (uns l) i;omega);have ca:Hid (w.heap.size≤(w4.alloc (.cells #[.int .i64 y.u.no] 3)).heap.size):=Nat.le_trans az.out.size bk.out.size;clear ak ab af ap bf;simp only [chk];go_wp2_with (at_builtin;refine ZaD Zjy _ rfl (.tmp 34) (.tmp 37) rfl w.heap.size _ (kVals (nosU ((uns l).take i))) rfl bo.out _ _ _ [.int .i64 y.u.no] rfl cg.out (fun h=>by cases h) cd.out ca.out ?_);intro v5 w5 bv bt _;have bp:Hid (OwnsV 3 w5 w.heap.size v5 (kVals (nosU ((uns l).take (i+1))))):=by
        show OwnsV _ _ _ _ _;rw [ag.out,Zhe];exact bv
       have ch:=hide ((az.out.trans (bk.out.mono az.out.size)).trans bt);clear bv bt;go_wp2_with fail;go_roundw
       case rel=>exact ⟨i+1,by omega,by go_num,bp,bn,ch⟩
       case measure=>simp only [intOf];omega
   · (have i1:¬(i:Int)<(n:Int):=by omega);(have cj:i=n:=by omega);have bx:(uns l).take i=uns l:=List.take_of_length_le (by rw [ay.out];omega);have ao:=bj.out;rw [bx] at ao;have bd:=hide (ZgY _ (nosU (uns l)) _ w.heap.size ar.out.size ao (by have:=Zju (uns l);rw [ay.out] at this;omega));have au:=Zpp ce.out (fun j hj=>av.out j (by rw [ay.out] at hj;omega));clear bj ao bx av cj;cases hnd:decide (nosU (uns l)).Nodup with
     | true =>
      rw [hnd] at au bd;have bm:=hide au;clear au hnd;go_wp2_with fail;refine bd.out.mono ?_;rintro e w2 ⟨rfl,ac⟩;have ai:=hide (ar.out.trans ac);clear ac;go_wp2_with fail;go_ret;exact⟨by rw [bm.out];rfl,ai.out⟩
     | false =>
      rw [hnd] at au bd;have bm:=hide au;clear au hnd;go_wp2_with fail;refine bd.out.mono ?_;rintro e w2 ⟨rfl,ac⟩;have ai:=hide (ar.out.trans ac);clear ac;go_wp2_with fail;go_ret;exact⟨by rw [bm.out];rfl,ai.out⟩
theorem Un.may_cols (h:u.may=true):u.row.xs.length≤4:=by
 have hu:undoB u.kind u.row=true:=by
  unfold Un.may at h;simp only [Bool.and_eq_true] at h;exact h.2
 unfold undoB at hu;split at hu
 · rw [Rw.same_eq hu];decide
 · split at hu
   · unfold Rw.may haveB at hu;simp only [Bool.and_eq_true,decide_eq_true_eq] at hu;exact hu.1.1.2.1.1
   · cases hu
theorem MayP.cols {l:List Un}(h:MayP l):∀u∈l,u.row.xs.length≤1000:=by
 intro u hu;obtain⟨i,hi,rfl⟩:=List.getElem_of_mem hu;have:=h.ok i hi;rw [unget hi,okU,Bool.or_eq_true] at this;rcases this with e | e
 · rw [(Un.emp_iff _).1 e];decide
 · have:=Un.may_cols e;omega
end Go.Proofs.YtiecfcjlhldhdaaGreat
