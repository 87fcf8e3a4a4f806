/-
  Lemmas.
-/
import Derived.Test.YtiecfcjlhldhdaaGreatKeae
import Derived.Laws.FloatBits
import Derived.Laws.FloatArith
import Derived.Laws.BitsAllLaws
import Derived.Test.YtiecfcjlhldhdaaGreatRows
import Derived.WalkKit
import Derived.WalkSpells
import Derived.WalkLawsBesides
import Derived.Laws.Externs
namespace Go.Proofs.YtiecfcjlhldhdaaGreat
open Go.RowKit
set_option linter.unusedVariables false
set_option linter.unusedSimpArgs false
set_option maxRecDepth 100000
set_option maxHeartbeats 4000000
variable {t:List Int}{w:World}{v:Sl}{x:Nat}
theorem Zgg:(Tryz.prog.info? 3).map (fun i=>(i.zero,i.size,i.bytes))=some (some (.int .i64 0),1,8):=by kernel_rfl
def Zan (t:List Int):List Value:=t.map fun x=>.int .i64 x
theorem Zd2 (t:List Int):∀u∈Zan t,u.oneCell'=true:=by
 intro u hu;obtain⟨i,_,rfl⟩:=List.mem_map.1 hu;rfl
theorem ZbN (t:List Int):(Zan t).length=t.length:=by simp [Zan]
theorem Zfp {i:Nat}(h:i<t.length):(Zan t)[i]? = some (.int .i64 (t.getD i 0)):=by simp [Zan,List.getD,h]
theorem ZjK (t:List Int)(i:Nat)(x:Int):Zan (t.set i x)=(Zan t).set i (.int .i64 x):=by simp [Zan,List.map_set]
def OwnN (w:World) (v:Sl) (t:List Int):Prop:=Own 3 1 w v (Zan t)
theorem OwnN.len (h:OwnN w v t):t.length=v.len:=by
 have:=h.1;rw [ZbN] at this;omega
theorem OwnN.new (w:World):OwnN (w.alloc (.cells #[] 3)) ⟨some ⟨w.heap.size,0,none⟩,0,0⟩ []:=
 ⟨rfl,.inr ⟨w.heap.size,0,_,rfl,heap_alloc_new w _,by simp,Nat.le_refl _,by simp,rfl⟩⟩
theorem OwnN.cellAt (h:OwnN w v t){g off:Nat}(ha:v.a=some ⟨g,off,none⟩){i:Nat}(hi:i<v.len):w.cell? ⟨g,off+i,none⟩=some (.int .i64 (t.getD i 0)):=by
 have:=Own.cell h ha i _ (Zfp (by rw [h.len];exact hi));rwa [Addr.add_lit] at this
theorem OwnN.frozen (h:OwnN w v t){g off:Nat}(ha:v.a=some ⟨g,off,none⟩)(o:Nat):w.frozen? ⟨g,o,none⟩=false:=by
 obtain⟨cur,hc⟩:=Own.kind h (k:=g) (by rw [Sl.blk,ha];rfl);exact frozen_of_row w g _ cur 3 hc
theorem OwnN.pos (h:OwnN w v t)(hp:0<v.len):∃g off,v.a=some ⟨g,off,none⟩:=by
 rcases h.2 with ⟨h0,_⟩ | ⟨g,off,cur,ha,_⟩
 · rw [h0] at hp;exact absurd hp (Nat.not_lt_zero _)
 · exact⟨g,off,ha⟩
theorem OwnN.gi {D:Nat→Prop}(h:OwnN w v t)(hD:∀k,v.blk=some k→D k)(hm:v.len≤1000000):Gi D w v t:=by
 refine⟨h.len,Own.nilcap h,Own.lecap h,hm,fun ad ha _=>hD _ (by rw [Sl.blk,ha];rfl),fun i hi=>?_⟩;obtain⟨g,off,ha⟩:=h.pos (by omega);exact⟨g,off,ha,h.cellAt ha hi⟩
theorem Gi.src {D:Nat→Prop}(h:Gi D w v t):Src Tryz.prog 1 29 v.val v.len (Zan t) w:=by
 obtain⟨a,len,cap⟩:=v;have hl:t.length=len:=h.len;cases a with
 | none =>
  have hc:cap=0:=h.nil rfl;(have h0:len=0:=by have:len≤cap:=h.le;omega);subst hc;subst h0;have:t=[]:=List.eq_nil_of_length_eq_zero hl;subst this;exact Src.ofNil w Tryz.underlying29 0
 | some ad =>
  refine Src.ofSlice w Tryz.underlying29 ad len cap (Zan t) (by rw [ZbN,hl,Nat.mul_one]) (fun j u hj=>?_) (Zd2 t);have aa:j<t.length:=by
   have:=(List.getElem?_eq_some_iff.1 hj).1;rwa [ZbN] at this
  obtain⟨b,off,e,c0⟩:=h.cell j (by show j<len;omega);obtain rfl:=Option.some.inj e;rw [Addr.add_lit,c0,← Zfp aa,hj]
theorem ZhQ {D:Nat→Prop}(w:World)(v:Sl)(t:List Int)(h:Gi D w v t)(ty:TypeId) :
    ∃v' w',(Builtin.append_ #[29,29] ty #[.slice (some ⟨w.heap.size,0,none⟩) 0 0,v.val]).run Tryz.prog (w.alloc (.cells #[] 3))=.ok v'.val w'∧OwnN w' v' t∧v'.len=v.len∧Below w.heap.size w w'∧∀k,v'.blk=some k→w.heap.size≤k:=by
  have hB:=Zaa w (.cells #[] 3);have h1:=(h.below hB (Nat.le_refl _)).src;obtain⟨v',w',ab,ho,aa,hf,ac⟩:=Zax Tryz.underlying29 Zgg rfl (by decide) _ ⟨some ⟨w.heap.size,0,none⟩,0,0⟩ [] (OwnN.new w) (fun _ h=>by cases h) _ v.len (Zan t) h1 (by have:=h.big;show 0+v.len≤_;omega) ty;refine⟨v',w',ab,ho,by rw [aa];exact Nat.zero_add _,hB.trans (hf.below hB.size (fun k hk=>?_)),fun k hk=>?_⟩
  · have:some w.heap.size=some k:=hk;cases this;exact Nat.le_refl _
  · rcases ac with e | ⟨e,_⟩
    · rw [e] at hk;have:some w.heap.size=some k:=hk;cases this;exact Nat.le_refl _
    · rw [e] at hk;cases hk;exact hB.size
section
variable {ops : Array Oper} {rest : List Oper} {o : Oper} {a : Act} {Q : Exit → Act → World → Prop}
theorem Zb2 {D:Nat→Prop}(w:World)(ab:o.guard=none)(s y:Operand)(ho:o.op=.call { callee:=.builtin .append,args:=#[s,y],argTypes:=#[29,29] })(v:Sl)(t:List Int)(hs:a.eval s=.slice (some ⟨w.heap.size,0,none⟩) 0 0)(hy:a.eval y=v.val)(h:Gi D w v t)
    (hK:∀v' w',OwnN w' v' t→v'.len=v.len→Below w.heap.size w w'→(∀k,v'.blk=some k→w.heap.size≤k)→wpList Tryz.prog ops Q rest (a.put o.dst v'.val) w'):wpList Tryz.prog ops Q (o :: rest) a (w.alloc (.cells #[] 3)):=by
  refine wpList_plain ab fun K hK'=>?_;obtain⟨v',w',aa,r1,r2,r3,r4⟩:=ZhQ w v t h o.type;unfold Oper.wp;simp [execOp,ho,resolve,invoke,builtin,hs,hy,aa,Result.andThen];exact hK' _ _ (hK v' w' r1 r2 r3 r4)
end
theorem ZqT (w:World)(g off len cap:Nat)(t:List Int)(o:OwnN w ⟨some ⟨g,off,none⟩,len,cap⟩ t)(i:Nat)(hi:i<len)(x:Int):∃W,(Instr.storeAt 3 (.pointer (some ⟨g,off+i,none⟩)) (.int .i64 x)).run Tryz.prog w=.ok () W∧OwnN W ⟨some ⟨g,off,none⟩,len,cap⟩ (t.set i x)∧Frm (fun k=>k=g) w W:=by
 have k0:=o.cellAt rfl hi;have f0:=o.frozen rfl (off+i);refine⟨w.setCell ⟨g,off+i,none⟩ (.int .i64 x),?_,?_,(Frm.refl (fun k=>k=g) w).setCell (p:=⟨g,off+i,none⟩) rfl _⟩
 · simp [go_sem,Instr.storeAt,k0,f0]
 · unfold OwnN;rw [ZjK];exact Own.setCell o rfl i _
theorem ZqR (w:World)(p:Nat)(u0 v0:Value)(k:LfBlk w p u0 v0)(u:Sl):∃W,(Instr.storeAt 29 (.pointer (some ⟨p,0,none⟩)) u.val).run Tryz.prog w=.ok () W∧LfBlk W p u.val v0∧Frm (fun k=>k=p) w W:=by
 have c0:=k.c0;have f0:=k.fz 0;refine⟨w.setCell ⟨p,0,none⟩ u.val,?_,?_,(Frm.refl (fun k=>k=p) w).setCell (p:=⟨p,0,none⟩) rfl _⟩
 · obtain⟨ua,ul,uc⟩:=u;unfold Sl.val;simp [go_sem,Instr.storeAt,c0,f0]
 · have h2:=heap_setCell_same _ p 0 _ 101 u.val k;unfold LfBlk;rw [h2];simp
def JnIs (D:Nat→Prop) (w:World) (l:List Sb) (x:Js) (e:Ending) (w':World):Prop:=Below w.heap.size w w'∧∃(u' v':Sl),e=.returned (.tuple #[lfV u' v',.int .i64 x.e])∧Gi (Old D w) w' u' x.t∧Gb (Old D w) w' v' l
theorem Zmy {D:Nat→Prop}(w:World)(u v:Sl)(t:List Int)(l:List Sb)(hi:Gi D w u t)(hg:Gb D w v l)(p:Int)(r:Sl)(hp:p<1∨2147483647<p) :
    Calls Tryz.prog 63 #[lfV u v,.int .i64 p,r.val] w fun e w'=>JnIs D w l ⟨t,1⟩ e w':=by
  have hT:=Tb.start u hg;have c0:=hT.k1.c0;have c1:=hT.k1.c1;obtain⟨W,ab,k,f,hB⟩:=hT.lay v;have aa:=hide ab;have HK:=hide k;have HF:Hid (JnIs D w l ⟨t,1⟩ (.returned (.tuple #[lfV u v,.int .i64 1])) W):=⟨hB,u,v,rfl,hi.old hB,hg.old hB⟩;clear hg hi hT ab k f hB;obtain⟨a,len,cap⟩:=v;obtain⟨ua,ul,uc⟩:=u;obtain⟨ra,rl,rc⟩:=r;unfold lfV Sl.val at *;simp only at *;by_cases h1:p<1
  · go_enter Tryz.func63,Tryz.ntmps63;go_wp2_with (refine Zad _ rfl rfl 101 (.tmp 6) (.tmp 19) rfl (.pointer (some ⟨w.heap.size+1,0,none⟩)) (.agg #[.slice ua ul uc,.slice a len cap]) rfl rfl W aa.out ?_);refine bodyPost_ret (Zbd (u:=⟨ua,ul,uc⟩) (v:=⟨a,len,cap⟩) rfl HK.out _ rfl rfl) rfl ?_;exact HF.out
  · (have h2:2147483647<p:=by omega);clear hp;go_enter Tryz.func63,Tryz.ntmps63;go_wp2_with (refine Zad _ rfl rfl 101 (.tmp 6) (.tmp 19) rfl (.pointer (some ⟨w.heap.size+1,0,none⟩)) (.agg #[.slice ua ul uc,.slice a len cap]) rfl rfl W aa.out ?_);refine bodyPost_ret (Zbd (u:=⟨ua,ul,uc⟩) (v:=⟨a,len,cap⟩) rfl HK.out _ rfl rfl) rfl ?_;exact HF.out
namespace Fl
def isn (x:Nat):Bool:=decide (9218868437227405312<x % 9223372036854775808)
def sv (x:Nat):Int:=if x<9223372036854775808 then (x:Int) else 9223372036854775808-(x:Int)
def mag (r:Nat):Nat:=if r<4503599627370496 then r else (4503599627370496+r % 4503599627370496)*2 ^ (r / 4503599627370496-1)
theorem mag_lt {r s:Nat}(h:r<s):mag r<mag s:=by
 unfold mag
 by_cases hr:r<4503599627370496
 · by_cases hs:s<4503599627370496
   · simp [hr,hs,h]
   · simp only [hr,hs,if_true,if_false]
     have:0<2 ^ (s / 4503599627370496-1):=Nat.two_pow_pos _
     calc r<4503599627370496*1:=by omega
      _≤(4503599627370496+s % 4503599627370496)*2 ^ (s / 4503599627370496-1):=Nat.mul_le_mul (by omega) this
 · have hs:¬s<4503599627370496:=by omega
   simp only [hr,hs,if_false]
   by_cases he:r / 4503599627370496=s / 4503599627370496
   · rw [he]
     exact Nat.mul_lt_mul_of_pos_right (by omega) (Nat.two_pow_pos _)
   · have aa:r / 4503599627370496<s / 4503599627370496:=by omega
     have hp:0<2 ^ (r / 4503599627370496-1):=Nat.two_pow_pos _
     have e1:r / 4503599627370496-1+1≤s / 4503599627370496-1:=by omega
     calc (4503599627370496+r % 4503599627370496)*2 ^ (r / 4503599627370496-1)
         < (4503599627370496*2)*2 ^ (r / 4503599627370496-1):=Nat.mul_lt_mul_of_pos_right (by omega) hp
       _=4503599627370496*2 ^ (r / 4503599627370496-1+1):=by rw [Nat.pow_succ,Nat.mul_assoc,Nat.mul_comm 2]
       _≤4503599627370496*2 ^ (s / 4503599627370496-1):=Nat.mul_le_mul_left _ (Nat.pow_le_pow_right (by omega) e1)
       _≤(4503599627370496+s % 4503599627370496)*2 ^ (s / 4503599627370496-1):=Nat.mul_le_mul_right _ (by omega)
theorem mag_lt_iff {r s:Nat}:mag r<mag s↔r<s:=by
 constructor
 · intro h;by_cases h1:r<s
   · exact h1
   · by_cases h2:s<r
     · have:=mag_lt h2;omega
     · (have:r=s:=by omega);subst this;omega
 · exact mag_lt
theorem mag_zero:mag 0=0:=by simp [mag]
def smag (neg:Bool) (r:Nat):Int:=if neg then -((mag r:Nat):Int) else ((mag r:Nat):Int)
theorem read_eq (x:Nat)(hx:x<18446744073709551616):Ieee.double.read x =
    (if x % 9223372036854775808<4503599627370496 then Ieee.Datum.number (decide (9223372036854775808≤x)) (x % 9223372036854775808) (-1074)
     else if x % 9223372036854775808<9218868437227405312 then
      Ieee.Datum.number (decide (9223372036854775808≤x)) (4503599627370496+x % 9223372036854775808 % 4503599627370496) (-1074+((x % 9223372036854775808 / 4503599627370496-1:Nat):Int))
     else if x % 9223372036854775808=9218868437227405312 then Ieee.Datum.infinity (decide (9223372036854775808≤x))
     else Ieee.Datum.nan (decide (9223372036854775808≤x)) (x % 9223372036854775808-9218868437227405312)):=by
  (have e1:Ieee.double.signWeight=9223372036854775808:=by decide);(have e2:Ieee.double.binade=4503599627370496:=by decide);(have e3:Ieee.double.infRung=9218868437227405312:=by decide);(have e4:Ieee.double.leastPlace = -1074:=by decide);have en:(x / 9223372036854775808 % 2 == 1)=decide (9223372036854775808≤x):=by
   rw [Bool.eq_iff_iff];simp only [beq_iff_eq,decide_eq_true_eq];omega
  unfold Ieee.Format.read;simp only [e1,e2,e3,e4,en]
theorem read_number (x:Nat)(hx:x<18446744073709551616)(hf:x % 9223372036854775808<9218868437227405312) :
    ∃m k:Nat,Ieee.double.read x=Ieee.Datum.number (decide (9223372036854775808≤x)) m (-1074+(k:Int))∧m*2 ^ k=mag (x % 9223372036854775808):=by
  rw [read_eq x hx];by_cases h1:x % 9223372036854775808<4503599627370496
  · exact⟨x % 9223372036854775808,0,by simp [h1],by simp [mag,h1]⟩
  · refine⟨4503599627370496+x % 9223372036854775808 % 4503599627370496,x % 9223372036854775808 / 4503599627370496-1,?_,?_⟩
    · rw [if_neg h1,if_pos hf]
    · simp only [mag,h1,if_false]
theorem cmp_congr {a b c d:Int}(h1:a<b↔c<d)(h2:a=b↔c=d):compare a b=compare c d:=by
 simp only [compare,compareOfLessAndEq];simp only [h1,h2]
theorem signed_scale (s:Bool)(m a c:Nat)(h:c≤a):Ieee.signed s m (a-c)*(2 ^ c:Nat)=(if s then -((m*2 ^ a:Nat):Int) else ((m*2 ^ a:Nat):Int)):=by
 have e:m <<< (a-c)*2 ^ c=m*2 ^ a:=by
  rw [Nat.shiftLeft_eq,Nat.mul_assoc,← Nat.pow_add];congr 2;omega
 unfold Ieee.signed;cases s
 · simp only [Bool.false_eq_true,if_false];rw [← Int.natCast_mul,e]
 · simp only [if_true];rw [Int.neg_mul,← Int.natCast_mul,e]
theorem smag_lt_iff (x y:Nat)(hx:x<18446744073709551616)(hy:y<18446744073709551616) :
    smag (decide (9223372036854775808≤x)) (x % 9223372036854775808)<smag (decide (9223372036854775808≤y)) (y % 9223372036854775808)↔sv x<sv y:=by
  have a1:=@mag_lt_iff (x % 9223372036854775808) (y % 9223372036854775808);have a2:=@mag_lt_iff (y % 9223372036854775808) (x % 9223372036854775808);have a3:=@mag_lt_iff 0 (x % 9223372036854775808);have a4:=@mag_lt_iff 0 (y % 9223372036854775808);rw [mag_zero] at a3 a4;unfold smag sv;by_cases c1:x<9223372036854775808
  · have e1:decide (9223372036854775808≤x)=false:=decide_eq_false (by omega);by_cases c2:y<9223372036854775808
    · have e2:decide (9223372036854775808≤y)=false:=decide_eq_false (by omega);simp only [e1,e2,c1,c2,if_true,Bool.false_eq_true,if_false];omega
    · have e2:decide (9223372036854775808≤y)=true:=decide_eq_true (by omega);simp only [e1,e2,c1,c2,if_true,Bool.false_eq_true,if_false];omega
  · have e1:decide (9223372036854775808≤x)=true:=decide_eq_true (by omega);by_cases c2:y<9223372036854775808
    · have e2:decide (9223372036854775808≤y)=false:=decide_eq_false (by omega);simp only [e1,e2,c1,c2,if_true,Bool.false_eq_true,if_false];omega
    · have e2:decide (9223372036854775808≤y)=true:=decide_eq_true (by omega);simp only [e1,e2,c1,c2,if_true,if_false];omega
theorem int_tri {a b c d:Int}(h1:a<b↔c<d)(h2:b<a↔d<c):a=b↔c=d:=by omega
theorem order_eq (x y:Nat)(hx:x<18446744073709551616)(hy:y<18446744073709551616) :
    Ieee.double.order x y=if isn x || isn y then none else some (compare (sv x) (sv y)):=by
  unfold Ieee.Format.order;by_cases nx:isn x=true
  · (have nx':9218868437227405312<x % 9223372036854775808:=by simpa [isn] using nx);rw [nx,Bool.true_or,if_pos rfl,read_eq x hx,if_neg (by omega),if_neg (by omega),if_neg (by omega)];rfl
  · (have nx':x % 9223372036854775808≤9218868437227405312:=by simpa [isn] using nx);by_cases ny:isn y=true
    · (have ny':9218868437227405312<y % 9223372036854775808:=by simpa [isn] using ny);rw [ny,Bool.or_true,if_pos rfl,read_eq y hy,if_neg (by omega),if_neg (by omega),if_neg (by omega)];cases Ieee.double.read x <;> rfl
    · (have ny':y % 9223372036854775808≤9218868437227405312:=by simpa [isn] using ny);rw [Bool.eq_false_iff.2 nx,Bool.eq_false_iff.2 ny];simp only [Bool.or_self,Bool.false_eq_true,if_false];by_cases fx:x % 9223372036854775808=9218868437227405312
      · have rx:Ieee.double.read x=.infinity (decide (9223372036854775808≤x)):=by
         rw [read_eq x hx,if_neg (by omega),if_neg (by omega),if_pos fx]
        by_cases fy:y % 9223372036854775808=9218868437227405312
        · have ry:Ieee.double.read y=.infinity (decide (9223372036854775808≤y)):=by
           rw [read_eq y hy,if_neg (by omega),if_neg (by omega),if_pos fy]
          rw [rx,ry];(have ex:x=9218868437227405312∨x=18442240474082181120:=by omega);(have ey:y=9218868437227405312∨y=18442240474082181120:=by omega);rcases ex with rfl | rfl <;> rcases ey with rfl | rfl <;> decide
        · obtain⟨n,k,ry,_⟩:=read_number y hy (by omega);rw [rx,ry];simp only [Ieee.Datum.order];(have ex:x=9218868437227405312∨x=18442240474082181120:=by omega);congr 1;rcases ex with rfl | rfl
          · have:sv y<sv 9218868437227405312:=by
             unfold sv;simp only [show (9218868437227405312:Nat)<9223372036854775808 from by omega,if_true];split <;> omega
            have e:compare (sv 9218868437227405312) (sv y)=.gt:=Int.compare_eq_gt.2 this;rw [e];rfl
          · have:sv 18442240474082181120<sv y:=by
             unfold sv;simp only [show ¬(18442240474082181120:Nat)<9223372036854775808 from by omega,if_false];split <;> omega
            have e:compare (sv 18442240474082181120) (sv y)=.lt:=Int.compare_eq_lt.2 this;rw [e];rfl
      · obtain⟨m,j,rx,hm⟩:=read_number x hx (by omega);by_cases fy:y % 9223372036854775808=9218868437227405312
        · have ry:Ieee.double.read y=.infinity (decide (9223372036854775808≤y)):=by
           rw [read_eq y hy,if_neg (by omega),if_neg (by omega),if_pos fy]
          rw [rx,ry];simp only [Ieee.Datum.order];(have ey:y=9218868437227405312∨y=18442240474082181120:=by omega);congr 1;rcases ey with rfl | rfl
          · have:sv x<sv 9218868437227405312:=by
             unfold sv;simp only [show (9218868437227405312:Nat)<9223372036854775808 from by omega,if_true];split <;> omega
            have e:compare (sv x) (sv 9218868437227405312)=.lt:=Int.compare_eq_lt.2 this;rw [e];rfl
          · have:sv 18442240474082181120<sv x:=by
             unfold sv;simp only [show ¬(18442240474082181120:Nat)<9223372036854775808 from by omega,if_false];split <;> omega
            have e:compare (sv x) (sv 18442240474082181120)=.gt:=Int.compare_eq_gt.2 this;rw [e];rfl
        · obtain⟨n,k,ry,hn⟩:=read_number y hy (by omega);rw [rx,ry];simp only [Ieee.Datum.order];congr 1;(have eb:min (-1074+(j:Int)) (-1074+(k:Int)) = -1074+((min j k:Nat):Int):=by omega);(have e1:(-1074+(j:Int)-(-1074+((min j k:Nat):Int))).toNat=j-min j k:=by omega);(have e2:(-1074+(k:Int)-(-1074+((min j k:Nat):Int))).toNat=k-min j k:=by omega);rw [eb,e1,e2];have s1:=signed_scale (decide (9223372036854775808≤x)) m j (min j k) (Nat.min_le_left _ _);have s2:=signed_scale (decide (9223372036854775808≤y)) n k (min j k) (Nat.min_le_right _ _);rw [hm] at s1;rw [hn] at s2;(have hp:(0:Int)<((2 ^ min j k:Nat):Int):=by exact_mod_cast Nat.two_pow_pos _);generalize Ieee.signed (decide (9223372036854775808≤x)) m (j-min j k)=A at *;generalize Ieee.signed (decide (9223372036854775808≤y)) n (k-min j k)=B at *;have l1:A<B↔smag (decide (9223372036854775808≤x)) (x % 9223372036854775808)<smag (decide (9223372036854775808≤y)) (y % 9223372036854775808):=by
           unfold smag;rw [← s1,← s2];exact (Int.mul_lt_mul_right hp).symm
          have l2:B<A↔smag (decide (9223372036854775808≤y)) (y % 9223372036854775808)<smag (decide (9223372036854775808≤x)) (x % 9223372036854775808):=by
           unfold smag;rw [← s1,← s2];exact (Int.mul_lt_mul_right hp).symm
          have l3:=l1.trans (smag_lt_iff x y hx hy);have l4:=l2.trans (smag_lt_iff y x hy hx);exact cmp_congr l3 (int_tri l3 l4)
def val (x:Nat):Nat:=if isn x then 9221120237041090561 else x
def key (x:Nat):Nat:=if x=9223372036854775808 then 0 else val x
def rk (x:Nat):Nat:=if 9223372036854775808≤key x then 18446744073709551615-key x else key x+9223372036854775808
def less (a b:Nat):Bool:=!isn a && (isn b || decide (sv a<sv b))
def ofRank (r:Nat):Nat:=if 9223372036854775808≤r then r-9223372036854775808 else 18446744073709551615-r
theorem isn_iff (x:Nat):isn x=true↔9218868437227405312<x % 9223372036854775808:=by simp [isn]
theorem isn_not (x:Nat):isn x=false↔x % 9223372036854775808≤9218868437227405312:=by simp [isn]
theorem val_lt (hx:x<18446744073709551616):val x<18446744073709551616:=by unfold val;split <;> omega
theorem key_lt (hx:x<18446744073709551616):key x<18446744073709551616:=by
 have:=val_lt hx;unfold key;split <;> omega
theorem isn_val (x:Nat):isn (val x)=isn x:=by
 unfold val;by_cases h:isn x=true
 · rw [if_pos h,h];decide
 · rw [if_neg h]
theorem isn_key (x:Nat):isn (key x)=isn x:=by
 unfold key;by_cases h:x=9223372036854775808
 · rw [if_pos h,h];decide
 · rw [if_neg h,isn_val]
theorem val_val (x:Nat):val (val x)=val x:=by
 unfold val;by_cases h:isn x=true
 · rw [if_pos h];decide
 · rw [if_neg h,if_neg h]
theorem sv_key (x:Nat)(h:isn x=false):sv (key x)=sv x:=by
 unfold key val;by_cases h2:x=9223372036854775808
 · subst h2;decide
 · rw [if_neg h2,h];simp
theorem less_key (a b:Nat):less (key a) (key b)=less a b:=by
 unfold less;rw [isn_key,isn_key];cases ha:isn a
 · cases hb:isn b
   · rw [sv_key a ha,sv_key b hb]
   · rfl
 · rfl
theorem eq_nought (x:Nat)(hx:x<18446744073709551616):(Ieee.double.order x 0 == some .eq)=decide (x=0∨x=9223372036854775808):=by
 rw [order_eq x 0 hx (by omega),show isn 0=false from by decide];cases h:isn x
 · have h':=(isn_not x).1 h;rw [Bool.eq_iff_iff];simp only [Bool.or_false,Bool.false_eq_true,if_false,beq_iff_eq,Option.some.injEq,decide_eq_true_eq,Int.compare_eq_eq];unfold sv;split <;> split <;> omega
 · have h':=(isn_iff x).1 h;rw [Bool.eq_iff_iff];simp;omega
theorem lt_order (x y:Nat)(hx:x<18446744073709551616)(hy:y<18446744073709551616) :
    (Ieee.double.order x y == some .lt)=(!isn x && !isn y && decide (sv x<sv y)):=by
  rw [order_eq x y hx hy];cases isn x <;> cases isn y <;> simp;rw [Bool.eq_iff_iff];simp only [beq_iff_eq,decide_eq_true_eq,Int.compare_eq_lt]
theorem key_nan (h:isn x=true):key x=9221120237041090561:=by
 unfold key val;rw [if_pos h,if_neg];rintro rfl;exact absurd h (by decide)
theorem key_num (h:isn x=false):key x=if x=9223372036854775808 then 0 else x:=by
 unfold key val;rw [h];simp
theorem sv_cases (x:Nat):(x<9223372036854775808∧sv x=x)∨(9223372036854775808≤x∧sv x=9223372036854775808-(x:Int)):=by
 unfold sv;by_cases h:x<9223372036854775808
 · rw [if_pos h];exact Or.inl ⟨h,rfl⟩
 · rw [if_neg h];exact Or.inr ⟨by omega,rfl⟩
theorem key_cases (h:isn x=false):(x=9223372036854775808∧key x=0)∨(x≠9223372036854775808∧key x=x):=by
 rw [key_num h];by_cases h2:x=9223372036854775808
 · rw [if_pos h2];exact Or.inl ⟨h2,rfl⟩
 · rw [if_neg h2];exact Or.inr ⟨h2,rfl⟩
theorem rk_cases (x:Nat):(9223372036854775808≤key x∧rk x=18446744073709551615-key x)∨(key x<9223372036854775808∧rk x=key x+9223372036854775808):=by
 unfold rk;by_cases h:9223372036854775808≤key x
 · rw [if_pos h];exact Or.inl ⟨h,rfl⟩
 · rw [if_neg h];exact Or.inr ⟨by omega,rfl⟩
theorem rk_less (a b:Nat)(ha:a<18446744073709551616)(hb:b<18446744073709551616):decide (rk a<rk b)=less a b:=by
 unfold less;rw [Bool.eq_iff_iff];have ra:=rk_cases a;have rb:=rk_cases b;have sa:=sv_cases a;have sb:=sv_cases b;cases h1:isn a
 · have h1':=(isn_not a).1 h1;have ka:=key_cases h1;cases h2:isn b
   · have h2':=(isn_not b).1 h2;have kb:=key_cases h2;simp only [Bool.not_false,Bool.true_and,Bool.false_or,decide_eq_true_eq];omega
   · have kb:=key_nan h2;simp only [Bool.not_false,Bool.true_and,Bool.true_or,decide_eq_true_eq,iff_true];omega
 · have h1':=(isn_iff a).1 h1;have ka:=key_nan h1;cases h2:isn b
   · have h2':=(isn_not b).1 h2;have kb:=key_cases h2;simp only [Bool.not_true,Bool.false_and,Bool.false_eq_true,decide_eq_true_eq,iff_false];omega
   · have kb:=key_nan h2;simp only [Bool.not_true,Bool.false_and,Bool.false_eq_true,decide_eq_true_eq,iff_false];omega
theorem of_rk (x:Nat)(hx:x<18446744073709551616):ofRank (rk x)=key x:=by
 have:=key_lt hx;have hz:key x≠9223372036854775808:=by
  unfold key val;by_cases h2:x=9223372036854775808
  · rw [if_pos h2];omega
  · rw [if_neg h2];split <;> omega
 unfold ofRank rk;(repeat' split);all_goals omega
theorem and_sign (k:Nat)(hk:k<18446744073709551616):(bits .and .u64 (k:Int) 9223372036854775808 != 0)=decide (9223372036854775808≤k):=by
 have e:bits .and .u64 (k:Int) 9223372036854775808=((k &&& 9223372036854775808:Nat):Int):=u64_and_nat k 9223372036854775808 hk (by omega);rw [e];have e2:(k &&& 9223372036854775808=0)↔k<9223372036854775808:=by
  constructor
  · intro h0;(have h1:(k &&& 9223372036854775808).testBit 63=false:=by rw [h0];exact Nat.zero_testBit 63);rw [Nat.testBit_and,show (9223372036854775808:Nat)=2 ^ 63 from rfl,Nat.testBit_two_pow_self,Bool.and_true,Nat.testBit_eq_decide_div_mod_eq] at h1;have h2:=of_decide_eq_false h1;omega
  · intro aa;apply Nat.eq_of_testBit_eq;intro i;rw [Nat.testBit_and,show (9223372036854775808:Nat)=2 ^ 63 from rfl,Nat.testBit_two_pow,Nat.zero_testBit];by_cases hi:63=i
    · subst hi;rw [Nat.testBit_lt_two_pow aa];rfl
    · rw [decide_eq_false hi,Bool.and_false]
 rw [Bool.eq_iff_iff,bne_iff_ne,decide_eq_true_eq];omega
theorem or_sign (k:Nat)(hk:k<9223372036854775808):bits .or .u64 (k:Int) 9223372036854775808=((k+9223372036854775808:Nat):Int):=by
 have e:bits .or .u64 (k:Int) 9223372036854775808=((k ||| 9223372036854775808:Nat):Int):=u64_or_nat k 9223372036854775808 (by omega) (by omega);rw [e];have e2:=Nat.two_pow_add_eq_or_of_lt (i:=63) (b:=k) hk 1;have e3:k ||| 9223372036854775808=k+9223372036854775808:=by
  rw [Nat.or_comm,Nat.add_comm];exact e2.symm
 rw [e3]
theorem not_word (k:Nat)(hk:k<18446744073709551616):bits .xor .u64 18446744073709551615 (k:Int)=((18446744073709551615-k:Nat):Int):=by
 have e:bits .xor .u64 18446744073709551615 (k:Int)=((18446744073709551615 ^^^ k:Nat):Int):=u64_xor_nat 18446744073709551615 k (by omega) hk;rw [e];have e2:=congrArg BitVec.toNat (BitVec.allOnes_xor (x:=BitVec.ofNat 64 k));rw [BitVec.toNat_xor,BitVec.toNat_not,BitVec.toNat_allOnes,BitVec.toNat_ofNat,Nat.mod_eq_of_lt (by omega)] at e2;rw [show (18446744073709551615:Nat)=2 ^ 64-1 from rfl,e2]
end Fl
theorem ZaN (b:Nat)(w:World):(callFunc 84 #[.float .f64 b]).run Tryz.prog w=.ok (.value (.int .u64 (b:Int))) w:=by
 rw [run_callFunc_extern (e:=Extern.MathFloatBits.float64bits) Tryz.func84 (by kernel_rfl) (by kernel_rfl) (by kernel_rfl) (by kernel_rfl)];rfl
theorem ZcW (n:Int)(w:World):(callFunc 48 #[.int .u64 n]).run Tryz.prog w=.ok (.value (.float .f64 n.toNat)) w:=by
 rw [run_callFunc_extern (e:=Extern.MathFloatBits.float64frombits) Tryz.func48 (by kernel_rfl) (by kernel_rfl) (by kernel_rfl) (by kernel_rfl)];rfl
theorem Zb9:FloatKind.f64.format=Ieee.double:=rfl
theorem Zpr (x:Nat)(hx:x<18446744073709551616):(Ieee.double.order x x != some .eq)=Fl.isn x:=by
 rw [Fl.order_eq x x hx hx];cases h:Fl.isn x
 · simp
 · simp
theorem Zdc (x:Nat)(hx:x<18446744073709551616)(w:World) :
    Calls Tryz.prog 147 #[.float .f64 x] w fun e w'=>e=.returned (.bool (Fl.isn x))∧w'=w:=by
  go_enter Tryz.func147,Tryz.ntmps147;go_wp2;go_ret;refine⟨?_,rfl⟩;rw [Zb9,Zpr x hx];rfl
theorem ZkV (w:World) :
    Calls Tryz.prog 188 #[] w fun e w'=>e=.returned (.float .f64 9221120237041090561)∧w'=w:=by
  have h1:=ZcW;go_enter Tryz.func188,Tryz.ntmps188;go_wp2;go_ret;exact⟨rfl,rfl⟩
theorem Zfe (x:Nat)(hx:x<18446744073709551616)(w:World) :
    Calls Tryz.prog 171 #[.float .f64 x] w fun e w'=>e=.returned (.float .f64 (Fl.val x))∧w'=w:=by
  go_enter Tryz.func171,Tryz.ntmps171;go_wp2_with fail;refine(Zdc x hx _).mono ?_;rintro e w' ⟨rfl,rfl⟩;cases h:Fl.isn x
  · go_wp2_with fail;go_ret;exact⟨by simp [Fl.val,h],rfl⟩
  · go_wp2_with fail;refine(ZkV _).mono ?_;rintro e w' ⟨rfl,rfl⟩;go_wp2_with fail;go_ret;exact⟨by simp [Fl.val,h],rfl⟩
theorem Zig (x:Nat)(hx:x<18446744073709551616)(w:World) :
    Calls Tryz.prog 141 #[.float .f64 x] w fun e w'=>e=.returned (.float .f64 (Fl.key x))∧w'=w:=by
  have hz:=Fl.eq_nought x hx;by_cases h0:x=0∨x=9223372036854775808
  · rw [decide_eq_true h0,← Zb9] at hz;(have hk:Fl.key x=0:=by rcases h0 with rfl | rfl <;> decide);clear h0;go_enter Tryz.func141,Tryz.ntmps141;go_wp2_with fail;go_ret;exact⟨by rw [hk];rfl,rfl⟩
  · rw [decide_eq_false h0,← Zb9] at hz;(have hk:Fl.key x=Fl.val x:=by unfold Fl.key;rw [if_neg (fun h=>h0 (Or.inr h))]);rw [hk];clear h0 hk;go_enter Tryz.func141,Tryz.ntmps141;go_wp2_with fail;refine(Zfe x hx _).mono ?_;rintro e w' ⟨rfl,rfl⟩;go_wp2_with fail;go_ret;exact⟨rfl,rfl⟩
theorem ZfR (a b:Nat):((a:Int) == (b:Int))=(a == b):=by
 rw [Bool.eq_iff_iff,beq_iff_eq,beq_iff_eq];omega
theorem Zbx (a b:Nat):((a:Int) != (b:Int))=(a != b):=by
 rw [Bool.eq_iff_iff,bne_iff_ne,bne_iff_ne];omega
theorem Zdp (a b:Nat)(w:World) :
    Calls Tryz.prog 173 #[.float .f64 a,.float .f64 b] w fun e w'=>e=.returned (.bool (a == b))∧w'=w:=by
  have h1:=ZaN;go_enter Tryz.func173,Tryz.ntmps173;go_wp2_with fail;go_ret;exact⟨by simp [ZfR],rfl⟩
theorem ZcE (a b:Nat)(w:World) :
    Calls Tryz.prog 40 #[.float .f64 a,.float .f64 b] w fun e w'=>e=.returned (.bool (a == b))∧w'=w:=by
  have h1:=ZaN;go_enter Tryz.func40,Tryz.ntmps40;go_wp2_with fail;go_ret;exact⟨by simp [ZfR],rfl⟩
theorem ZlO (b:Nat)(_hb:b<18446744073709551616)(h:(b:Int) / 4503599627370496 % 2048=2047):(IntKind.u64.wrap ((b:Int)*4096) != 0)=Fl.isn b:=by
 rw [IntKind.wrap_u64,Bool.eq_iff_iff,bne_iff_ne,Fl.isn_iff];omega
theorem Zkl (b:Nat)(h:¬(b:Int) / 4503599627370496 % 2048=2047):Fl.isn b=false:=by
 rw [Fl.isn_not];omega
theorem ZdF (b:Nat)(hb:b<18446744073709551616)(w:World) :
    Calls Tryz.prog 94 #[.int .u64 b] w fun e w'=>e=.returned (.bool (Fl.isn b))∧w'=w:=by
  go_enter Tryz.func94,Tryz.ntmps94;go_wp2_with fail
  · rename_i h;go_ret;exact⟨by rw [← ZlO b hb h];rfl,rfl⟩
  · rename_i h;go_ret;exact⟨by rw [Zkl b h];rfl,rfl⟩
theorem Zpm:IntKind.u64.max=18446744073709551615:=by decide
theorem ZnW (x:Nat)(hx:x<18446744073709551616)(w:World) :
    Calls Tryz.prog 107 #[.float .f64 x] w fun e w'=>e=.returned (.int .u64 (Fl.rk x:Nat))∧w'=w:=by
  have h1:=ZaN;have hk:=Fl.key_lt hx;have hr:=Fl.rk_cases x;have hs:=Fl.and_sign (Fl.key x) hk;by_cases hb:9223372036854775808≤Fl.key x
  · rw [decide_eq_true hb] at hs;(have hr:Fl.rk x=18446744073709551615-Fl.key x:=by omega);rw [hr,← Fl.not_word _ hk,← Zpm];clear hr;go_enter Tryz.func107,Tryz.ntmps107;go_wp2_with fail;refine(Zig x hx _).mono ?_;rintro e w' ⟨rfl,rfl⟩;go_wp2_with fail;go_ret;exact⟨rfl,rfl⟩
  · rw [decide_eq_false hb] at hs;(have hr:Fl.rk x=Fl.key x+9223372036854775808:=by omega);rw [hr,← Fl.or_sign _ (by omega)];clear hr;go_enter Tryz.func107,Tryz.ntmps107;go_wp2_with fail;refine(Zig x hx _).mono ?_;rintro e w' ⟨rfl,rfl⟩;go_wp2_with fail;go_ret;exact⟨rfl,rfl⟩
theorem Zb0 (x:Nat)(hx:x<18446744073709551616)(w:World) :
    Calls Tryz.prog 50 #[.float .f64 x] w fun e w'=>e=.returned (.int .u64 (Fl.val x:Nat))∧w'=w:=by
  have h1:=ZaN;go_enter Tryz.func50,Tryz.ntmps50;go_wp2_with fail;refine(ZdF x hx _).mono ?_;rintro e w' ⟨rfl,rfl⟩;cases h:Fl.isn x
  · go_wp2_with fail;go_ret;exact⟨by simp [Fl.val,h],rfl⟩
  · go_wp2_with fail;go_ret;exact⟨by simp [Fl.val,h],rfl⟩
theorem ZaK (x:Nat)(hx:x<18446744073709551616)(w:World) :
    Calls Tryz.prog 49 #[.float .f64 x] w fun e w'=>e=.returned (.int .u64 (Fl.key x:Nat))∧w'=w:=by
  by_cases h0:x=9223372036854775808
  · (have hv:Fl.val x=9223372036854775808:=by rw [h0];decide);(have hk:Fl.key x=0:=by rw [h0];decide);(have hb:(((Fl.val x:Nat):Int) == 9223372036854775808)=true:=by rw [hv];decide);rw [hk];clear h0 hv hk;go_enter Tryz.func49,Tryz.ntmps49;go_wp2_with fail;refine(Zb0 x hx _).mono ?_;rintro e w' ⟨rfl,rfl⟩;go_wp2_with fail;go_ret;exact⟨rfl,rfl⟩
  · have hv:Fl.val x≠9223372036854775808:=by
     unfold Fl.val;split
     · omega
     · exact h0
    (have hk:Fl.key x=Fl.val x:=by unfold Fl.key;rw [if_neg h0]);(have hb:(((Fl.val x:Nat):Int) == 9223372036854775808)=false:=by rw [beq_eq_false_iff_ne];omega);rw [hk];clear h0 hv hk;go_enter Tryz.func49,Tryz.ntmps49;go_wp2_with fail;refine(Zb0 x hx _).mono ?_;rintro e w' ⟨rfl,rfl⟩;go_wp2_with fail;go_ret;exact⟨rfl,rfl⟩
theorem ZbQ (a b:Nat)(ha:a<18446744073709551616)(hb:b<18446744073709551616)(w:World) :
    Calls Tryz.prog 121 #[.float .f64 a,.float .f64 b] w fun e w'=>e=.returned (.bool (Fl.less a b))∧w'=w:=by
  have hl:=Fl.lt_order a b ha hb;rw [← Zb9] at hl;cases h:Fl.isn b
  · have e1:Fl.less a b=(FloatKind.f64.format.order a b == some .lt):=by
     rw [hl,h];unfold Fl.less;rw [h];simp
    rw [e1];clear hl e1;go_enter Tryz.func121,Tryz.ntmps121;go_wp2_with fail;refine(Zdc b hb _).mono ?_;rintro e w' ⟨rfl,rfl⟩;go_wp2_with fail;go_ret;exact⟨rfl,rfl⟩
  · (have e1:Fl.less a b = !Fl.isn a:=by unfold Fl.less;rw [h];simp);rw [e1];clear hl e1;go_enter Tryz.func121,Tryz.ntmps121;go_wp2_with fail;refine(Zdc b hb _).mono ?_;rintro e w' ⟨rfl,rfl⟩;go_wp2_with fail;refine(Zdc a ha _).mono ?_;rintro e w' ⟨rfl,rfl⟩;go_wp2_with fail;go_ret;exact⟨rfl,rfl⟩
def cmp (a b:Nat):Int:=if Fl.less a b then -1 else if Fl.less b a then 1 else 0
theorem Ze5 (a b:Nat)(ha:a<18446744073709551616)(hb:b<18446744073709551616)(w:World) :
    Calls Tryz.prog 90 #[.float .f64 a,.float .f64 b] w fun e w'=>e=.returned (.int .i64 (cmp a b))∧w'=w:=by
  have e1:cmp a b=if Fl.less a b then -1 else if Fl.less b a then 1 else 0:=rfl;rw [e1];clear e1;have H1:Hid _:=ZbQ a b ha hb;have H2:Hid _:=ZbQ b a hb ha;generalize Fl.less a b=p at *;generalize Fl.less b a=q at *;go_enter Tryz.func90,Tryz.ntmps90;go_wp2_with fail;refine(H1.out _).mono ?_;rintro e w' ⟨rfl,rfl⟩;cases p
  · go_wp2_with fail;refine(H2.out _).mono ?_;rintro e w' ⟨rfl,rfl⟩;cases q
    · go_wp2_with fail;go_ret;exact⟨rfl,rfl⟩
    · go_wp2_with fail;go_ret;exact⟨rfl,rfl⟩
  · go_wp2_with fail;go_ret;exact⟨rfl,rfl⟩
theorem ZhS (x a b:Nat)(hx:x<18446744073709551616)(ha:a<18446744073709551616)(hb:b<18446744073709551616)(w:World) :
    Calls Tryz.prog 87 #[.float .f64 x,.float .f64 a,.float .f64 b] w fun e w'=>e=.returned (.bool (!Fl.less x a && Fl.less x b))∧w'=w:=by
  have H1:Hid _:=ZbQ x a hx ha;have H2:Hid _:=ZbQ x b hx hb;generalize Fl.less x a=p at *;generalize Fl.less x b=q at *;go_enter Tryz.func87,Tryz.ntmps87;go_wp2_with fail;refine(H1.out _).mono ?_;rintro e w' ⟨rfl,rfl⟩;cases p
  · go_wp2_with fail;refine(H2.out _).mono ?_;rintro e w' ⟨rfl,rfl⟩;go_wp2_with fail;go_ret;exact⟨by simp,rfl⟩
  · go_wp2_with fail;go_ret;exact⟨rfl,rfl⟩
theorem Zea (a b:Nat)(ha:a<18446744073709551616)(hb:b<18446744073709551616)(w:World) :
    Calls Tryz.prog 23 #[.float .f64 a,.float .f64 b] w fun e w'=>e=.returned (.bool (Fl.key a == Fl.key b))∧w'=w:=by
  have H1:Hid _:=ZaK a ha;have H2:Hid _:=ZaK b hb;generalize Fl.key a=p at *;generalize Fl.key b=q at *;go_enter Tryz.func23,Tryz.ntmps23;go_wp2_with fail;refine(H1.out _).mono ?_;rintro e w' ⟨rfl,rfl⟩;go_wp2_with fail;refine(H2.out _).mono ?_;rintro e w' ⟨rfl,rfl⟩;go_wp2_with fail;go_ret;exact⟨by simp [ZfR],rfl⟩
theorem ZcD (a b:Nat)(ha:a<18446744073709551616)(hb:b<18446744073709551616)(w:World) :
    Calls Tryz.prog 47 #[.float .f64 a,.float .f64 b] w fun e w'=>e=.returned (.bool (Fl.less a b))∧w'=w:=by
  have hf:=ZcW;have H1:Hid _:=ZaK a ha;have H2:Hid _:=ZaK b hb;have H3:Hid _:=ZdF (Fl.key a) (Fl.key_lt ha);have H4:Hid _:=ZdF (Fl.key b) (Fl.key_lt hb);have hl:Hid _:=Fl.lt_order (Fl.key a) (Fl.key b) (Fl.key_lt ha) (Fl.key_lt hb);rw [← Fl.less_key a b];have hd:Hid (Fl.less (Fl.key a) (Fl.key b)=(!Fl.isn (Fl.key a) && (Fl.isn (Fl.key b) || decide (Fl.sv (Fl.key a)<Fl.sv (Fl.key b))))):=rfl;generalize Fl.less (Fl.key a) (Fl.key b)=r at *;generalize Fl.key a=p at *;generalize Fl.key b=q at *;go_enter Tryz.func47,Tryz.ntmps47;go_wp2_with fail;refine(H1.out _).mono ?_;rintro e w' ⟨rfl,rfl⟩;go_wp2_with fail;refine(H2.out _).mono ?_;rintro e w' ⟨rfl,rfl⟩;go_wp2_with fail;refine(H1.out _).mono ?_;rintro e w' ⟨rfl,rfl⟩;go_wp2_with fail;refine(H3.out _).mono ?_;rintro e w' ⟨rfl,rfl⟩;cases hp:Fl.isn p
  · go_wp2_with fail;refine(H2.out _).mono ?_;rintro e w' ⟨rfl,rfl⟩;go_wp2_with fail;refine(H4.out _).mono ?_;rintro e w' ⟨rfl,rfl⟩;cases hq:Fl.isn q
    · go_wp2_with fail;go_ret;refine⟨?_,rfl⟩;rw [hd.out,hp,hq];have:=hl.out;rw [hp,hq] at this;simp [Zb9,this]
    · go_wp2_with fail;go_ret;refine⟨?_,rfl⟩;rw [hd.out,hp,hq];rfl
  · go_wp2_with fail;go_ret;refine⟨?_,rfl⟩;rw [hd.out,hp];rfl
end Go.Proofs.YtiecfcjlhldhdaaGreat
