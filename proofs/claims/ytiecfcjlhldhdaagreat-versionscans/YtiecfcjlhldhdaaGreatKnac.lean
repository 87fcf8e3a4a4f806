/-
  Lemmas.
-/
import Derived.Laws.FloatBits
import Derived.Laws.FloatArith
import Derived.Laws.BitsAllLaws
import Derived.Test.YtiecfcjlhldhdaaGreatRows
import Derived.WalkKit
import Derived.WalkSpells
import Derived.WalkLawsBesides
import Derived.Laws.Externs
import Derived.Test.YtiecfcjlhldhdaaGreatKnaa
namespace Go.Proofs.YtiecfcjlhldhdaaGreat
open Go.RowKit Go.Proofs.Tryz
set_option linter.unusedVariables false
set_option linter.unusedSimpArgs false
set_option maxRecDepth 100000
set_option maxHeartbeats 4000000
variable {w w':World}{p len cap q b B base z:Nat}{a:Option Addr}{xs:List Nat}{v:Value}{k:Int}{A:Act}
namespace Fl
def isn (x:Nat):Bool:=decide (9218868437227405312<x % 9223372036854775808)
def sv (x:Nat):Int:=if x<9223372036854775808 then (x:Int) else 9223372036854775808-(x:Int)
def mag (r:Nat):Nat:=if r<4503599627370496 then r else (4503599627370496+r % 4503599627370496)*2 ^ (r / 4503599627370496-1)
theorem mag_lt {r s:Nat}(h:r<s):mag r<mag s:=by
 unfold mag
 by_cases hr:r<4503599627370496
 · by_cases hs:s<4503599627370496
   · simp [hr,hs,h]
   · simp only [hr,hs,if_true,if_false]
     have:0<2 ^ (s / 4503599627370496-1):=Nat.two_pow_pos _
     calc r<4503599627370496*1:=by omega
      _≤(4503599627370496+s % 4503599627370496)*2 ^ (s / 4503599627370496-1):=Nat.mul_le_mul (by omega) this
 · have hs:¬s<4503599627370496:=by omega
   simp only [hr,hs,if_false]
   by_cases he:r / 4503599627370496=s / 4503599627370496
   · rw [he]
     exact Nat.mul_lt_mul_of_pos_right (by omega) (Nat.two_pow_pos _)
   · have aa:r / 4503599627370496<s / 4503599627370496:=by omega
     have hp:0<2 ^ (r / 4503599627370496-1):=Nat.two_pow_pos _
     have e1:r / 4503599627370496-1+1≤s / 4503599627370496-1:=by omega
     calc (4503599627370496+r % 4503599627370496)*2 ^ (r / 4503599627370496-1)
         < (4503599627370496*2)*2 ^ (r / 4503599627370496-1):=Nat.mul_lt_mul_of_pos_right (by omega) hp
       _=4503599627370496*2 ^ (r / 4503599627370496-1+1):=by rw [Nat.pow_succ,Nat.mul_assoc,Nat.mul_comm 2]
       _≤4503599627370496*2 ^ (s / 4503599627370496-1):=Nat.mul_le_mul_left _ (Nat.pow_le_pow_right (by omega) e1)
       _≤(4503599627370496+s % 4503599627370496)*2 ^ (s / 4503599627370496-1):=Nat.mul_le_mul_right _ (by omega)
theorem mag_lt_iff {r s:Nat}:mag r<mag s↔r<s:=by
 constructor
 · intro h;by_cases h1:r<s
   · exact h1
   · by_cases h2:s<r
     · have:=mag_lt h2;omega
     · (have:r=s:=by omega);subst this;omega
 · exact mag_lt
theorem mag_zero:mag 0=0:=by simp [mag]
def smag (neg:Bool) (r:Nat):Int:=if neg then -((mag r:Nat):Int) else ((mag r:Nat):Int)
theorem read_eq (x:Nat)(hx:x<18446744073709551616):Ieee.double.read x =
    (if x % 9223372036854775808<4503599627370496 then Ieee.Datum.number (decide (9223372036854775808≤x)) (x % 9223372036854775808) (-1074)
     else if x % 9223372036854775808<9218868437227405312 then
      Ieee.Datum.number (decide (9223372036854775808≤x)) (4503599627370496+x % 9223372036854775808 % 4503599627370496) (-1074+((x % 9223372036854775808 / 4503599627370496-1:Nat):Int))
     else if x % 9223372036854775808=9218868437227405312 then Ieee.Datum.infinity (decide (9223372036854775808≤x))
     else Ieee.Datum.nan (decide (9223372036854775808≤x)) (x % 9223372036854775808-9218868437227405312)):=by
  (have e1:Ieee.double.signWeight=9223372036854775808:=by decide);(have e2:Ieee.double.binade=4503599627370496:=by decide);(have e3:Ieee.double.infRung=9218868437227405312:=by decide);(have e4:Ieee.double.leastPlace = -1074:=by decide);have en:(x / 9223372036854775808 % 2 == 1)=decide (9223372036854775808≤x):=by
   rw [Bool.eq_iff_iff];simp only [beq_iff_eq,decide_eq_true_eq];omega
  unfold Ieee.Format.read;simp only [e1,e2,e3,e4,en]
theorem read_number (x:Nat)(hx:x<18446744073709551616)(hf:x % 9223372036854775808<9218868437227405312) :
    ∃m k:Nat,Ieee.double.read x=Ieee.Datum.number (decide (9223372036854775808≤x)) m (-1074+(k:Int))∧m*2 ^ k=mag (x % 9223372036854775808):=by
  rw [read_eq x hx];by_cases h1:x % 9223372036854775808<4503599627370496
  · exact⟨x % 9223372036854775808,0,by simp [h1],by simp [mag,h1]⟩
  · refine⟨4503599627370496+x % 9223372036854775808 % 4503599627370496,x % 9223372036854775808 / 4503599627370496-1,?_,?_⟩
    · rw [if_neg h1,if_pos hf]
    · simp only [mag,h1,if_false]
theorem cmp_congr {a b c d:Int}(h1:a<b↔c<d)(h2:a=b↔c=d):compare a b=compare c d:=by
 simp only [compare,compareOfLessAndEq];simp only [h1,h2]
theorem signed_scale (s:Bool)(m a c:Nat)(h:c≤a):Ieee.signed s m (a-c)*(2 ^ c:Nat)=(if s then -((m*2 ^ a:Nat):Int) else ((m*2 ^ a:Nat):Int)):=by
 have e:m <<< (a-c)*2 ^ c=m*2 ^ a:=by
  rw [Nat.shiftLeft_eq,Nat.mul_assoc,← Nat.pow_add];congr 2;omega
 unfold Ieee.signed;cases s
 · simp only [Bool.false_eq_true,if_false];rw [← Int.natCast_mul,e]
 · simp only [if_true];rw [Int.neg_mul,← Int.natCast_mul,e]
theorem smag_lt_iff (x y:Nat)(hx:x<18446744073709551616)(hy:y<18446744073709551616) :
    smag (decide (9223372036854775808≤x)) (x % 9223372036854775808)<smag (decide (9223372036854775808≤y)) (y % 9223372036854775808)↔sv x<sv y:=by
  have a1:=@mag_lt_iff (x % 9223372036854775808) (y % 9223372036854775808);have a2:=@mag_lt_iff (y % 9223372036854775808) (x % 9223372036854775808);have a3:=@mag_lt_iff 0 (x % 9223372036854775808);have a4:=@mag_lt_iff 0 (y % 9223372036854775808);rw [mag_zero] at a3 a4;unfold smag sv;by_cases c1:x<9223372036854775808
  · have e1:decide (9223372036854775808≤x)=false:=decide_eq_false (by omega);by_cases c2:y<9223372036854775808
    · have e2:decide (9223372036854775808≤y)=false:=decide_eq_false (by omega);simp only [e1,e2,c1,c2,if_true,Bool.false_eq_true,if_false];omega
    · have e2:decide (9223372036854775808≤y)=true:=decide_eq_true (by omega);simp only [e1,e2,c1,c2,if_true,Bool.false_eq_true,if_false];omega
  · have e1:decide (9223372036854775808≤x)=true:=decide_eq_true (by omega);by_cases c2:y<9223372036854775808
    · have e2:decide (9223372036854775808≤y)=false:=decide_eq_false (by omega);simp only [e1,e2,c1,c2,if_true,Bool.false_eq_true,if_false];omega
    · have e2:decide (9223372036854775808≤y)=true:=decide_eq_true (by omega);simp only [e1,e2,c1,c2,if_true,if_false];omega
theorem int_tri {a b c d:Int}(h1:a<b↔c<d)(h2:b<a↔d<c):a=b↔c=d:=by omega
theorem order_eq (x y:Nat)(hx:x<18446744073709551616)(hy:y<18446744073709551616) :
    Ieee.double.order x y=if isn x || isn y then none else some (compare (sv x) (sv y)):=by
  unfold Ieee.Format.order;by_cases nx:isn x=true
  · (have nx':9218868437227405312<x % 9223372036854775808:=by simpa [isn] using nx);rw [nx,Bool.true_or,if_pos rfl,read_eq x hx,if_neg (by omega),if_neg (by omega),if_neg (by omega)];rfl
  · (have nx':x % 9223372036854775808≤9218868437227405312:=by simpa [isn] using nx);by_cases ny:isn y=true
    · (have ny':9218868437227405312<y % 9223372036854775808:=by simpa [isn] using ny);rw [ny,Bool.or_true,if_pos rfl,read_eq y hy,if_neg (by omega),if_neg (by omega),if_neg (by omega)];cases Ieee.double.read x <;> rfl
    · (have ny':y % 9223372036854775808≤9218868437227405312:=by simpa [isn] using ny);rw [Bool.eq_false_iff.2 nx,Bool.eq_false_iff.2 ny];simp only [Bool.or_self,Bool.false_eq_true,if_false];by_cases fx:x % 9223372036854775808=9218868437227405312
      · have rx:Ieee.double.read x=.infinity (decide (9223372036854775808≤x)):=by
         rw [read_eq x hx,if_neg (by omega),if_neg (by omega),if_pos fx]
        by_cases fy:y % 9223372036854775808=9218868437227405312
        · have ry:Ieee.double.read y=.infinity (decide (9223372036854775808≤y)):=by
           rw [read_eq y hy,if_neg (by omega),if_neg (by omega),if_pos fy]
          rw [rx,ry];(have ex:x=9218868437227405312∨x=18442240474082181120:=by omega);(have ey:y=9218868437227405312∨y=18442240474082181120:=by omega);rcases ex with rfl | rfl <;> rcases ey with rfl | rfl <;> decide
        · obtain⟨n,k,ry,_⟩:=read_number y hy (by omega);rw [rx,ry];simp only [Ieee.Datum.order];(have ex:x=9218868437227405312∨x=18442240474082181120:=by omega);congr 1;rcases ex with rfl | rfl
          · have:sv y<sv 9218868437227405312:=by
             unfold sv;simp only [show (9218868437227405312:Nat)<9223372036854775808 from by omega,if_true];split <;> omega
            have e:compare (sv 9218868437227405312) (sv y)=.gt:=Int.compare_eq_gt.2 this;rw [e];rfl
          · have:sv 18442240474082181120<sv y:=by
             unfold sv;simp only [show ¬(18442240474082181120:Nat)<9223372036854775808 from by omega,if_false];split <;> omega
            have e:compare (sv 18442240474082181120) (sv y)=.lt:=Int.compare_eq_lt.2 this;rw [e];rfl
      · obtain⟨m,j,rx,hm⟩:=read_number x hx (by omega);by_cases fy:y % 9223372036854775808=9218868437227405312
        · have ry:Ieee.double.read y=.infinity (decide (9223372036854775808≤y)):=by
           rw [read_eq y hy,if_neg (by omega),if_neg (by omega),if_pos fy]
          rw [rx,ry];simp only [Ieee.Datum.order];(have ey:y=9218868437227405312∨y=18442240474082181120:=by omega);congr 1;rcases ey with rfl | rfl
          · have:sv x<sv 9218868437227405312:=by
             unfold sv;simp only [show (9218868437227405312:Nat)<9223372036854775808 from by omega,if_true];split <;> omega
            have e:compare (sv x) (sv 9218868437227405312)=.lt:=Int.compare_eq_lt.2 this;rw [e];rfl
          · have:sv 18442240474082181120<sv x:=by
             unfold sv;simp only [show ¬(18442240474082181120:Nat)<9223372036854775808 from by omega,if_false];split <;> omega
            have e:compare (sv x) (sv 18442240474082181120)=.gt:=Int.compare_eq_gt.2 this;rw [e];rfl
        · obtain⟨n,k,ry,hn⟩:=read_number y hy (by omega);rw [rx,ry];simp only [Ieee.Datum.order];congr 1;(have eb:min (-1074+(j:Int)) (-1074+(k:Int)) = -1074+((min j k:Nat):Int):=by omega);(have e1:(-1074+(j:Int)-(-1074+((min j k:Nat):Int))).toNat=j-min j k:=by omega);(have e2:(-1074+(k:Int)-(-1074+((min j k:Nat):Int))).toNat=k-min j k:=by omega);rw [eb,e1,e2];have s1:=signed_scale (decide (9223372036854775808≤x)) m j (min j k) (Nat.min_le_left _ _);have s2:=signed_scale (decide (9223372036854775808≤y)) n k (min j k) (Nat.min_le_right _ _);rw [hm] at s1;rw [hn] at s2;(have hp:(0:Int)<((2 ^ min j k:Nat):Int):=by exact_mod_cast Nat.two_pow_pos _);generalize Ieee.signed (decide (9223372036854775808≤x)) m (j-min j k)=A at *;generalize Ieee.signed (decide (9223372036854775808≤y)) n (k-min j k)=B at *;have l1:A<B↔smag (decide (9223372036854775808≤x)) (x % 9223372036854775808)<smag (decide (9223372036854775808≤y)) (y % 9223372036854775808):=by
           unfold smag;rw [← s1,← s2];exact (Int.mul_lt_mul_right hp).symm
          have l2:B<A↔smag (decide (9223372036854775808≤y)) (y % 9223372036854775808)<smag (decide (9223372036854775808≤x)) (x % 9223372036854775808):=by
           unfold smag;rw [← s1,← s2];exact (Int.mul_lt_mul_right hp).symm
          have l3:=l1.trans (smag_lt_iff x y hx hy);have l4:=l2.trans (smag_lt_iff y x hy hx);exact cmp_congr l3 (int_tri l3 l4)
def val (x:Nat):Nat:=if isn x then 9221120237041090561 else x
def key (x:Nat):Nat:=if x=9223372036854775808 then 0 else val x
def rk (x:Nat):Nat:=if 9223372036854775808≤key x then 18446744073709551615-key x else key x+9223372036854775808
def less (a b:Nat):Bool:=!isn a && (isn b || decide (sv a<sv b))
def ofRank (r:Nat):Nat:=if 9223372036854775808≤r then r-9223372036854775808 else 18446744073709551615-r
theorem isn_iff (x:Nat):isn x=true↔9218868437227405312<x % 9223372036854775808:=by simp [isn]
theorem isn_not (x:Nat):isn x=false↔x % 9223372036854775808≤9218868437227405312:=by simp [isn]
theorem val_lt {x:Nat}(hx:x<18446744073709551616):val x<18446744073709551616:=by unfold val;split <;> omega
theorem key_lt {x:Nat}(hx:x<18446744073709551616):key x<18446744073709551616:=by
 have:=val_lt hx;unfold key;split <;> omega
theorem isn_val (x:Nat):isn (val x)=isn x:=by
 unfold val;by_cases h:isn x=true
 · rw [if_pos h,h];decide
 · rw [if_neg h]
theorem isn_key (x:Nat):isn (key x)=isn x:=by
 unfold key;by_cases h:x=9223372036854775808
 · rw [if_pos h,h];decide
 · rw [if_neg h,isn_val]
theorem val_val (x:Nat):val (val x)=val x:=by
 unfold val;by_cases h:isn x=true
 · rw [if_pos h];decide
 · rw [if_neg h,if_neg h]
theorem sv_key (x:Nat)(h:isn x=false):sv (key x)=sv x:=by
 unfold key val;by_cases h2:x=9223372036854775808
 · subst h2;decide
 · rw [if_neg h2,h];simp
theorem less_key (a b:Nat):less (key a) (key b)=less a b:=by
 unfold less;rw [isn_key,isn_key];cases ha:isn a
 · cases hb:isn b
   · rw [sv_key a ha,sv_key b hb]
   · rfl
 · rfl
theorem eq_nought (x:Nat)(hx:x<18446744073709551616):(Ieee.double.order x 0 == some .eq)=decide (x=0∨x=9223372036854775808):=by
 rw [order_eq x 0 hx (by omega),show isn 0=false from by decide];cases h:isn x
 · have h':=(isn_not x).1 h;rw [Bool.eq_iff_iff];simp only [Bool.or_false,Bool.false_eq_true,if_false,beq_iff_eq,Option.some.injEq,decide_eq_true_eq,Int.compare_eq_eq];unfold sv;split <;> split <;> omega
 · have h':=(isn_iff x).1 h;rw [Bool.eq_iff_iff];simp;omega
theorem lt_order (x y:Nat)(hx:x<18446744073709551616)(hy:y<18446744073709551616) :
    (Ieee.double.order x y == some .lt)=(!isn x && !isn y && decide (sv x<sv y)):=by
  rw [order_eq x y hx hy];cases isn x <;> cases isn y <;> simp;rw [Bool.eq_iff_iff];simp only [beq_iff_eq,decide_eq_true_eq,Int.compare_eq_lt]
theorem key_nan {x:Nat}(h:isn x=true):key x=9221120237041090561:=by
 unfold key val;rw [if_pos h,if_neg];rintro rfl;exact absurd h (by decide)
theorem key_num {x:Nat}(h:isn x=false):key x=if x=9223372036854775808 then 0 else x:=by
 unfold key val;rw [h];simp
theorem sv_cases (x:Nat):(x<9223372036854775808∧sv x=x)∨(9223372036854775808≤x∧sv x=9223372036854775808-(x:Int)):=by
 unfold sv;by_cases h:x<9223372036854775808
 · rw [if_pos h];exact Or.inl ⟨h,rfl⟩
 · rw [if_neg h];exact Or.inr ⟨by omega,rfl⟩
theorem key_cases {x:Nat}(h:isn x=false):(x=9223372036854775808∧key x=0)∨(x≠9223372036854775808∧key x=x):=by
 rw [key_num h];by_cases h2:x=9223372036854775808
 · rw [if_pos h2];exact Or.inl ⟨h2,rfl⟩
 · rw [if_neg h2];exact Or.inr ⟨h2,rfl⟩
theorem rk_cases (x:Nat):(9223372036854775808≤key x∧rk x=18446744073709551615-key x)∨(key x<9223372036854775808∧rk x=key x+9223372036854775808):=by
 unfold rk;by_cases h:9223372036854775808≤key x
 · rw [if_pos h];exact Or.inl ⟨h,rfl⟩
 · rw [if_neg h];exact Or.inr ⟨by omega,rfl⟩
theorem rk_less (a b:Nat)(ha:a<18446744073709551616)(hb:b<18446744073709551616):decide (rk a<rk b)=less a b:=by
 unfold less;rw [Bool.eq_iff_iff];have ra:=rk_cases a;have rb:=rk_cases b;have sa:=sv_cases a;have sb:=sv_cases b;cases h1:isn a
 · have h1':=(isn_not a).1 h1;have ka:=key_cases h1;cases h2:isn b
   · have h2':=(isn_not b).1 h2;have kb:=key_cases h2;simp only [Bool.not_false,Bool.true_and,Bool.false_or,decide_eq_true_eq];omega
   · have kb:=key_nan h2;simp only [Bool.not_false,Bool.true_and,Bool.true_or,decide_eq_true_eq,iff_true];omega
 · have h1':=(isn_iff a).1 h1;have ka:=key_nan h1;cases h2:isn b
   · have h2':=(isn_not b).1 h2;have kb:=key_cases h2;simp only [Bool.not_true,Bool.false_and,Bool.false_eq_true,decide_eq_true_eq,iff_false];omega
   · have kb:=key_nan h2;simp only [Bool.not_true,Bool.false_and,Bool.false_eq_true,decide_eq_true_eq,iff_false];omega
theorem of_rk (x:Nat)(hx:x<18446744073709551616):ofRank (rk x)=key x:=by
 have:=key_lt hx;have hz:key x≠9223372036854775808:=by
  unfold key val;by_cases h2:x=9223372036854775808
  · rw [if_pos h2];omega
  · rw [if_neg h2];split <;> omega
 unfold ofRank rk;(repeat' split);all_goals omega
theorem and_sign (k:Nat)(hk:k<18446744073709551616):(bits .and .u64 (k:Int) 9223372036854775808 != 0)=decide (9223372036854775808≤k):=by
 have e:bits .and .u64 (k:Int) 9223372036854775808=((k &&& 9223372036854775808:Nat):Int):=u64_and_nat k 9223372036854775808 hk (by omega);rw [e];have e2:(k &&& 9223372036854775808=0)↔k<9223372036854775808:=by
  constructor
  · intro h0;(have h1:(k &&& 9223372036854775808).testBit 63=false:=by rw [h0];exact Nat.zero_testBit 63);rw [Nat.testBit_and,show (9223372036854775808:Nat)=2 ^ 63 from rfl,Nat.testBit_two_pow_self,Bool.and_true,Nat.testBit_eq_decide_div_mod_eq] at h1;have h2:=of_decide_eq_false h1;omega
  · intro aa;apply Nat.eq_of_testBit_eq;intro i;rw [Nat.testBit_and,show (9223372036854775808:Nat)=2 ^ 63 from rfl,Nat.testBit_two_pow,Nat.zero_testBit];by_cases hi:63=i
    · subst hi;rw [Nat.testBit_lt_two_pow aa];rfl
    · rw [decide_eq_false hi,Bool.and_false]
 rw [Bool.eq_iff_iff,bne_iff_ne,decide_eq_true_eq];omega
theorem or_sign (k:Nat)(hk:k<9223372036854775808):bits .or .u64 (k:Int) 9223372036854775808=((k+9223372036854775808:Nat):Int):=by
 have e:bits .or .u64 (k:Int) 9223372036854775808=((k ||| 9223372036854775808:Nat):Int):=u64_or_nat k 9223372036854775808 (by omega) (by omega);rw [e];have e2:=Nat.two_pow_add_eq_or_of_lt (i:=63) (b:=k) hk 1;have e3:k ||| 9223372036854775808=k+9223372036854775808:=by
  rw [Nat.or_comm,Nat.add_comm];exact e2.symm
 rw [e3]
theorem not_word (k:Nat)(hk:k<18446744073709551616):bits .xor .u64 18446744073709551615 (k:Int)=((18446744073709551615-k:Nat):Int):=by
 have e:bits .xor .u64 18446744073709551615 (k:Int)=((18446744073709551615 ^^^ k:Nat):Int):=u64_xor_nat 18446744073709551615 k (by omega) hk;rw [e];have e2:=congrArg BitVec.toNat (BitVec.allOnes_xor (x:=BitVec.ofNat 64 k));rw [BitVec.toNat_xor,BitVec.toNat_not,BitVec.toNat_allOnes,BitVec.toNat_ofNat,Nat.mod_eq_of_lt (by omega)] at e2;rw [show (18446744073709551615:Nat)=2 ^ 64-1 from rfl,e2]
end Fl
theorem ZaT (b:Nat)(w:World):(callFunc 84 #[.float .f64 b]).run Tryz.prog w=.ok (.value (.int .u64 (b:Int))) w:=by
 rw [run_callFunc_extern (e:=Extern.MathFloatBits.float64bits) Tryz.func84 (by kernel_rfl) (by kernel_rfl) (by kernel_rfl) (by kernel_rfl)];rfl
theorem Zdb (n:Int)(w:World):(callFunc 48 #[.int .u64 n]).run Tryz.prog w=.ok (.value (.float .f64 n.toNat)) w:=by
 rw [run_callFunc_extern (e:=Extern.MathFloatBits.float64frombits) Tryz.func48 (by kernel_rfl) (by kernel_rfl) (by kernel_rfl) (by kernel_rfl)];rfl
theorem ZbC:FloatKind.f64.format=Ieee.double:=rfl
theorem ZpL (x:Nat)(hx:x<18446744073709551616):(Ieee.double.order x x != some .eq)=Fl.isn x:=by
 rw [Fl.order_eq x x hx hx];cases h:Fl.isn x
 · simp
 · simp
theorem Zdg (x:Nat)(hx:x<18446744073709551616)(w:World) :
    Calls Tryz.prog 147 #[.float .f64 x] w fun e w'=>e=.returned (.bool (Fl.isn x))∧w'=w:=by
  go_enter Tryz.func147,Tryz.ntmps147;go_wp2;go_ret;refine⟨?_,rfl⟩;rw [ZbC,ZpL x hx];rfl
theorem Zlp (w:World) :
    Calls Tryz.prog 188 #[] w fun e w'=>e=.returned (.float .f64 9221120237041090561)∧w'=w:=by
  have h1:=Zdb;go_enter Tryz.func188,Tryz.ntmps188;go_wp2;go_ret;exact⟨rfl,rfl⟩
theorem Zfs (x:Nat)(hx:x<18446744073709551616)(w:World) :
    Calls Tryz.prog 171 #[.float .f64 x] w fun e w'=>e=.returned (.float .f64 (Fl.val x))∧w'=w:=by
  go_enter Tryz.func171,Tryz.ntmps171;go_wp2_with fail;refine(Zdg x hx _).mono ?_;rintro e w' ⟨rfl,rfl⟩;cases h:Fl.isn x
  · go_wp2;go_ret;exact⟨by simp [Fl.val,h],rfl⟩
  · go_wp2_with fail;refine(Zlp _).mono ?_;rintro e w' ⟨rfl,rfl⟩;go_wp2;go_ret;exact⟨by simp [Fl.val,h],rfl⟩
theorem Zix (x:Nat)(hx:x<18446744073709551616)(w:World) :
    Calls Tryz.prog 141 #[.float .f64 x] w fun e w'=>e=.returned (.float .f64 (Fl.key x))∧w'=w:=by
  have hz:=Fl.eq_nought x hx;by_cases h0:x=0∨x=9223372036854775808
  · rw [decide_eq_true h0,← ZbC] at hz;(have hk:Fl.key x=0:=by rcases h0 with rfl | rfl <;> decide);clear h0;go_enter Tryz.func141,Tryz.ntmps141;go_wp2;go_ret;exact⟨by rw [hk];rfl,rfl⟩
  · rw [decide_eq_false h0,← ZbC] at hz;(have hk:Fl.key x=Fl.val x:=by unfold Fl.key;rw [if_neg (fun h=>h0 (Or.inr h))]);rw [hk];clear h0 hk;go_enter Tryz.func141,Tryz.ntmps141;go_wp2_with fail;refine(Zfs x hx _).mono ?_;rintro e w' ⟨rfl,rfl⟩;go_wp2;go_ret;exact⟨rfl,rfl⟩
theorem Zgj (a b:Nat):((a:Int) == (b:Int))=(a == b):=by
 rw [Bool.eq_iff_iff,beq_iff_eq,beq_iff_eq];omega
theorem Zb3 (a b:Nat):((a:Int) != (b:Int))=(a != b):=by
 rw [Bool.eq_iff_iff,bne_iff_ne,bne_iff_ne];omega
theorem Zdv (a b:Nat)(w:World) :
    Calls Tryz.prog 173 #[.float .f64 a,.float .f64 b] w fun e w'=>e=.returned (.bool (a == b))∧w'=w:=by
  have h1:=ZaT;go_enter Tryz.func173,Tryz.ntmps173;go_wp2;go_ret;exact⟨by simp [Zgj],rfl⟩
theorem ZcH (a b:Nat)(w:World) :
    Calls Tryz.prog 40 #[.float .f64 a,.float .f64 b] w fun e w'=>e=.returned (.bool (a == b))∧w'=w:=by
  have h1:=ZaT;go_enter Tryz.func40,Tryz.ntmps40;go_wp2;go_ret;exact⟨by simp [Zgj],rfl⟩
theorem Zmh (b:Nat)(_hb:b<18446744073709551616)(h:(b:Int) / 4503599627370496 % 2048=2047):(IntKind.u64.wrap ((b:Int)*4096) != 0)=Fl.isn b:=by
 rw [IntKind.wrap_u64,Bool.eq_iff_iff,bne_iff_ne,Fl.isn_iff];omega
theorem Zk2 (b:Nat)(h:¬(b:Int) / 4503599627370496 % 2048=2047):Fl.isn b=false:=by
 rw [Fl.isn_not];omega
theorem ZdL (b:Nat)(hb:b<18446744073709551616)(w:World) :
    Calls Tryz.prog 94 #[.int .u64 b] w fun e w'=>e=.returned (.bool (Fl.isn b))∧w'=w:=by
  go_enter Tryz.func94,Tryz.ntmps94;go_wp2_with fail
  · rename_i h;go_ret;exact⟨by rw [← Zmh b hb h];rfl,rfl⟩
  · rename_i h;go_ret;exact⟨by rw [Zk2 b h];rfl,rfl⟩
theorem ZpG:IntKind.u64.max=18446744073709551615:=by decide
theorem Zot (x:Nat)(hx:x<18446744073709551616)(w:World) :
    Calls Tryz.prog 107 #[.float .f64 x] w fun e w'=>e=.returned (.int .u64 (Fl.rk x:Nat))∧w'=w:=by
  have h1:=ZaT;have hk:=Fl.key_lt hx;have hr:=Fl.rk_cases x;have hs:=Fl.and_sign (Fl.key x) hk;by_cases hb:9223372036854775808≤Fl.key x
  · rw [decide_eq_true hb] at hs;(have hr:Fl.rk x=18446744073709551615-Fl.key x:=by omega);rw [hr,← Fl.not_word _ hk,← ZpG];clear hr;go_enter Tryz.func107,Tryz.ntmps107;go_wp2_with fail;refine(Zix x hx _).mono ?_;rintro e w' ⟨rfl,rfl⟩;go_wp2;go_ret;exact⟨rfl,rfl⟩
  · rw [decide_eq_false hb] at hs;(have hr:Fl.rk x=Fl.key x+9223372036854775808:=by omega);rw [hr,← Fl.or_sign _ (by omega)];clear hr;go_enter Tryz.func107,Tryz.ntmps107;go_wp2_with fail;refine(Zix x hx _).mono ?_;rintro e w' ⟨rfl,rfl⟩;go_wp2;go_ret;exact⟨rfl,rfl⟩
theorem Zb5 (x:Nat)(hx:x<18446744073709551616)(w:World) :
    Calls Tryz.prog 50 #[.float .f64 x] w fun e w'=>e=.returned (.int .u64 (Fl.val x:Nat))∧w'=w:=by
  have h1:=ZaT;go_enter Tryz.func50,Tryz.ntmps50;go_wp2_with fail;refine(ZdL x hx _).mono ?_;rintro e w' ⟨rfl,rfl⟩;cases h:Fl.isn x
  · go_wp2;go_ret;exact⟨by simp [Fl.val,h],rfl⟩
  · go_wp2;go_ret;exact⟨by simp [Fl.val,h],rfl⟩
theorem ZaO (x:Nat)(hx:x<18446744073709551616)(w:World) :
    Calls Tryz.prog 49 #[.float .f64 x] w fun e w'=>e=.returned (.int .u64 (Fl.key x:Nat))∧w'=w:=by
  by_cases h0:x=9223372036854775808
  · (have hv:Fl.val x=9223372036854775808:=by rw [h0];decide);(have hk:Fl.key x=0:=by rw [h0];decide);(have hb:(((Fl.val x:Nat):Int) == 9223372036854775808)=true:=by rw [hv];decide);rw [hk];clear h0 hv hk;go_enter Tryz.func49,Tryz.ntmps49;go_wp2_with fail;refine(Zb5 x hx _).mono ?_;rintro e w' ⟨rfl,rfl⟩;go_wp2;go_ret;exact⟨rfl,rfl⟩
  · have hv:Fl.val x≠9223372036854775808:=by
     unfold Fl.val;split
     · omega
     · exact h0
    (have hk:Fl.key x=Fl.val x:=by unfold Fl.key;rw [if_neg h0]);(have hb:(((Fl.val x:Nat):Int) == 9223372036854775808)=false:=by rw [beq_eq_false_iff_ne];omega);rw [hk];clear h0 hv hk;go_enter Tryz.func49,Tryz.ntmps49;go_wp2_with fail;refine(Zb5 x hx _).mono ?_;rintro e w' ⟨rfl,rfl⟩;go_wp2;go_ret;exact⟨rfl,rfl⟩
theorem ZbS (a b:Nat)(ha:a<18446744073709551616)(hb:b<18446744073709551616)(w:World) :
    Calls Tryz.prog 121 #[.float .f64 a,.float .f64 b] w fun e w'=>e=.returned (.bool (Fl.less a b))∧w'=w:=by
  have hl:=Fl.lt_order a b ha hb;rw [← ZbC] at hl;cases h:Fl.isn b
  · have e1:Fl.less a b=(FloatKind.f64.format.order a b == some .lt):=by
     rw [hl,h];unfold Fl.less;rw [h];simp
    rw [e1];clear hl e1;go_enter Tryz.func121,Tryz.ntmps121;go_wp2_with fail;refine(Zdg b hb _).mono ?_;rintro e w' ⟨rfl,rfl⟩;go_wp2;go_ret;exact⟨rfl,rfl⟩
  · (have e1:Fl.less a b = !Fl.isn a:=by unfold Fl.less;rw [h];simp);rw [e1];clear hl e1;go_enter Tryz.func121,Tryz.ntmps121;go_wp2_with fail;refine(Zdg b hb _).mono ?_;rintro e w' ⟨rfl,rfl⟩;go_wp2_with fail;refine(Zdg a ha _).mono ?_;rintro e w' ⟨rfl,rfl⟩;go_wp2;go_ret;exact⟨rfl,rfl⟩
def cmp (a b:Nat):Int:=if Fl.less a b then -1 else if Fl.less b a then 1 else 0
theorem ZeG (a b:Nat)(ha:a<18446744073709551616)(hb:b<18446744073709551616)(w:World) :
    Calls Tryz.prog 90 #[.float .f64 a,.float .f64 b] w fun e w'=>e=.returned (.int .i64 (cmp a b))∧w'=w:=by
  have e1:cmp a b=if Fl.less a b then -1 else if Fl.less b a then 1 else 0:=rfl;rw [e1];clear e1;have H1:Hid _:=ZbS a b ha hb;have H2:Hid _:=ZbS b a hb ha;generalize Fl.less a b=p at *;generalize Fl.less b a=q at *;go_enter Tryz.func90,Tryz.ntmps90;go_wp2_with fail;refine(H1.out _).mono ?_;rintro e w' ⟨rfl,rfl⟩;cases p
  · go_wp2_with fail;refine(H2.out _).mono ?_;rintro e w' ⟨rfl,rfl⟩;cases q
    · go_wp2;go_ret;exact⟨rfl,rfl⟩
    · go_wp2;go_ret;exact⟨rfl,rfl⟩
  · go_wp2;go_ret;exact⟨rfl,rfl⟩
theorem Zik (x a b:Nat)(hx:x<18446744073709551616)(ha:a<18446744073709551616)(hb:b<18446744073709551616)(w:World) :
    Calls Tryz.prog 87 #[.float .f64 x,.float .f64 a,.float .f64 b] w fun e w'=>e=.returned (.bool (!Fl.less x a && Fl.less x b))∧w'=w:=by
  have H1:Hid _:=ZbS x a hx ha;have H2:Hid _:=ZbS x b hx hb;generalize Fl.less x a=p at *;generalize Fl.less x b=q at *;go_enter Tryz.func87,Tryz.ntmps87;go_wp2_with fail;refine(H1.out _).mono ?_;rintro e w' ⟨rfl,rfl⟩;cases p
  · go_wp2_with fail;refine(H2.out _).mono ?_;rintro e w' ⟨rfl,rfl⟩;go_wp2;go_ret;exact⟨by simp,rfl⟩
  · go_wp2;go_ret;exact⟨rfl,rfl⟩
theorem Zeg (a b:Nat)(ha:a<18446744073709551616)(hb:b<18446744073709551616)(w:World) :
    Calls Tryz.prog 23 #[.float .f64 a,.float .f64 b] w fun e w'=>e=.returned (.bool (Fl.key a == Fl.key b))∧w'=w:=by
  have H1:Hid _:=ZaO a ha;have H2:Hid _:=ZaO b hb;generalize Fl.key a=p at *;generalize Fl.key b=q at *;go_enter Tryz.func23,Tryz.ntmps23;go_wp2_with fail;refine(H1.out _).mono ?_;rintro e w' ⟨rfl,rfl⟩;go_wp2_with fail;refine(H2.out _).mono ?_;rintro e w' ⟨rfl,rfl⟩;go_wp2;go_ret;exact⟨by simp [Zgj],rfl⟩
theorem ZcG (a b:Nat)(ha:a<18446744073709551616)(hb:b<18446744073709551616)(w:World) :
    Calls Tryz.prog 47 #[.float .f64 a,.float .f64 b] w fun e w'=>e=.returned (.bool (Fl.less a b))∧w'=w:=by
  have hf:=Zdb;have H1:Hid _:=ZaO a ha;have H2:Hid _:=ZaO b hb;have H3:Hid _:=ZdL (Fl.key a) (Fl.key_lt ha);have H4:Hid _:=ZdL (Fl.key b) (Fl.key_lt hb);have hl:Hid _:=Fl.lt_order (Fl.key a) (Fl.key b) (Fl.key_lt ha) (Fl.key_lt hb);rw [← Fl.less_key a b];have hd:Hid (Fl.less (Fl.key a) (Fl.key b)=(!Fl.isn (Fl.key a) && (Fl.isn (Fl.key b) || decide (Fl.sv (Fl.key a)<Fl.sv (Fl.key b))))):=rfl;generalize Fl.less (Fl.key a) (Fl.key b)=r at *;generalize Fl.key a=p at *;generalize Fl.key b=q at *;go_enter Tryz.func47,Tryz.ntmps47;go_wp2_with fail;refine(H1.out _).mono ?_;rintro e w' ⟨rfl,rfl⟩;go_wp2_with fail;refine(H2.out _).mono ?_;rintro e w' ⟨rfl,rfl⟩;go_wp2_with fail;refine(H1.out _).mono ?_;rintro e w' ⟨rfl,rfl⟩;go_wp2_with fail;refine(H3.out _).mono ?_;rintro e w' ⟨rfl,rfl⟩;cases hp:Fl.isn p
  · go_wp2_with fail;refine(H2.out _).mono ?_;rintro e w' ⟨rfl,rfl⟩;go_wp2_with fail;refine(H4.out _).mono ?_;rintro e w' ⟨rfl,rfl⟩;cases hq:Fl.isn q
    · go_wp2;go_ret;refine⟨?_,rfl⟩;rw [hd.out,hp,hq];have:=hl.out;rw [hp,hq] at this;simp [ZbC,this]
    · go_wp2;go_ret;refine⟨?_,rfl⟩;rw [hd.out,hp,hq];rfl
  · go_wp2;go_ret;refine⟨?_,rfl⟩;rw [hd.out,hp];rfl
structure It where
  kind:Int
  n:Int
  x:Nat
  s:ByteArray
def It.val (i:It):Value:=.agg #[.int .i64 i.kind,.int .i64 i.n,.float .f64 i.x,.string i.s]
theorem ZaA (w:World)(o o':Obj):Bl w ((w.alloc o).alloc o'):=
 (Zab w o).trans ((Zab (w.alloc o) o').mono (Zab w o).size)
def It.may (i:It):Bool:=
  if i.kind=1 then decide (0≤i.n) && decide (i.n<256) && i.x == 0 && i.s.toList == []
  else if i.kind=2 then decide (0≤i.n) && decide (i.n<65536) && i.x == 0 && i.s.toList == []
  else if i.kind=3 then decide (0≤i.n) && decide (i.n<2147483648) && i.x == 0 && i.s.toList == []
  else if i.kind=4 then i.n == 0 && i.s.toList == []
  else if i.kind=5 then i.n == 0 && i.x == 0 && decide (i.s.size<256)
  else false
theorem ZfP (i : It) (w : World) : Calls prog 163 #[i.val] w fun e w' => e = .returned (.bool i.may) ∧ Bl w w' := by
 obtain ⟨k, n, x, s⟩ := i
 have H : Hi (∀ w, Calls prog 40 #[.float .f64 x, .float .f64 0] w fun e w' => e = .returned (.bool (x == 0)) ∧ w' = w) := ZcH x 0
 have HW : Hi (∀ o, Bl w (w.alloc o)) := Zab w
 unfold It.val
 simp only
 go_enter func163, ntmps163
 go_wp2_with fail
 refine (H.o _).mono ?_
 rintro e w' ⟨rfl, hw⟩
 obtain rfl := hw.symm
 by_cases h1 : k = 1
 · subst h1
   go_wp2_with fail
   all_goals (go_ret; refine ⟨?_, HW.o _⟩; simp [It.may, *] <;> (intros; omega))
 by_cases h2 : k = 2
 · subst h2
   go_wp2_with fail
   all_goals (go_ret; refine ⟨?_, HW.o _⟩; simp [It.may, *] <;> (intros; omega))
 by_cases h3 : k = 3
 · subst h3
   go_wp2_with fail
   all_goals (go_ret; refine ⟨?_, HW.o _⟩; simp [It.may, *] <;> (intros; omega))
 by_cases h4 : k = 4
 · subst h4
   go_wp2_with fail
   all_goals (go_ret; refine ⟨?_, HW.o _⟩; simp [It.may, *] <;> (intros; omega))
 by_cases h5 : k = 5
 · subst h5
   go_wp2_with fail
   all_goals (go_ret; refine ⟨?_, HW.o _⟩; simp [It.may, *] <;> (intros; omega))
 have e1 : (k == 1) = false := beq_eq_false_iff_ne.2 h1
 have e2 : (k == 2) = false := beq_eq_false_iff_ne.2 h2
 have e3 : (k == 3) = false := beq_eq_false_iff_ne.2 h3
 have e4 : (k == 4) = false := beq_eq_false_iff_ne.2 h4
 have e5 : (k == 5) = false := beq_eq_false_iff_ne.2 h5
 go_wp2_with fail
 all_goals (go_ret; refine ⟨?_, HW.o _⟩; simp [It.may, *] <;> (intros; omega))
def bigB (u:Nat):Nat→List Nat
  | 0=>[]
  | j+1=>u / 256 ^ j % 256 :: bigB u j
theorem Zak (u:Nat):∀n,(bigB u n).length=n
 | 0=>rfl
 | n+1=>by simp [bigB,Zak u n]
theorem Zbr (u:Nat):∀n,Bytes (bigB u n)
 | 0=>fun x h=>by cases h
 | n+1=>by
  intro x hx
  rcases List.mem_cons.1 hx with h | h
  · rw [h]
    exact Nat.mod_lt _ (by decide)
  · exact Zbr u n x h
theorem Znx (u n j:Nat)(hj:j<n):(List.replicate (n-j) 0 ++ bigB u j).set (n-1-j) (u / 256 ^ j % 256)=List.replicate (n-(j+1)) 0 ++ bigB u (j+1):=by
 (have e:n-j=(n-1-j)+1:=by omega);(have e2:n-(j+1)=n-1-j:=by omega);rw [e,e2,List.replicate_succ',List.append_assoc,List.set_append_right _ _ (by simp)];simp [bigB]
theorem Zny (u j:Nat):((u / 256 ^ j:Nat):Int) / 256=((u / 256 ^ (j+1):Nat):Int):=by
 rw [Nat.pow_succ,← Nat.div_div_eq_div_mul];rfl
theorem Zmr (w:World)(base g n cap:Nat)(h:w.ownsRow base 5 1 (.slice (some ⟨g,0,none⟩) n cap) n (madeCells #[Value.int .u8 0] n).toList):Owns w base (.slice (some ⟨g,0,none⟩) n cap) (List.replicate n 0):=by
 have e:(madeCells #[Value.int .u8 0] n).toList=vals (List.replicate n 0):=by
  rw [toList_madeCells_one];simp [vals]
 rw [e] at h;unfold Owns;rw [List.length_replicate];exact h
theorem Zgk (u n:Nat)(hu:u<18446744073709551616)(hn:n≤8)(w:World) :
    Calls prog 183 #[.int .u64 (u:Nat),.int .i64 (n:Nat)] w fun e w'=>∃v,e=.returned v∧Owns w' w.heap.size v (bigB u n)∧Bl w w':=by
  obtain⟨i0,hi,al,am,an⟩:=info_parts ZnW;have HU:=Zh hu;clear hu;go_enter func183,ntmps183;go_wp2_with (at_make;refine wpList_make_full _ rfl _ _ 107 rfl w.heap.size 5 i0 (.int .u8 0) 1 underlying107 hi al am _ _ _ _ n rfl rfl (by omega) (by omega) ?b2 ?b3 (Nat.le_refl _) ?_)
  case b2=>rw [an];omega
  case b3=>unfold maxLen;omega
  intro w0 ad aa;have HO:=Zh (Zmr w0 w.heap.size w.heap.size n n ad);have HW:Hi (Bl w w0):=(Below.refl w.heap.size w).grown aa (Nat.le_refl _) (fun k hk=>by cases hk);clear ad aa;go_wp2_with fail;go_loopw [0,6] (fun uu i wr=>∃j:Nat,j≤n∧i=.int .i64 ((n:Int)-1-j)∧uu=.int .u64 (u / 256 ^ j:Nat)∧Hi (Owns wr w.heap.size (.slice (some ⟨w.heap.size,0,none⟩) n n) (List.replicate (n-j) 0 ++ bigB u j))∧Hi (Bl w wr)) (fun _ i _=>(intOf i+1).toNat)
  case atStart=>exact ⟨0,by omega,by simp,by simp,Zh (by simpa [bigB] using HO.o),HW⟩
  case round =>
   obtain⟨j,hj,rfl,rfl,ac,ah⟩:=hrel;(have ab:(List.replicate (n-j) 0 ++ bigB u j).length=n:=by simp [Zak];omega);rcases Nat.lt_or_ge j n with ak | aq
   · obtain⟨U,hU⟩:∃U,U=u / 256 ^ j:=⟨_,rfl⟩;(have ao:U<18446744073709551616:=by rw [hU];exact Nat.lt_of_le_of_lt (Nat.div_le_self _ _) HU.o);have hB:Bytes (List.replicate (n-j) 0 ++ bigB u j):=by
      intro x hx;rcases List.mem_append.1 hx with k | k
      · rw [(List.mem_replicate.1 k).2];decide
      · exact Zbr u j x k
     have ae:=(ac.o.row hB).2;rw [ab] at ae;obtain⟨c,hc⟩:∃c,wr.cell? ⟨w.heap.size,n-1-j,none⟩=some (.int .u8 c):=by
      have:=ae.at (n-1-j) (by omega);rw [Nat.zero_add] at this;exact⟨_,this⟩
     have ap:wr.frozen? ⟨w.heap.size,n-1-j,none⟩=false:=by
      have ag:=ac.o;unfold Owns at ag;rw [ab] at ag;exact ag.frozenAt _
     (have i1:¬(n:Int)-1-(j:Int)<0:=by omega);(have i2:(0:Int)≤(n:Int)-1-(j:Int):=by omega);rw [← hU];have af:=Zh hU;have HL:=Zh ab;clear hU hB ae ab;go_wp2_with fail;have HS:Hi (Owns (wr.setCell ⟨w.heap.size,n-1-j,none⟩ (.int .u8 ((U:Int) % 256))) w.heap.size (.slice (some ⟨w.heap.size,0,none⟩) n n) (List.replicate (n-(j+1)) 0 ++ bigB u (j+1))):=by
      have:=ac.o.set HL.o.symm (n-1-j) (U % 256);rw [af.o,Znx u n j ak] at this;rw [af.o];exact this
     have HB:=Zh (ah.o.setCell (p:=⟨w.heap.size,n-1-j,none⟩) (Nat.le_refl _) (.int .u8 ((U:Int) % 256)));go_roundw;exact ⟨j+1,by omega,by congr 1;omega,by rw [af.o,Zny],HS,HB⟩;simp only [intOf];omega
   · (have i1:¬(0:Int)≤(n:Int)-1-(j:Int):=by omega);(have aj:j=n:=by omega);subst aj;(have ai:Hi (Owns wr w.heap.size (.slice (some ⟨w.heap.size,0,none⟩) j j) (bigB u j)):=by simpa using ac);clear ac ab;go_wp2;go_ret;exact⟨_,rfl,ai.o,ah.o⟩
def It.bytes (i:It):List Nat:=
  if i.kind=1 then bigB i.n.toNat 1
  else if i.kind=2 then bigB i.n.toNat 2
  else if i.kind=3 then bigB i.n.toNat 4
  else if i.kind=4 then bigB (Fl.val i.x) 8
  else i.s.size :: strB i.s
theorem Owns.lower {b':Nat}(h:Owns w b v xs)(hb:b'≤b):Owns w b' v xs:=by
 refine⟨h.1,?_⟩;rcases h.2 with hn | ⟨g,cap,cur,hv,aa,rest⟩
 · exact .inl hn
 · exact .inr ⟨g,cap,cur,hv,Nat.le_trans hb aa,rest⟩
theorem ZfQ (i:It)(hm:i.may=true)(hx:i.x<18446744073709551616)(w:World) :
    Calls prog 164 #[i.val] w fun e w'=>∃v,e=.returned v∧Owns w' w.heap.size v i.bytes∧Bl w w':=by
  obtain⟨k,n,x,s⟩:=i;have HW:Hi (∀o,Bl w (w.alloc o)):=Zab w;unfold It.val;simp only at hx ⊢;by_cases h1:k=1
  · subst h1;simp [It.may] at hm;obtain⟨m,rfl⟩:=Int.eq_ofNat_of_zero_le hm.1.1.1;(have ab:m<256:=by omega);have HB:Hi (∀o,Calls prog 183 #[.int .u64 (m:Nat),.int .i64 1] (w.alloc o) fun e w'=>∃v,e=.returned v∧Owns w' (w.alloc o).heap.size v (bigB m 1)∧Below (w.alloc o).heap.size (w.alloc o) w'):=
     fun o=>Zgk m 1 (by omega) (by omega) (w.alloc o)
    (have HY:Hi (It.bytes ⟨1,(m:Nat),x,s⟩=bigB m 1):=by simp [It.bytes,Zh]);clear hm hx;go_enter func164,ntmps164;go_wp2_with fail;refine(HB.o _).mono ?_;rintro e w' ⟨v,rfl,ho,hb⟩;go_wp2;go_ret;exact⟨v,rfl,by rw [HY.o];exact ho.lower (by simp),(HW.o _).trans (hb.mono (HW.o _).size)⟩
  by_cases h2:k=2
  · subst h2;simp [It.may] at hm;obtain⟨m,rfl⟩:=Int.eq_ofNat_of_zero_le hm.1.1.1;(have ab:m<65536:=by omega);have HB:Hi (∀o,Calls prog 183 #[.int .u64 (m:Nat),.int .i64 2] (w.alloc o) fun e w'=>∃v,e=.returned v∧Owns w' (w.alloc o).heap.size v (bigB m 2)∧Below (w.alloc o).heap.size (w.alloc o) w'):=
     fun o=>Zgk m 2 (by omega) (by omega) (w.alloc o)
    (have HY:Hi (It.bytes ⟨2,(m:Nat),x,s⟩=bigB m 2):=by simp [It.bytes,Zh]);clear hm hx;go_enter func164,ntmps164;go_wp2_with fail;refine(HB.o _).mono ?_;rintro e w' ⟨v,rfl,ho,hb⟩;go_wp2;go_ret;exact⟨v,rfl,by rw [HY.o];exact ho.lower (by simp),(HW.o _).trans (hb.mono (HW.o _).size)⟩
  by_cases h3:k=3
  · subst h3;simp [It.may] at hm;obtain⟨m,rfl⟩:=Int.eq_ofNat_of_zero_le hm.1.1.1;(have ab:m<2147483648:=by omega);have HB:Hi (∀o,Calls prog 183 #[.int .u64 (m:Nat),.int .i64 4] (w.alloc o) fun e w'=>∃v,e=.returned v∧Owns w' (w.alloc o).heap.size v (bigB m 4)∧Below (w.alloc o).heap.size (w.alloc o) w'):=
     fun o=>Zgk m 4 (by omega) (by omega) (w.alloc o)
    (have HY:Hi (It.bytes ⟨3,(m:Nat),x,s⟩=bigB m 4):=by simp [It.bytes,Zh]);clear hm hx;go_enter func164,ntmps164;go_wp2_with fail;refine(HB.o _).mono ?_;rintro e w' ⟨v,rfl,ho,hb⟩;go_wp2;go_ret;exact⟨v,rfl,by rw [HY.o];exact ho.lower (by simp),(HW.o _).trans (hb.mono (HW.o _).size)⟩
  by_cases h4:k=4
  · subst h4;have HV:Hi (∀o,Calls prog 50 #[.float .f64 x] (w.alloc o) fun e w'=>e=.returned (.int .u64 (Fl.val x:Nat))∧w'=w.alloc o):=fun o=>Zb5 x hx (w.alloc o);have HB:Hi (∀o,Calls prog 183 #[.int .u64 (Fl.val x:Nat),.int .i64 8] (w.alloc o) fun e w'=>∃v,e=.returned v∧Owns w' (w.alloc o).heap.size v (bigB (Fl.val x) 8)∧Below (w.alloc o).heap.size (w.alloc o) w'):=
     fun o=>Zgk (Fl.val x) 8 (Fl.val_lt hx) (by omega) (w.alloc o)
    (have HY:Hi (It.bytes ⟨4,n,x,s⟩=bigB (Fl.val x) 8):=by simp [It.bytes,Zh]);clear hm hx;go_enter func164,ntmps164;go_wp2_with fail;refine(HV.o _).mono ?_;rintro e w' ⟨rfl,hw⟩;obtain rfl:=hw.symm;go_wp2_with fail;refine(HB.o _).mono ?_;rintro e w' ⟨v,rfl,ho,hb⟩;go_wp2;go_ret;exact⟨v,rfl,by rw [HY.o];exact ho.lower (by simp),(HW.o _).trans (hb.mono (HW.o _).size)⟩
  have h5:k=5:=by
   simp only [It.may,h1,h2,h3,h4,if_false] at hm;by_cases h5:k=5
   · exact h5
   · rw [if_neg h5] at hm;cases hm
  subst h5;simp [It.may] at hm;have ad:s.size<256:=hm.2;have HO:Hi (∀o,Owns ((w.alloc o).alloc (.cells (vals [s.size]).toArray 5)) w.heap.size (.slice (some ⟨w.heap.size+1,0,none⟩) 1 1) [s.size]):=fun o=>by
   have:=Owns.lit (w.alloc o) w.heap.size [s.size] (Zab w o).size (by simp);simpa using this
  have aa:Hi (∀o o',Bl w ((w.alloc o).alloc o')):=ZaA w;(have HY:Hi (It.bytes ⟨5,n,x,s⟩=[s.size] ++ strB s):=by simp [It.bytes,Zh]);(have ac:Hi (Bytes [s.size]):=fun y hy=>by simp at hy;omega);clear hm hx;go_enter func164,ntmps164;go_wp2_with (at_builtin;refine ZdT _ rfl (.tmp 33) (.tmp 35) rfl w.heap.size _ _ _ [s.size] rfl (HO.o _) ac.o s rfl (by show 1+s.size≤1000000;omega) (aa.o _ _).size ?_);intro v' w' ho hb;go_wp2;go_ret;exact⟨v',rfl,by rw [HY.o];exact ho,(aa.o _ _).trans hb⟩
def ItAt (w:World) (b o:Nat) (i:It):Prop:=
  w.cell? ⟨b,o,none⟩=some (.int .i64 i.kind)∧w.cell? ⟨b,o+1,none⟩=some (.int .i64 i.n)∧w.cell? ⟨b,o+2,none⟩=some (.float .f64 i.x)∧w.cell? ⟨b,o+3,none⟩=some (.string i.s)
def It.fits (i:It):Prop:=(Lit.int .i64 i.kind).wf=true∧(Lit.int .i64 i.n).wf=true∧i.x<18446744073709551616∧i.s.size≤maxLen
def itD:It:=⟨0,0,0,ByteArray.empty⟩
def Is (w:World) (a:Option Addr) (len:Nat) (l:List It):Prop:=
  l.length=len∧(∀i∈l,i.fits)∧∀j,j<len→∃b off,a=some ⟨b,off,none⟩∧ItAt w b (off+j*4) (l.getD j itD)
theorem Is.keep {l:List It}(h:Is w a len l)(hb:Below B w w')(hB:w.heap.size≤B):Is w' a len l:=by
 refine⟨h.1,h.2.1,fun j hj=>?_⟩;obtain⟨b,off,ha,c0,c1,c2,c3⟩:=h.2.2 j hj;have aa:=Nat.lt_of_lt_of_le (World.block_lt_of_cell? w _ c0) hB;exact⟨b,off,ha,(hb.cell aa).trans c0,(hb.cell (p:=⟨b,off+j*4+1,none⟩) aa).trans c1,(hb.cell (p:=⟨b,off+j*4+2,none⟩) aa).trans c2,(hb.cell (p:=⟨b,off+j*4+3,none⟩) aa).trans c3⟩
def putB (l:List It):List Nat:=l.flatMap It.bytes
theorem Zm7 (l:List It)(k:Nat)(hk:k<l.length):putB (l.take (k+1))=putB (l.take k) ++ (l.getD k itD).bytes:=by
 unfold putB;rw [List.take_succ_eq_append_getElem hk,List.flatMap_append];simp [List.getD,hk]
theorem ZdJ {i:It}(h:i.may=true):i.bytes.length≤256∧Bytes i.bytes:=by
 unfold It.bytes;split
 · exact⟨by rw [Zak];omega,Zbr _ _⟩
 · split
   · exact⟨by rw [Zak];omega,Zbr _ _⟩
   · split
     · exact⟨by rw [Zak];omega,Zbr _ _⟩
     · split
       · exact⟨by rw [Zak];omega,Zbr _ _⟩
       · rename_i h1 h2 h3 h4;have hs:i.s.size<256:=by
          simp only [It.may,h1,h2,h3,h4,if_false] at h;by_cases h5:i.kind=5
          · simp [h5] at h;exact h.2
          · rw [if_neg h5] at h;cases h
         refine⟨by simp [Za0];omega,?_⟩;intro y hy;rcases List.mem_cons.1 hy with k | k
         · omega
         · exact Zgc _ y k
theorem ZjG {l:List It}(h:∀i∈l,i.may=true):(putB l).length≤256*l.length∧Bytes (putB l):=by
 induction l with
 | nil=>exact ⟨by simp [putB],fun x hx=>by simp [putB] at hx⟩
 | cons i r ih =>
  have h1:=ZdJ (h i (by simp));have h2:=ih (fun j hj=>h j (by simp [hj]));(have e:putB (i :: r)=i.bytes ++ putB r:=by simp [putB]);rw [e];refine⟨by simp;omega,?_⟩;intro x hx;rcases List.mem_append.1 hx with k | k
  · exact h1.2 x k
  · exact h2.2 x k
theorem ZfR (a:Option Addr)(len cap:Nat)(l:List It)(w:World)(h:Is w a len l)(hm:len≤200) :
    Calls prog 136 #[.slice a len cap] w fun e w'=>∃v,e=.returned (.tuple #[v,.bool (l.all It.may)])∧Bl w w'∧(l.all It.may=true→Owns w' w.heap.size v (putB l))∧(l.all It.may=false→v=.slice none 0 0):=by
  have HO:=Zh (ZpT w);have HW:=Zh (Zab w (.cells #[] 5));have H:=Zh h;have HL:=Zh h.1;clear h;go_enter func136,ntmps136;go_wp2_with fail;go_loopw [4,5] (fun v i wr=>∃k:Nat,k≤len∧i=.int .i64 k∧Hi (Owns wr w.heap.size v (putB (l.take k)))∧Hi (∀i∈l.take k,i.may=true)∧Hi (Bl w wr)) (fun _ i _=>len-(intOf i).toNat)
  case atStart=>exact ⟨0,by omega,rfl,HO,Zh (fun i hi=>by simp at hi),HW⟩
  case round =>
   obtain⟨k,hk,rfl,ad,aa,ag⟩:=hrel;rcases Nat.lt_or_ge k len with ah | bd
   · obtain⟨b,off,rfl,c0,c1,c2,c3⟩:=(H.o.keep ag.o (Nat.le_refl _)).2.2 k ah;obtain⟨i,hi⟩:∃i,i=l.getD k itD:=⟨_,rfl⟩;rw [← hi] at c0 c1 c2 c3;have HI:=Zh hi;have HM:=Zh (ZfP i wr);have ac:i∈l:=by
      (have hk':k<l.length:=by rw [HL.o];exact ah);rw [hi];simp [List.getD,hk']
     have ak:=Zh ac;have HF:Hi i.fits:=H.o.2.1 i ac;clear hi ac;go_wp2_with fail;refine HM.o.mono ?_;rintro e w1 ⟨rfl,am⟩;have af:=Zh (ag.o.trans (am.mono ag.o.size));have ax:=Zh am;clear am;cases hy:i.may
     · have HN:Hi (l.all It.may=false):=by
        rw [List.all_eq_false];exact⟨i,ak.o,by rw [hy];decide⟩
       clear hy;go_wp2;go_ret2;refine⟨_,?_,af.o,(fun h=>by rw [HN.o] at h;cases h),fun _=>rfl⟩;rw [HN.o];rfl
     · obtain⟨_,_,e,d0,d1,d2,d3⟩:=(H.o.keep af.o (Nat.le_refl _)).2.2 k ah;simp only [Option.some.injEq,Addr.mk.injEq,and_true] at e;obtain⟨rfl,rfl⟩:=e;rw [← HI.o] at d0 d1 d2 d3;have al:=Zh (ZfQ i hy HF.o.2.2.1 w1);have HY:=Zh hy;clear hy c0 c1 c2 c3;go_wp2_with fail;refine al.o.mono ?_;rintro e w2 ⟨v2,rfl,au,an⟩;have ap:=Zh (af.o.trans (an.mono af.o.size));have ao:=ZdJ HY.o;obtain⟨a2,cap2,rfl,ae,ar⟩:=au.bs ao.2;have aw:=ZjG aa.o;have ab:=(ad.o.keep ax.o (Nat.le_refl _)).keep an (Nat.le_refl _);(have ai:(l.take k).length≤k:=by simp;omega);have bb:=Zh ab;have ay:=Zh ae;have ba:=Zh ar;have aj:Hi ((putB (l.take k)).length+i.bytes.length≤1000000):=by
        show _≤_;have:=aw.1;have:=ao.1;omega
       clear an au ao ae ar aw ab ai d0 d1 d2 d3;go_wp2_with (at_builtin;refine ZcS _ rfl (.tmp 19) (.tmp 24) rfl w.heap.size _ (putB (l.take k)) rfl bb.o _ _ _ i.bytes rfl ay.o ba.o aj.o ap.o.size ?_);intro v3 w3 av aq;have bc:=Zh av;have az:=Zh (ap.o.trans aq);clear av aq;go_wp2;go_roundw
       case rel =>
        (have hk':k<l.length:=by rw [HL.o];exact ah);refine⟨k+1,by omega,by go_num,?_,?_,az⟩
        · rw [Zm7 l k hk',← HI.o];exact bc
        · intro j hj;rw [List.take_succ_eq_append_getElem hk'] at hj;rcases List.mem_append.1 hj with q | q
          · exact aa.o j q
          · simp at q;(have:i=l[k]:=by rw [HI.o];simp [List.getD,hk']);rw [q,← this];exact HY.o
       case measure=>simp only [intOf];omega
   · (have be:k=len:=by omega);have ai:l.take k=l:=List.take_of_length_le (by rw [HL.o];omega);rw [ai] at ad aa;have HA:Hi (l.all It.may=true):=List.all_eq_true.2 aa.o;clear ai;go_wp2;go_ret2;refine⟨_,?_,ag.o,fun _=>ad.o,fun h=>by rw [HA.o] at h;cases h⟩;rw [HA.o];rfl
theorem Zau (b o len cap k:Nat)(hk:k<len)(w:World):(Instr.indexAt 183 (.slice (some ⟨b,o,none⟩) len cap) (.int .i64 (k:Nat))).run prog w=.ok (.pointer (some ⟨b,o+k*4,none⟩)) w:=by
 (have aa:prog.underlying 183=some (.slice (prog.elem 183)):=by kernel_rfl);(have h1:(0:Int)≤(k:Int):=by omega);simp [go_sem,Instr.indexAt,run_underlying aa,h1,Addr.add_lit];intro h;omega
theorem ZeT (b o:Nat)(i:It)(w:World)(h:ItAt w b o i):(Instr.loadAt 182 (.pointer (some ⟨b,o,none⟩))).run prog w=.ok i.val w:=by
 obtain⟨c0,c1,c2,c3⟩:=h;simp [go_sem,c0,c1,c2,c3,It.val]
theorem Zao {o:Nat}{i:It}(h:ItAt w b o i)(hb:Bl w w'):ItAt w' b o i:=by
 obtain⟨c0,c1,c2,c3⟩:=h;have aa:=World.block_lt_of_cell? w _ c0;exact⟨(hb.cell aa).trans c0,(hb.cell (p:=⟨b,o+1,none⟩) aa).trans c1,(hb.cell (p:=⟨b,o+2,none⟩) aa).trans c2,(hb.cell (p:=⟨b,o+3,none⟩) aa).trans c3⟩
theorem Za8 (b o:Nat)(n:Int)(w:World)(h:w.cell? ⟨b,o,none⟩=some (.int .i64 n)):(Instr.loadAt 3 (.pointer (some ⟨b,o,none⟩))).run prog w=.ok (.int .i64 n) w:=by
 simp [go_sem,h]
theorem ZdH (b o:Nat)(x:Nat)(w:World)(h:w.cell? ⟨b,o,none⟩=some (.float .f64 x)):(Instr.loadAt 32 (.pointer (some ⟨b,o,none⟩))).run prog w=.ok (.float .f64 x) w:=by
 simp [go_sem,h]
theorem ItAt.p0 {x:It}(h:ItAt w b 0 x):w.cell? ⟨b,0,none⟩=some (.int .i64 x.kind):=h.1
theorem ItAt.p1 {x:It}(h:ItAt w b 0 x):w.cell? ⟨b,1,none⟩=some (.int .i64 x.n):=h.2.1
theorem ItAt.p2 {x:It}(h:ItAt w b 0 x):w.cell? ⟨b,2,none⟩=some (.float .f64 x.x):=h.2.2.1
theorem ItAt.p3 {x:It}(h:ItAt w b 0 x):w.cell? ⟨b,3,none⟩=some (.string x.s):=h.2.2.2
theorem Zew (w:World)(x:It)(t:TypeId):ItAt (w.alloc (.cells #[.int .i64 x.kind,.int .i64 x.n,.float .f64 x.x,.string x.s] t)) w.heap.size 0 x:=by
 refine⟨?_,?_,?_,?_⟩ <;> simp [go_sem]
def maxN (k:Int):Int:=if k=1 then 255 else if k=2 then 65535 else 2147483647
def cntN (k:Int):Nat:=if k=1 then 1 else if k=2 then 2 else 4
theorem Zh3 (k:Int)(w:World):Calls prog 214 #[.int .i64 k] w fun e w'=>e=.returned (.int .i64 (maxN k))∧w'=w:=by
 by_cases h1:k=1
 · subst h1;go_enter func214,ntmps214;go_wp2;go_ret;exact⟨rfl,rfl⟩
 by_cases h2:k=2
 · subst h2;go_enter func214,ntmps214;go_wp2;go_ret;exact⟨rfl,rfl⟩
 have e1:(k == 1)=false:=beq_eq_false_iff_ne.2 h1;have e2:(k == 2)=false:=beq_eq_false_iff_ne.2 h2;go_enter func214,ntmps214;go_wp2;go_ret;exact⟨by simp [maxN,h1,h2],rfl⟩
theorem Zgr (k:Int)(w:World):Calls prog 213 #[.int .i64 k] w fun e w'=>e=.returned (.int .i64 (cntN k:Nat))∧w'=w:=by
 by_cases h1:k=1
 · subst h1;go_enter func213,ntmps213;go_wp2;go_ret;exact⟨rfl,rfl⟩
 by_cases h2:k=2
 · subst h2;go_enter func213,ntmps213;go_wp2;go_ret;exact⟨rfl,rfl⟩
 have e1:(k == 1)=false:=beq_eq_false_iff_ne.2 h1;have e2:(k == 2)=false:=beq_eq_false_iff_ne.2 h2;go_enter func213,ntmps213;go_wp2;go_ret;exact⟨by simp [cntN,h1,h2],rfl⟩
theorem ZoW (hk:k=1∨k=2∨k=3)(n:Int)(x:Nat)(s:ByteArray):It.may ⟨k,n,x,s⟩=(decide (0≤n) && decide (n≤maxN k) && x == 0 && s.toList == []):=by
 (have e1:decide (n<256)=decide (n≤255):=by rw [Bool.eq_iff_iff];simp;omega);(have e2:decide (n<65536)=decide (n≤65535):=by rw [Bool.eq_iff_iff];simp;omega);(have e3:decide (n<2147483648)=decide (n≤2147483647):=by rw [Bool.eq_iff_iff];simp;omega);rcases hk with rfl | rfl | rfl <;> simp [It.may,maxN,e1,e2,e3]
def chk:Bool→Int
  | true=>0
  | false=>1
theorem Zio (k:Int):cntN k≤8:=by
 unfold cntN;split
 · omega
 · split <;> omega
def ItBlk (w:World) (p:Nat) (x:It):Prop:=w.heap[p]? = some (Obj.cells #[.int .i64 x.kind,.int .i64 x.n,.float .f64 x.x,.string x.s] 182 (0,0))
theorem ItBlk.at {x:It}(h:ItBlk w p x):ItAt w p 0 x:=by
 unfold ItBlk at h;refine⟨?_,?_,?_,?_⟩ <;> simp [World.cell?,h]
theorem Zmi (w:World)(x:It):ItBlk (w.alloc (.cells #[.int .i64 x.kind,.int .i64 x.n,.float .f64 x.x,.string x.s] 182)) w.heap.size x:=heap_alloc_new w _
theorem Zn9 (m:Nat)(hm:m<9223372036854775808)(w:World):(convert 3 88 (.int .i64 (m:Nat))).run prog w=.ok (.int .u64 (m:Nat)) w:=by
 (have h1:prog.underlying 3=some (.int .i64):=by kernel_rfl);(have h2:prog.underlying 88=some (.int .u64):=by kernel_rfl);(have e:IntKind.u64.wrap (m:Int)=(m:Int):=by rw [IntKind.wrap_u64];omega);simp [go_sem,convert,run_underlying h1,run_underlying h2,e]
theorem Zn2 (hk:k=1∨k=2∨k=3)(m x:Nat)(s:ByteArray):It.bytes ⟨k,(m:Nat),x,s⟩=bigB m (cntN k):=by
 rcases hk with rfl | rfl | rfl <;> simp [It.bytes,cntN]
def numB (xs:List Nat):Nat:=xs.foldl (fun u b=>u*256+b) 0
theorem Zgv:∀(xs:List Nat)(u:Nat),xs.foldl (fun u b=>u*256+b) u=u*256 ^ xs.length+numB xs
 | [],u=>by simp [numB]
 | x :: r,u=>by
  have h1:=Zgv r (u*256+x)
  have h2:=Zgv r x
  simp only [List.foldl_cons,List.length_cons,numB] at *
  rw [h1,Nat.zero_mul,Nat.zero_add,h2,Nat.add_mul,Nat.pow_succ]
  rw [Nat.mul_assoc,Nat.mul_comm 256 (256 ^ r.length),Nat.add_assoc]
theorem ZeW (x:Nat)(r:List Nat):numB (x :: r)=x*256 ^ r.length+numB r:=by
 have:=Zgv r x;simpa [numB] using this
theorem ZhC (xs:List Nat)(b:Nat):numB (xs ++ [b])=numB xs*256+b:=by simp [numB]
theorem ZbY : ∀ {xs : List Nat}, Bytes xs → numB xs < 256 ^ xs.length
 | [], _ => by simp [numB]
 | x :: r, h => by
  have h1 := ZbY (xs := r) (fun y hy => h y (by simp [hy]))
  have h2 := h x (by simp)
  rw [ZeW, List.length_cons, Nat.pow_succ]
  have h3 : x * 256 ^ r.length ≤ 255 * 256 ^ r.length := Nat.mul_le_mul_right _ (by omega)
  omega
theorem Zjl (k:Nat):∀(m u:Nat),bigB (k*256 ^ m+u) m=bigB u m
 | 0,_=>rfl
 | m+1,u=>by
  have h:=Zjl (k*256) m u
  rw [Nat.mul_assoc,← Nat.pow_succ'] at h
  simp only [bigB]
  rw [h]
  congr 1
  have e:k*256 ^ (m+1)+u=u+256 ^ m*(k*256):=by
   rw [Nat.pow_succ,Nat.add_comm,Nat.mul_comm (256 ^ m) (k*256),Nat.mul_assoc,Nat.mul_comm (256 ^ m) 256]
  rw [e,Nat.add_mul_div_left _ _ (Nat.pow_pos (by decide)),Nat.add_mul_mod_self_right]
theorem ZcV : ∀ {xs : List Nat}, Bytes xs → bigB (numB xs) xs.length = xs
 | [], _ => rfl
 | x :: r, h => by
  have h0 : Bytes r := fun y hy => h y (by simp [hy])
  have h1 := ZbY h0
  have h2 := h x (by simp)
  rw [ZeW, List.length_cons]
  simp only [bigB]
  rw [Zjl, ZcV h0]
  congr 1
  have hp : 0 < 256 ^ r.length := Nat.pow_pos (by decide)
  rw [Nat.mul_comm, Nat.mul_add_div hp, Nat.div_eq_of_lt h1]
  omega
theorem Zdr (u:Nat):∀(n:Nat),numB (bigB u n)=u % 256 ^ n
 | 0=>by simp [bigB,numB];omega
 | n+1=>by
  simp only [bigB]
  rw [ZeW,Zak,Zdr u n,Nat.pow_succ,Nat.mod_mul,Nat.mul_comm (256 ^ n),Nat.add_comm]
def noS:ByteArray:=⟨#[]⟩
def tk (xs:List Nat) (k:Int):Option (It × Nat):=
  if k=4 then
    if 8≤xs.length then
      if Fl.val (numB (xs.take 8))=numB (xs.take 8) then some (⟨4,0,numB (xs.take 8),noS⟩,8) else none
    else none
  else if k=5 then
    if 1≤xs.length then
      if 1+numB (xs.take 1)≤xs.length then some (⟨5,0,0,bstr ((xs.drop 1).take (numB (xs.take 1)))⟩,1+numB (xs.take 1)) else none
    else none
  else if cntN k≤xs.length then
    if (numB (xs.take (cntN k)):Int)≤maxN k then some (⟨k,numB (xs.take (cntN k)),0,noS⟩,cntN k) else none
  else none
def tks (xs:List Nat):List Int→List It→Nat→Option (List It × Nat)
  | [],l,q=>some (l,q)
  | k :: ks,l,q=>match tk (xs.drop q) k with
    | none=>none
    | some (i,n)=>tks xs ks (l ++ [i]) (q+n)
def It.valued (i:It):It:=⟨i.kind,i.n,Fl.val i.x,i.s⟩
theorem ZjK {s:ByteArray}(h:s.toList=[]):s=noS:=by
 rw [ByteArray.toList_eq] at h;cases s with
 | mk d =>
  simp only at h;have:d=#[]:=by
   apply Array.toList_inj.1;simpa using h
  rw [this];rfl
theorem ZgL:Fl.val 0=0:=by decide
theorem ZhZ (u n:Nat)(r:List Nat):(bigB u n ++ r).take n=bigB u n:=by
 rw [List.take_append_of_le_length (by rw [Zak];exact Nat.le_refl _),List.take_of_length_le (by rw [Zak];exact Nat.le_refl _)]
theorem Zo6 (i:It)(hm:i.may=true)(hx:i.x<18446744073709551616)(r:List Nat):tk (i.bytes ++ r) i.kind=some (i.valued,i.bytes.length):=by
 obtain⟨k,n,x,s⟩:=i;by_cases hk:k=1∨k=2∨k=3
 · have ab:0≤n∧n≤maxN k∧x=0∧s=noS:=by
    rw [ZoW hk] at hm;simp at hm;exact⟨hm.1.1.1,hm.1.1.2,hm.1.2,ZjK hm.2⟩
   obtain⟨h0,h1,rfl,rfl⟩:=ab;obtain⟨m,rfl⟩:=Int.eq_ofNat_of_zero_le h0;have hb:It.bytes ⟨k,(m:Nat),0,noS⟩=bigB m (cntN k):=by
    rcases hk with rfl | rfl | rfl <;> simp [It.bytes,cntN]
   have aa:m % 256 ^ cntN k=m:=by
    apply Nat.mod_eq_of_lt;rcases hk with rfl | rfl | rfl <;> simp [maxN,cntN] at h1 ⊢ <;> omega
   rw [hb,Zak];(have n4:¬k=4:=by rcases hk with rfl | rfl | rfl <;> decide);(have n5:¬k=5:=by rcases hk with rfl | rfl | rfl <;> decide);simp only [tk,n4,n5,if_false];rw [ZhZ,Zdr,aa,if_pos (by simp [Zak]),if_pos h1];simp [It.valued,ZgL]
 have h1:¬k=1:=fun h=>hk (.inl h);have h2:¬k=2:=fun h=>hk (.inr (.inl h));have h3:¬k=3:=fun h=>hk (.inr (.inr h));by_cases h4:k=4
 · subst h4;simp [It.may] at hm;obtain⟨rfl,hs⟩:=hm;obtain rfl:=ZjK hs;(have hb:It.bytes ⟨4,0,x,noS⟩=bigB (Fl.val x) 8:=by simp [It.bytes]);simp only at hx;have aa:Fl.val x % 256 ^ 8=Fl.val x:=Nat.mod_eq_of_lt (by have:=Fl.val_lt hx;simpa using this);rw [hb,Zak];simp only [tk,if_true];rw [ZhZ,Zdr,aa,if_pos (by simp [Zak]),if_pos (Fl.val_val x)];simp [It.valued]
 have h5:k=5:=by
  simp only [It.may,h1,h2,h3,h4,if_false] at hm;by_cases h5:k=5
  · exact h5
  · rw [if_neg h5] at hm;cases hm
 subst h5;simp [It.may] at hm;obtain⟨⟨rfl,rfl⟩,hs⟩:=hm;(have hb:It.bytes ⟨5,0,0,s⟩=s.size :: strB s:=by simp [It.bytes]);rw [hb];(have e1:numB ((s.size :: strB s ++ r).take 1)=s.size:=by simp [numB]);have e2:((s.size :: strB s ++ r).drop 1).take s.size=strB s:=by
  show (strB s ++ r).take s.size=strB s;rw [List.take_append_of_le_length (by rw [Za0];exact Nat.le_refl _),List.take_of_length_le (by rw [Za0];exact Nat.le_refl _)]
 simp only [tk,show ¬(5:Int)=4 by decide,if_false,if_true];rw [e1,e2,if_pos (by simp),if_pos (by simp [Za0];omega),ZgQ];simp [It.valued,ZgL,Za0];omega
theorem ZiZ:∀(l:List It)(xs r:List Nat)(acc:List It)(q:Nat),(∀i∈l,i.may=true∧i.x<18446744073709551616)→xs.drop q=putB l ++ r→tks xs (l.map It.kind) acc q=some (acc ++ l.map It.valued,q+(putB l).length)
 | [],xs,r,acc,q,_,_=>by simp [tks,putB]
 | i :: l,xs,r,acc,q,h,hd=>by
  have hi:=h i (by simp)
  have e:putB (i :: l)=i.bytes ++ putB l:=by simp [putB]
  rw [e,List.append_assoc] at hd
  simp only [List.map_cons,tks]
  rw [hd,Zo6 i hi.1 hi.2]
  simp only
  rw [ZiZ l xs r (acc ++ [i.valued]) (q+i.bytes.length) (fun j hj=>h j (by simp [hj])) (by rw [← List.drop_drop,hd];simp)]
  rw [e]
  simp
  omega
structure Only (p:Nat) (w w':World):Prop where
  os:w'.os=w.os
  tape:w'.tape=w.tape
  output:w'.output=w.output
  size:w.heap.size≤w'.heap.size
  block:∀k,k<w.heap.size→k≠p→w'.heap[k]? = w.heap[k]?
theorem Only.refl (p:Nat)(w:World):Only p w w:=⟨rfl,rfl,rfl,Nat.le_refl _,fun _ _ _=>rfl⟩
theorem Only.trans {a b c:World}(h:Only p a b)(k:Only p b c):Only p a c:=
 ⟨k.os.trans h.os,k.tape.trans h.tape,k.output.trans h.output,Nat.le_trans h.size k.size,fun i hi hp=>(k.block i (Nat.lt_of_lt_of_le hi h.size) hp).trans (h.block i hi hp)⟩
theorem Only.of (h:Bl w w'):Only p w w':=⟨h.os,h.tape,h.output,h.size,fun k hk _=>h.block k hk⟩
theorem Only.below (h:Only p w w')(hB:B≤w.heap.size)(hp:B≤p):Below B w w':=
 ⟨h.os,h.tape,h.output,h.size,fun k hk=>h.block k (by omega) (by omega)⟩
theorem Only.drew {a:World}(h:Only p a w):Only p a w.drew:=⟨h.os,h.tape,h.output,h.size,h.block⟩
theorem Only.set {a:World}(h:Only p a w)(o:Nat)(v:Value):Only p a (w.setCell ⟨p,o,none⟩ v):=by
 refine⟨h.os,h.tape,h.output,?_,fun k hk hp=>(Below.heap_setCell w ⟨p,o,none⟩ v k hp).trans (h.block k hk hp)⟩;have:=((Below.refl 0 w).setCell (p:=⟨p,o,none⟩) (Nat.zero_le _) v).size;exact Nat.le_trans h.size this
def Rd (w:World) (p:Nat) (a:Option Addr) (len cap q:Nat):Prop:=w.heap[p]? = some (Obj.cells #[.slice a len cap,.int .i64 (q:Nat)] 239 (0,0))
theorem Rd.c0 (h:Rd w p a len cap q):w.cell? ⟨p,0,none⟩=some (.slice a len cap):=by
 unfold Rd at h;simp [World.cell?,h]
theorem Rd.c1 (h:Rd w p a len cap q):w.cell? ⟨p,1,none⟩=some (.int .i64 (q:Nat)):=by
 unfold Rd at h;simp [World.cell?,h]
theorem Rd.fz (h:Rd w p a len cap q)(o:Nat):w.frozen? ⟨p,o,none⟩=false:=frozen_of_row w p _ _ 239 h
theorem Rd.lt (h:Rd w p a len cap q):p<w.heap.size:=(Array.getElem?_eq_some_iff.1 h).1
theorem Rd.keep (h:Rd w p a len cap q)(hb:Below B w w')(hB:w.heap.size≤B):Rd w' p a len cap q:=
 (hb.block p (Nat.lt_of_lt_of_le h.lt hB)).trans h
theorem Rd.set (h:Rd w p a len cap q)(q':Nat):Rd (w.setCell ⟨p,1,none⟩ (.int .i64 (q':Nat))) p a len cap q':=by
 have:=heap_setCell_same w p 1 _ 239 (.int .i64 (q':Nat)) h;unfold Rd;simpa using this
theorem ZeJ (p:Nat)(w:World):(Instr.fieldAt 239 (.pointer (some ⟨p,0,none⟩)) 0).run prog w=.ok (.pointer (some ⟨p,0,none⟩)) w:=by simp [go_sem]
theorem Zci (p:Nat)(w:World):(Instr.fieldAt 239 (.pointer (some ⟨p,0,none⟩)) 1).run prog w=.ok (.pointer (some ⟨p,1,none⟩)) w:=by simp [go_sem]
theorem ZdG (b o:Nat)(a:Option Addr)(len cap:Nat)(w:World)(h:w.cell? ⟨b,o,none⟩=some (.slice a len cap)):(Instr.loadAt 107 (.pointer (some ⟨b,o,none⟩))).run prog w=.ok (.slice a len cap) w:=by
 simp [go_sem,h]
theorem Zhx (a:Option Addr)(len cap:Nat)(ty:TypeId)(w:World):(Builtin.len_ #[107] ty #[.slice a len cap]).run prog w=.ok (.int .i64 (len:Nat)) w:=by
 simp [go_sem]
theorem Zfl (a:Option Addr)(len cap k j:Nat)(hk:k≤j)(hj:j≤len)(hc:len≤cap)(w:World):(Instr.sliceAt 107 (.slice a len cap) (some (.int .i64 (k:Nat))) (some (.int .i64 (j:Nat))) none).run prog w=.ok (.slice (fromA a cap k) (j-k) (cap-k)) w:=by
 (have aa:prog.underlying 107=some (.slice (prog.elem 107)):=by kernel_rfl);rw [run_sliceAt_slice w 107 _ _ _ _ aa,run_slice_lh w 107 a len cap aa .i64 .i64 (k:Nat) (j:Nat) (by omega) (by omega) (by omega),ZlI,sz5];simp [Result.andThen,sliced,fromA]
theorem Bs.mid {k j:Nat}(h:Bs w a len xs)(hk:k≤j)(hj:j≤len)(hc:len≤cap):Bs w (fromA a cap k) (j-k) ((xs.drop k).take (j-k)):=by
 refine⟨by simp [h.1];omega,fun x hx=>h.2.1 x (List.mem_of_mem_drop (List.mem_of_mem_take hx)),fun i hi=>?_⟩;obtain⟨b,off,rfl,aa⟩:=h.2.2 (k+i) (by omega);refine⟨b,off+k,?_,?_⟩
 · unfold fromA;rw [if_neg (by omega)];simp only [Option.map_some,Nat.mul_one,Addr.add_lit]
 · rw [Nat.add_assoc,aa];simp [List.getD,hi]
theorem ZiV (a b:Int)(x y:Operand)(h1:-9223372036854775808≤a-b)(h2:a-b≤9223372036854775807)(w:World):(do eqGuard .sub 3 x y (.int .i64 a) (.int .i64 b);binOp .sub 3 (.int .i64 a) (.int .i64 b):Sem Value).run prog w=.ok (.int .i64 (a-b)) w:=by
 (have e:IntKind.i64.wrap (a-b)=a-b:=by rw [IntKind.wrap_i64];omega);simp [go_sem,eqGuard,e]
theorem Zqu (a b:Nat)(x y:Operand)(h:b≤a)(h2:a≤9223372036854775807)(w:World):(do eqGuard .sub 3 x y (.int .i64 (a:Nat)) (.int .i64 (b:Nat));binOp .sub 3 (.int .i64 (a:Nat)) (.int .i64 (b:Nat)):Sem Value).run prog w=.ok (.int .i64 ((a-b:Nat):Int)) w:=by
 rw [ZiV a b x y (by omega) (by omega)];congr 3;omega
theorem Zrg (w:World)(p:Nat)(a:Option Addr)(len cap q z:Nat)(hr:Rd w p a len cap q)(hq:q≤len)(hl:len≤9223372036854775807)(hz:len-q<z)
    {Q:Exit→Act→World→Prop}(ac:A.tmps.size=41)(ab:A.defers=[])(s0:A.tmps.getD 0 undef=.pointer (some ⟨p,0,none⟩))(s1:A.tmps.getD 1 undef=.int .i64 (z:Nat))
    (hend:∀(u:Nat→Value) w',w'=w.drew→Q .normal ((Pl.pu A u [5,6,7,8,9,10,11,12,13,14,15]).put (some 16) (.bool true)) w') :
    Pl.rg prog 1 f208 Q A w:=by
  have aa:Rd w.drew p a len cap q:=hr;have hA:=Pl.At.same (v:=.int .i64 (z:Nat)) (d:=1) (Pl.At.same (v:=.pointer (some ⟨p,0,none⟩)) (d:=0) (Pl.At.here ac ab) s0) s1;refine Pl.qb (S:=fun w'=>Rd w' p a len cap q) hA aa ?_;rw [show (Pl.fd 1 f208).size=12 by kernel_rfl];refine Pl.q0 0 5 (.int .i64 (z:Nat)) (Pl.q1) (Pl.q2 (.tmp 1)) aa ?_;refine Pl.q0 1 6 (.pointer (some ⟨p,0,none⟩)) (Pl.q1) (Pl.q2 (.tmp 0)) aa ?_;refine Pl.q0 2 7 (.pointer (some ⟨p,0,none⟩)) (Pl.q1) (Pl.q_37 (.tmp 6)) aa ?_;refine Pl.q0 3 8 (.pointer (some ⟨p,0,none⟩)) (Pl.q1) (Pl.q6 239 (.tmp 7) 0 (ZeJ p)) aa ?_;refine Pl.q0 4 9 (.slice a len cap) (Pl.q1) (Pl.q4 107 (.tmp 8) (fun w' hS=>ZdG p 0 _ _ _ w' (Rd.c0 hS))) aa ?_;refine Pl.q0 5 10 (.int .i64 (len:Nat)) (Pl.q1) (Pl.qr 107 (.tmp 9) (fun ty w=>Zhx a len cap ty w)) aa ?_;refine Pl.q0 6 11 (.pointer (some ⟨p,0,none⟩)) (Pl.q1) (Pl.q2 (.tmp 0)) aa ?_;refine Pl.q0 7 12 (.pointer (some ⟨p,0,none⟩)) (Pl.q1) (Pl.q_37 (.tmp 11)) aa ?_;refine Pl.q0 8 13 (.pointer (some ⟨p,1,none⟩)) (Pl.q1) (Pl.q6 239 (.tmp 12) 1 (Zci p)) aa ?_;refine Pl.q0 9 14 (.int .i64 (q:Nat)) (Pl.q1) (Pl.q4 3 (.tmp 13) (fun w' hS=>Za8 p 1 _ w' (Rd.c1 hS))) aa ?_;refine Pl.q0 10 15 (.int .i64 ((len:Int)-(q:Int))) (Pl.q1) (Pl.qc .sub 3 3 (.tmp 10) (.tmp 14) (.int .i64 (len:Nat)) (.int .i64 (q:Nat)) (ZiV _ _ _ _ (by omega) (by omega))) aa ?_;refine Pl.q0 11 16 (.bool true) (Pl.q1) (Pl.qc .gtr 3 3 (.tmp 5) (.tmp 15) (.int .i64 (z:Nat)) (.int .i64 ((len:Int)-(q:Int))) (fun w=>by simp [go_sem,eqGuard] <;> omega)) aa ?_;refine Pl.q8 (fun A' hA'=>?_);exact Pl.en hA' hA [5,6,7,8,9,10,11,12,13,14,15,16] (hend hA'.fn _ rfl)
theorem Zrh (w:World)(p:Nat)(a:Option Addr)(len cap q z:Nat)(hr:Rd w p a len cap q)(hq:q≤len)(hl:len≤9223372036854775807)(hz:z≤len-q)
    {Q:Exit→Act→World→Prop}(ac:A.tmps.size=41)(ab:A.defers=[])(s0:A.tmps.getD 0 undef=.pointer (some ⟨p,0,none⟩))(s1:A.tmps.getD 1 undef=.int .i64 (z:Nat))
    (hend:∀(u:Nat→Value) w',w'=w.drew→Q .normal ((Pl.pu A u [5,6,7,8,9,10,11,12,13,14,15]).put (some 16) (.bool false)) w') :
    Pl.rg prog 1 f208 Q A w:=by
  have aa:Rd w.drew p a len cap q:=hr;have hA:=Pl.At.same (v:=.int .i64 (z:Nat)) (d:=1) (Pl.At.same (v:=.pointer (some ⟨p,0,none⟩)) (d:=0) (Pl.At.here ac ab) s0) s1;refine Pl.qb (S:=fun w'=>Rd w' p a len cap q) hA aa ?_;rw [show (Pl.fd 1 f208).size=12 by kernel_rfl];refine Pl.q0 0 5 (.int .i64 (z:Nat)) (Pl.q1) (Pl.q2 (.tmp 1)) aa ?_;refine Pl.q0 1 6 (.pointer (some ⟨p,0,none⟩)) (Pl.q1) (Pl.q2 (.tmp 0)) aa ?_;refine Pl.q0 2 7 (.pointer (some ⟨p,0,none⟩)) (Pl.q1) (Pl.q_37 (.tmp 6)) aa ?_;refine Pl.q0 3 8 (.pointer (some ⟨p,0,none⟩)) (Pl.q1) (Pl.q6 239 (.tmp 7) 0 (ZeJ p)) aa ?_;refine Pl.q0 4 9 (.slice a len cap) (Pl.q1) (Pl.q4 107 (.tmp 8) (fun w' hS=>ZdG p 0 _ _ _ w' (Rd.c0 hS))) aa ?_;refine Pl.q0 5 10 (.int .i64 (len:Nat)) (Pl.q1) (Pl.qr 107 (.tmp 9) (fun ty w=>Zhx a len cap ty w)) aa ?_;refine Pl.q0 6 11 (.pointer (some ⟨p,0,none⟩)) (Pl.q1) (Pl.q2 (.tmp 0)) aa ?_;refine Pl.q0 7 12 (.pointer (some ⟨p,0,none⟩)) (Pl.q1) (Pl.q_37 (.tmp 11)) aa ?_;refine Pl.q0 8 13 (.pointer (some ⟨p,1,none⟩)) (Pl.q1) (Pl.q6 239 (.tmp 12) 1 (Zci p)) aa ?_;refine Pl.q0 9 14 (.int .i64 (q:Nat)) (Pl.q1) (Pl.q4 3 (.tmp 13) (fun w' hS=>Za8 p 1 _ w' (Rd.c1 hS))) aa ?_;refine Pl.q0 10 15 (.int .i64 ((len:Int)-(q:Int))) (Pl.q1) (Pl.qc .sub 3 3 (.tmp 10) (.tmp 14) (.int .i64 (len:Nat)) (.int .i64 (q:Nat)) (ZiV _ _ _ _ (by omega) (by omega))) aa ?_;refine Pl.q0 11 16 (.bool false) (Pl.q1) (Pl.qc .gtr 3 3 (.tmp 5) (.tmp 15) (.int .i64 (z:Nat)) (.int .i64 ((len:Int)-(q:Int))) (fun w=>by simp [go_sem,eqGuard] <;> omega)) aa ?_;refine Pl.q8 (fun A' hA'=>?_);exact Pl.en hA' hA [5,6,7,8,9,10,11,12,13,14,15,16] (hend hA'.fn _ rfl)
theorem Zsj (w:World)(p:Nat)(a:Option Addr)(len cap q z:Nat)(hr:Rd w p a len cap q)(hz:z≤q)(hq:q≤len)(hc:len≤cap)(hl:len≤9223372036854775807)
    {Q:Exit→Act→World→Prop}(ac:A.tmps.size=41)(ab:A.defers=[])(s0:A.tmps.getD 0 undef=.pointer (some ⟨p,0,none⟩))(s1:A.tmps.getD 1 undef=.int .i64 (z:Nat))
    (hend:∀(u:Nat→Value) w',w'=w.drew→Q .normal ((Pl.pu A u [26,27,28,29,30,31,32,33,34,35,36,37,38,39,40]).put (some 4) (.slice (fromA a cap (q-z)) (q-(q-z)) (cap-(q-z)))) w') :
    Pl.rg prog 4 f208 Q A w:=by
  have aa:Rd w.drew p a len cap q:=hr;have hA:=Pl.At.same (v:=.int .i64 (z:Nat)) (d:=1) (Pl.At.same (v:=.pointer (some ⟨p,0,none⟩)) (d:=0) (Pl.At.here ac ab) s0) s1;refine Pl.qb (S:=fun w'=>Rd w' p a len cap q) hA aa ?_;rw [show (Pl.fd 4 f208).size=16 by kernel_rfl];refine Pl.q0 0 26 (.pointer (some ⟨p,0,none⟩)) (Pl.q1) (Pl.q2 (.tmp 0)) aa ?_;refine Pl.q0 1 27 (.pointer (some ⟨p,0,none⟩)) (Pl.q1) (Pl.q_37 (.tmp 26)) aa ?_;refine Pl.q0 2 28 (.pointer (some ⟨p,0,none⟩)) (Pl.q1) (Pl.q6 239 (.tmp 27) 0 (ZeJ p)) aa ?_;refine Pl.q0 3 29 (.slice a len cap) (Pl.q1) (Pl.q4 107 (.tmp 28) (fun w' hS=>ZdG p 0 _ _ _ w' (Rd.c0 hS))) aa ?_;refine Pl.q0 4 30 (.pointer (some ⟨p,0,none⟩)) (Pl.q1) (Pl.q2 (.tmp 0)) aa ?_;refine Pl.q0 5 31 (.pointer (some ⟨p,0,none⟩)) (Pl.q1) (Pl.q_37 (.tmp 30)) aa ?_;refine Pl.q0 6 32 (.pointer (some ⟨p,1,none⟩)) (Pl.q1) (Pl.q6 239 (.tmp 31) 1 (Zci p)) aa ?_;refine Pl.q0 7 33 (.int .i64 (q:Nat)) (Pl.q1) (Pl.q4 3 (.tmp 32) (fun w' hS=>Za8 p 1 _ w' (Rd.c1 hS))) aa ?_;refine Pl.q0 8 34 (.int .i64 (z:Nat)) (Pl.q1) (Pl.q2 (.tmp 1)) aa ?_;refine Pl.q0 9 35 (.int .i64 ((q-z:Nat):Int)) (Pl.q1) (Pl.qc .sub 3 3 (.tmp 33) (.tmp 34) (.int .i64 (q:Nat)) (.int .i64 (z:Nat)) (Zqu _ _ _ _ hz (by omega))) aa ?_;refine Pl.q0 10 36 (.pointer (some ⟨p,0,none⟩)) (Pl.q1) (Pl.q2 (.tmp 0)) aa ?_;refine Pl.q0 11 37 (.pointer (some ⟨p,0,none⟩)) (Pl.q1) (Pl.q_37 (.tmp 36)) aa ?_;refine Pl.q0 12 38 (.pointer (some ⟨p,1,none⟩)) (Pl.q1) (Pl.q6 239 (.tmp 37) 1 (Zci p)) aa ?_;refine Pl.q0 13 39 (.int .i64 (q:Nat)) (Pl.q1) (Pl.q4 3 (.tmp 38) (fun w' hS=>Za8 p 1 _ w' (Rd.c1 hS))) aa ?_;refine Pl.q0 14 40 (.slice (fromA a cap (q-z)) (q-(q-z)) (cap-(q-z))) (Pl.q1) (Pl.qt 107 (.tmp 29) (some (.tmp 35)) (some (.tmp 39)) (Zfl a len cap (q-z) q (by omega) hq hc)) aa ?_;refine Pl.q0 15 4 (.slice (fromA a cap (q-z)) (q-(q-z)) (cap-(q-z))) (Pl.q1) (Pl.qd (.tmp 40)) aa ?_;refine Pl.q8 (fun A' hA'=>?_);exact Pl.en hA' hA [26,27,28,29,30,31,32,33,34,35,36,37,38,39,40,4] (hend hA'.fn _ rfl)
def thrown:List PanicEntry:=[{ v:=.iface 40 (.int .i64 4),recovered:=false }]
theorem Zh9 (p:Nat)(a:Option Addr)(len cap q z:Nat)(w:World)(hr:Rd w p a len cap q)(hq:q≤len)(hl:len≤9223372036854775807)(hz:len-q<z) :
    Calls prog 208 #[.pointer (some ⟨p,0,none⟩),.int .i64 (z:Nat)] w fun e w'=>e=.panicked thrown∧Bl w w':=by
  have HB:Hi (Bl w w.drew):=(Below.refl _ _).drew;go_enter func208,ntmps208;go_wp2_with fail;refine Pl.q9 (ops:=Pl.fd 1 f208) ?_;refine Zrg w p a len cap q z hr hq hl hz (by rfl) (by rfl) (by rfl) (by rfl) ?_;intro u w' hw;subst hw;simp only [Pl.pu,List.foldl,Act.put,List.setIfInBounds_toArray,List.set];go_wp2_with fail;exact⟨rfl,rfl,HB.o⟩
theorem Zj8 (p:Nat)(a:Option Addr)(len cap q z:Nat)(w:World)(hr:Rd w p a len cap q)(hc:len≤cap)(hq:q≤len)(hl:len≤9223372036854775807)(hz:z≤len-q) :
    Calls prog 208 #[.pointer (some ⟨p,0,none⟩),.int .i64 (z:Nat)] w fun e w'=>e=.returned (.slice (fromA a cap q) z (cap-q))∧Only p w w'∧Rd w' p a len cap (q+z):=by
  have HR:Hi (Rd w.drew p a len cap q):=hr;have HN:Hi (Rd (w.drew.setCell ⟨p,1,none⟩ (.int .i64 ((q:Int)+(z:Int)))) p a len cap (q+z)):=HR.o.set (q+z);have HO:Hi (Only p w (w.drew.setCell ⟨p,1,none⟩ (.int .i64 ((q:Int)+(z:Int)))).drew):=((Only.refl p w).drew.set 1 _).drew;go_enter func208,ntmps208;go_wp2_with fail;refine Pl.q9 (ops:=Pl.fd 1 f208) ?_;refine Zrh w p a len cap q z hr hq hl hz (by rfl) (by rfl) (by rfl) (by rfl) ?_;intro u w' hw;subst hw;have c0:=HR.o.c0;have c1:=HR.o.c1;have fz:=HR.o.fz 1;simp only [Pl.pu,List.foldl,Act.put,List.setIfInBounds_toArray,List.set];clear hr;have HE:Hi (q+z-(q+z-z)=z∧q+z-z=q):=⟨by omega,by omega⟩;go_wp2_with fail;refine Pl.q9 (ops:=Pl.fd 4 f208) ?_;refine Zsj _ p a len cap (q+z) z HN.o (by omega) (by omega) hc hl (by rfl) (by rfl) (by rfl) (by rfl) ?_;intro u w' hw;subst hw;simp only [Pl.pu,List.foldl,Act.put,List.setIfInBounds_toArray,List.set];rw [HE.o.1,HE.o.2];go_wp2;go_ret;exact⟨rfl,HO.o,HN.o⟩
def pieceN (xs:List Nat) (q z:Nat):Nat:=numB ((xs.drop q).take z)
theorem ZpR (u b : Nat) (hb : b < 256) (hu : u * 256 + b < 18446744073709551616) : bits .or .u64 ((u : Int) * 256) (b : Int) = ((u * 256 + b : Nat) : Int) := by
 have e : bits .or .u64 ((u * 256 : Nat) : Int) (b : Int) = ((u * 256 ||| b : Nat) : Int) := u64_or_nat (u * 256) b (Nat.lt_of_le_of_lt (Nat.le_add_right _ _) hu) (Nat.lt_of_le_of_lt (Nat.le_add_left _ _) hu)
 have e2 := Nat.two_pow_add_eq_or_of_lt (i := 8) (b := b) hb u
 have e3 : u * 256 ||| b = u * 256 + b := by
  rw [Nat.mul_comm u 256]
  exact e2.symm
 have c : ((u : Int) * 256) = ((u * 256 : Nat) : Int) := by simp
 rw [c, e, e3]
theorem Znz (p:Nat)(a:Option Addr)(len cap q z:Nat)(xs:List Nat)(w:World)(hr:Rd w p a len cap q)(hx:Bs w a len xs)(hp:0<len→∀b o,a=some ⟨b,o,none⟩→b≠p)(hc:len≤cap)(hq:q≤len)(hl:len≤9223372036854775807)(hz:z≤len-q)(h8:z≤8) :
    Calls prog 209 #[.pointer (some ⟨p,0,none⟩),.int .i64 (z:Nat)] w fun e w'=>e=.returned (.int .u64 (pieceN xs q z:Nat))∧Only p w w'∧Rd w' p a len cap (q+z):=by
  have HN:=Zh (Zj8 p a len cap q z w hr hc hq hl hz)
  clear hr
  go_enter func209,ntmps209
  go_wp2_with fail
  refine HN.o.mono ?_
  rintro e w' ⟨rfl,ho,hr'⟩
  have HB:Hi (Bs w' (fromA a cap q) z ((xs.drop q).take z)):=by
   have:=hx.mid (cap:=cap) (k:=q) (j:=q+z) (by omega) (by omega) hc
   rw [show q+z-q=z by omega] at this
   refine⟨this.1,this.2.1,fun i hi=>?_⟩
   obtain⟨b,off,ha,aa⟩:=this.2.2 i hi
   refine⟨b,off,ha,?_⟩
   have hb:b<w.heap.size:=World.block_lt_of_cell? w _ aa
   have af:b≠p:=by
    obtain⟨b',o',ha',_⟩:=hx.2.2 q (by omega)
    have:b=b':=by
     rw [ha'] at ha
     unfold fromA at ha
     rw [if_neg (by omega)] at ha
     simp only [Option.map_some,Addr.add_lit,Option.some.injEq,Addr.mk.injEq] at ha
     exact ha.1.symm
    rw [this]
    exact hp (by omega) b' o' ha'
   rw [World.cell?_of_block (w:=w) (ho.block b hb af)]
   exact aa
  have HO:=Zh ho
  have HR:=Zh hr'
  have ab:Hi (Bytes ((xs.drop q).take z)):=HB.o.2.1
  have ac:Hi (((xs.drop q).take z).length=z):=HB.o.1
  clear ho hr' hx
  go_wp2_with fail
  go_loop [5,12] (fun v i=>∃j:Nat,j≤z∧i=.int .i64 j∧v=.int .u64 (numB (((xs.drop q).take z).take j):Nat)) (fun _ i=>z-(intOf i).toNat)
  case atStart=>exact ⟨0,by omega,rfl,by simp [numB]⟩
  case round =>
   obtain⟨j,hj,rfl,rfl⟩:=hrel
   rcases Nat.lt_or_ge j z with ad | al
   · obtain⟨b,off,ha,aa⟩:=HB.o.2.2 j ad
     obtain⟨U,hU⟩:∃U,U=numB (((xs.drop q).take z).take j):=⟨_,rfl⟩
     obtain⟨y,hy⟩:∃y,y=((xs.drop q).take z).getD j 0:=⟨_,rfl⟩
     have ak:U<72057594037927936:=by
      have h1:Bytes (((xs.drop q).take z).take j):=fun x hx=>ab.o x (List.mem_of_mem_take hx)
      have h2:=ZbY h1
      have h3:(((xs.drop q).take z).take j).length≤7:=by rw [List.length_take];omega
      have h4:256 ^ (((xs.drop q).take z).take j).length≤256 ^ 7:=Nat.pow_le_pow_right (by decide) h3
      rw [← hU] at h2
      have:(256:Nat) ^ 7=72057594037927936:=by decide
      omega
     have ah:y<256:=by rw [hy];exact ZlO ab.o j
     have am:=ZpR U y ah (by omega)
     have ae:Hi (numB (((xs.drop q).take z).take (j+1))=U*256+y):=by
      have hl':j<((xs.drop q).take z).length:=by rw [ac.o];exact ad
      rw [List.take_succ_eq_append_getElem hl',ZhC,← hU,hy]
      simp only [List.getD,List.getElem?_eq_getElem hl',Option.getD_some]
      trivial
     rw [← hy] at aa
     rw [← hU,ha]
     have ai:=Zh hU
     have aj:=Zh hy
     clear hU hy
     go_wp2_with fail
     go_round
     case rel=>exact ⟨j+1,by omega,by go_num,by rw [ae.o];simp⟩
     case measure=>simp only [intOf];omega
   · have ag:j=z:=by omega
     subst ag
     have HE:Hi (numB (((xs.drop q).take j).take j)=pieceN xs q j):=by
      unfold pieceN
      rw [List.take_of_length_le (by rw [ac.o];exact Nat.le_refl _)]
      trivial
     rw [HE.o]
     go_wp2_with fail
     go_ret
     exact⟨rfl,HO.o,HR.o⟩
theorem Zl5 (p:Nat)(a:Option Addr)(len cap q z:Nat)(w:World)(hr:Rd w p a len cap q)(hq:q≤len)(hl:len≤9223372036854775807)(hz:len-q<z) :
    Calls prog 209 #[.pointer (some ⟨p,0,none⟩),.int .i64 (z:Nat)] w fun e w'=>e=.panicked thrown∧Only p w w':=by
  have HN:=Zh (Zh9 p a len cap q z w hr hq hl hz);clear hr;go_enter func209,ntmps209;go_wp2_with fail;refine HN.o.mono ?_;rintro e w' ⟨rfl,hb⟩;exact⟨rfl,rfl,Only.of hb⟩
structure RdX (w:World) (p:Nat) (a:Option Addr) (len cap q:Nat) (xs:List Nat):Prop where
  rd:Rd w p a len cap q
  bs:Bs w a len xs
  ne:0<len→∀b o,a=some ⟨b,o,none⟩→b≠p
  cap:len≤cap
  le:q≤len
  big:len≤9223372036854775807
theorem RdX.go {q':Nat}(h:RdX w p a len cap q xs)(ho:Only p w w')(hr:Rd w' p a len cap q')(hq:q'≤len):RdX w' p a len cap q' xs:=by
 refine⟨hr,⟨h.bs.1,h.bs.2.1,fun i hi=>?_⟩,h.ne,h.cap,hq,h.big⟩;obtain⟨b,off,ha,hc⟩:=h.bs.2.2 i hi;refine⟨b,off,ha,?_⟩;rw [World.cell?_of_block (w:=w) (ho.block b (World.block_lt_of_cell? w _ hc) (h.ne (by omega) b off ha))];exact hc
theorem RdX.bits (h:RdX w p a len cap q xs)(hz:z≤len-q)(h8:z≤8) :
    Calls prog 209 #[.pointer (some ⟨p,0,none⟩),.int .i64 (z:Nat)] w fun e w'=>e=.returned (.int .u64 (pieceN xs q z:Nat))∧Only p w w'∧RdX w' p a len cap (q+z) xs:=
  (Znz p a len cap q z xs w h.rd h.bs h.ne h.cap h.le h.big hz h8).mono (fun e w' hh=>⟨hh.1,hh.2.1,h.go hh.2.1 hh.2.2 (by have:=h.le;omega)⟩)
theorem RdX.dies (h:RdX w p a len cap q xs)(hz:len-q<z) :
    Calls prog 209 #[.pointer (some ⟨p,0,none⟩),.int .i64 (z:Nat)] w fun e w'=>e=.panicked thrown∧Only p w w':=Zl5 p a len cap q z w h.rd h.le h.big hz
theorem ZjF (h:Bytes xs)(q z:Nat)(hz:z≤8):pieceN xs q z<18446744073709551616:=by
 have h1:Bytes ((xs.drop q).take z):=fun x hx=>h x (List.mem_of_mem_drop (List.mem_of_mem_take hx))
 have h2:=ZbY h1
 have h3:((xs.drop q).take z).length≤8:=by rw [List.length_take];omega
 have h4:256 ^ ((xs.drop q).take z).length≤256 ^ 8:=Nat.pow_le_pow_right (by decide) h3
 have:(256:Nat) ^ 8=18446744073709551616:=by decide
 unfold pieceN
 omega
theorem ZlE (p:Nat)(a:Option Addr)(len cap q:Nat)(xs:List Nat)(k:Int)(w:World)(h:RdX w p a len cap q xs) :
    Calls prog 210 #[.pointer (some ⟨p,0,none⟩),.int .i64 k] w fun e w'=>Only p w w' ∧
     ((cntN k≤len-q∧(pieceN xs q (cntN k):Int)≤maxN k→e=.returned (.int .i64 (pieceN xs q (cntN k):Nat))∧RdX w' p a len cap (q+cntN k) xs)∧(¬(cntN k≤len-q∧(pieceN xs q (cntN k):Int)≤maxN k)→e=.panicked thrown)):=by
 have HC:Hi (∀w,Calls prog 213 #[.int .i64 k] w fun e w'=>e=.returned (.int .i64 (cntN k:Nat))∧w'=w):=Zgr k;have HM:Hi (∀w,Calls prog 214 #[.int .i64 k] w fun e w'=>e=.returned (.int .i64 (maxN k))∧w'=w):=Zh3 k;rcases Nat.lt_or_ge (len-q) (cntN k) with hs | hs
 · have HD:=Zh (h.dies hs);(have HF:Hi (¬(cntN k≤len-q∧(pieceN xs q (cntN k):Int)≤maxN k)):=fun hh=>by omega);clear h hs;go_enter func210,ntmps210;go_wp2_with fail;refine(HC.o _).mono ?_;rintro e w' ⟨rfl,hw⟩;obtain rfl:=hw.symm;go_wp2_with fail;refine HD.o.mono ?_;rintro e w' ⟨rfl,ho⟩;exact⟨rfl,ho,(fun hh=>absurd hh HF.o),fun _=>rfl⟩
 · have HD:=Zh (h.bits hs (Zio k));have ac:=ZjF h.bs.2.1 q (cntN k) (Zio k);obtain⟨U,hU⟩:∃U,U=pieceN xs q (cntN k):=⟨_,rfl⟩;rw [← hU] at HD ac ⊢;have ad:maxN k=255∨maxN k=65535∨maxN k=2147483647:=by
    unfold maxN;split
    · exact .inl rfl
    · split
      · exact .inr (.inl rfl)
      · exact .inr (.inr rfl)
   obtain⟨M,hM,aa⟩:∃M:Nat,maxN k=(M:Int)∧M≤2147483647:=by
    rcases ad with e | e | e
    · exact⟨255,e,by omega⟩
    · exact⟨65535,e,by omega⟩
    · exact⟨2147483647,e,by omega⟩
   rw [hM] at HM ⊢;have ae:=Zn9 M (by omega);clear h hU ad hM;by_cases ab:U≤M
   · (have i1:¬(M:Int)<(U:Int):=by omega);have HT:Hi (cntN k≤len-q∧(U:Int)≤(M:Int)):=⟨hs,by omega⟩;have HU:Hi (U≤2147483647):=Nat.le_trans ab aa;clear ab hs ac aa;go_enter func210,ntmps210;go_wp2_with fail;refine(HC.o _).mono ?_;rintro e w' ⟨rfl,hw⟩;obtain rfl:=hw.symm;go_wp2_with fail;refine HD.o.mono ?_;rintro e w' ⟨rfl,ho,hx⟩;have HO:=Zh ho;have HX:=Zh hx;clear ho hx;go_wp2_with fail;refine(HM.o _).mono ?_;rintro e w2 ⟨rfl,hw⟩;obtain rfl:=hw.symm;have hU:=HU.o;go_wp2;go_ret;exact⟨HO.o,fun _=>⟨rfl,HX.o⟩,fun hh=>absurd HT.o hh⟩
   · (have i1:(M:Int)<(U:Int):=by omega);(have HF:Hi (¬(cntN k≤len-q∧(U:Int)≤(M:Int))):=fun hh=>by omega);clear ab hs ac aa;go_enter func210,ntmps210;go_wp2_with fail;refine(HC.o _).mono ?_;rintro e w' ⟨rfl,hw⟩;obtain rfl:=hw.symm;go_wp2_with fail;refine HD.o.mono ?_;rintro e w' ⟨rfl,ho,hx⟩;have HO:=Zh ho;clear ho hx;go_wp2_with fail;refine(HM.o _).mono ?_;rintro e w2 ⟨rfl,hw⟩;obtain rfl:=hw.symm;go_wp2_with fail;exact⟨rfl,HO.o,(fun hh=>absurd hh HF.o),fun _=>rfl⟩
theorem ZkK (p:Nat)(a:Option Addr)(len cap q:Nat)(xs:List Nat)(w:World)(h:RdX w p a len cap q xs) :
    Calls prog 207 #[.pointer (some ⟨p,0,none⟩)] w fun e w'=>Only p w w' ∧
     ((8≤len-q∧Fl.val (pieceN xs q 8)=pieceN xs q 8→e=.returned (.float .f64 (pieceN xs q 8))∧RdX w' p a len cap (q+8) xs)∧(¬(8≤len-q∧Fl.val (pieceN xs q 8)=pieceN xs q 8)→e=.panicked thrown)):=by
 rcases Nat.lt_or_ge (len-q) 8 with hs | hs
 · have HD:Hi (Calls prog 209 #[.pointer (some ⟨p,0,none⟩),.int .i64 8] w fun e w'=>e=.panicked thrown∧Only p w w'):=h.dies hs;(have HF:Hi (¬(8≤len-q∧Fl.val (pieceN xs q 8)=pieceN xs q 8)):=fun hh=>by omega);clear h hs;go_enter func207,ntmps207;go_wp2_with fail;refine HD.o.mono ?_;rintro e w' ⟨rfl,ho⟩;exact⟨rfl,ho,(fun hh=>absurd hh HF.o),fun _=>rfl⟩
 · have aa:=ZjF h.bs.2.1 q 8 (Nat.le_refl _);have hd:=h.bits hs (Nat.le_refl 8);obtain⟨U,hU⟩:∃U,U=pieceN xs q 8:=⟨_,rfl⟩;rw [← hU] at hd aa ⊢;have HD:Hi (Calls prog 209 #[.pointer (some ⟨p,0,none⟩),.int .i64 8] w fun e w'=>e=.returned (.int .u64 (U:Nat))∧Only p w w'∧RdX w' p a len cap (q+8) xs):=hd;have HV:Hi (∀w,Calls prog 171 #[.float .f64 U] w fun e w'=>e=.returned (.float .f64 (Fl.val U))∧w'=w):=Zfs U aa;have HS:Hi (∀w,Calls prog 173 #[.float .f64 U,.float .f64 (Fl.val U)] w fun e w'=>e=.returned (.bool (U == Fl.val U))∧w'=w):=Zdv U (Fl.val U);have ab:∀w,(callFunc 48 #[.int .u64 (U:Nat)]).run prog w=.ok (.value (.float .f64 U)) w:=Zdb (U:Nat);clear h hU aa hd;by_cases hv:Fl.val U=U
   · have HT:Hi (8≤len-q∧Fl.val U=U):=⟨hs,hv⟩;(have e1:(U == Fl.val U)=true:=by rw [hv];simp);rw [e1] at HS;clear hs hv e1;go_enter func207,ntmps207;go_wp2_with fail;refine HD.o.mono ?_;rintro e w' ⟨rfl,ho,hx⟩;have HO:=Zh ho;have HX:=Zh hx;clear ho hx;go_wp2_with fail;refine(HV.o _).mono ?_;rintro e w2 ⟨rfl,hw⟩;obtain rfl:=hw.symm;go_wp2_with fail;refine(HS.o _).mono ?_;rintro e w2 ⟨rfl,hw⟩;obtain rfl:=hw.symm;go_wp2;go_ret;exact⟨HO.o,fun _=>⟨rfl,HX.o⟩,fun hh=>absurd HT.o hh⟩
   · have HF:Hi (¬(8≤len-q∧Fl.val U=U)):=fun hh=>hv hh.2;have e1:(U == Fl.val U)=false:=by
      apply beq_eq_false_iff_ne.2;exact fun e=>hv e.symm
     rw [e1] at HS;clear hs hv e1;go_enter func207,ntmps207;go_wp2_with fail;refine HD.o.mono ?_;rintro e w' ⟨rfl,ho,hx⟩;have HO:=Zh ho;clear ho hx;go_wp2_with fail;refine(HV.o _).mono ?_;rintro e w2 ⟨rfl,hw⟩;obtain rfl:=hw.symm;go_wp2_with fail;refine(HS.o _).mono ?_;rintro e w2 ⟨rfl,hw⟩;obtain rfl:=hw.symm;go_wp2_with fail;exact⟨rfl,HO.o,(fun hh=>absurd hh HF.o),fun _=>rfl⟩
theorem ItBlk.fz {x:It}(h:ItBlk w p x)(o:Nat):w.frozen? ⟨p,o,none⟩=false:=frozen_of_row w p _ _ 182 h
theorem Zd3 (hp:p<w.heap.size)(ho:Only p (w.alloc (.cells #[.int .i64 0,.int .i64 0,.float .f64 0,.string ⟨#[]⟩] 182)) w'):ItBlk w' w.heap.size ⟨0,0,0,⟨#[]⟩⟩:=by
 have h:=Zmi w ⟨0,0,0,⟨#[]⟩⟩;unfold ItBlk at h ⊢;rw [ho.block w.heap.size (Array.getElem?_eq_some_iff.1 h).1 (by omega)];exact h
def Zcc (w:World) (g:Nat) (y:It):World:=(((w.setCell ⟨g,0,none⟩ (.int .i64 y.kind)).setCell ⟨g,1,none⟩ (.int .i64 y.n)).setCell ⟨g,2,none⟩ (.float .f64 y.x)).setCell ⟨g,3,none⟩ (.string y.s)
theorem ZiJ {g:Nat}{x:It}(h:ItBlk w g x)(y:It):ItBlk (Zcc w g y) g y:=by
 have h1:=heap_setCell_same w g 0 _ 182 (.int .i64 y.kind) h;have h2:=heap_setCell_same _ g 1 _ 182 (.int .i64 y.n) h1;have h3:=heap_setCell_same _ g 2 _ 182 (.float .f64 y.x) h2;have h4:=heap_setCell_same _ g 3 _ 182 (.string y.s) h3;unfold ItBlk Zcc;rw [h4];simp
theorem Zdy (w:World)(g:Nat)(y:It)(k:Nat)(hk:k≠g):(Zcc w g y).heap[k]? = w.heap[k]?:=by
 unfold Zcc;rw [Below.heap_setCell _ ⟨g,3,none⟩ _ k hk,Below.heap_setCell _ ⟨g,2,none⟩ _ k hk,Below.heap_setCell _ ⟨g,1,none⟩ _ k hk,Below.heap_setCell _ ⟨g,0,none⟩ _ k hk]
theorem ZhN {a:World}(h:Only p a w)(g:Nat)(hg:a.heap.size≤g)(y:It):Only p a (Zcc w g y):=by
 have hb:Below g w (Zcc w g y):=((((Below.refl g w).setCell (p:=⟨g,0,none⟩) (Nat.le_refl _) _).setCell (p:=⟨g,1,none⟩) (Nat.le_refl _) _).setCell (p:=⟨g,2,none⟩) (Nat.le_refl _) _).setCell (p:=⟨g,3,none⟩) (Nat.le_refl _) _;exact⟨hb.os.trans h.os,hb.tape.trans h.tape,hb.output.trans h.output,Nat.le_trans h.size hb.size,fun k hk hp=>(Zdy w g y k (by omega)).trans (h.block k hk hp)⟩
theorem Zgz {q':Nat}{z:It}(h:RdX w p a len cap q xs)(ho:Only p w w')(hr:Rd w' p a len cap q')(hq:q'≤len)(hg:ItBlk w' w.heap.size z)(y:It) :
    ItBlk (Zcc w' w.heap.size y) w.heap.size y∧Only p w (Zcc w' w.heap.size y)∧RdX (Zcc w' w.heap.size y) p a len cap q' xs:=by
  have h1:=ZhN ho w.heap.size (Nat.le_refl _) y;refine⟨ZiJ hg y,h1,h.go h1 ?_ hq⟩;have:=h.rd.lt;exact(Zdy w' w.heap.size y p (by omega)).trans hr
theorem Zcj {W:World}{g:Nat}{y:It}(h:ItBlk W g y)(tmps:Array Value)(ht:tmps.getD 4 undef=.pointer (some ⟨g,0,none⟩)):(results f201 tmps).run prog W=.ok y.val W:=by
 obtain⟨c0,c1,c2,c3⟩:=h.at;(have aa:tmps[4]?.getD undef=.pointer (some ⟨g,0,none⟩):=by simpa using ht);simp [results,results201,aa,go_sem,c0,c1,c2,c3,It.val]
def Step (p:Nat) (a:Option Addr) (len cap q:Nat) (xs:List Nat) (k:Int) (w:World) (e:Ending) (w':World):Prop:=
  Only p w w'∧match tk (xs.drop q) k with
    | none=>e=.panicked thrown
    | some (i,n)=>e=.returned i.val∧RdX w' p a len cap (q+n) xs
theorem Zob (p:Nat)(a:Option Addr)(len cap q:Nat)(xs:List Nat)(w:World)(h:RdX w p a len cap q xs) :
    Calls prog 201 #[.pointer (some ⟨p,0,none⟩),.int .i64 4] w (Step p a len cap q xs 4 w):=by
  have ab:∀(w:World) (a:Addr) (m:Mode) (x:Nat),(store a (.float .f64 x) m).run prog w=stored prog w a (.float .f64 x) m:=fun w a m x=>run_store prog w a _ m rfl;have aa:=h.bs.1;have HN:Hi (∀o,Calls prog 207 #[.pointer (some ⟨p,0,none⟩)] (w.alloc o) fun e w'=>Only p (w.alloc o) w' ∧
      ((8≤len-q∧Fl.val (pieceN xs q 8)=pieceN xs q 8→e=.returned (.float .f64 (pieceN xs q 8))∧RdX w' p a len cap (q+8) xs)∧(¬(8≤len-q∧Fl.val (pieceN xs q 8)=pieceN xs q 8)→e=.panicked thrown))):=
    fun o=>ZkK p a len cap q xs (w.alloc o) (h.go (Only.of (Zab w o)) (h.rd.keep (Zab w o) (Nat.le_refl _)) h.le)
  have HP:Hi (p<w.heap.size):=h.rd.lt;by_cases hc:8≤len-q∧Fl.val (pieceN xs q 8)=pieceN xs q 8
  · have HC:=Zh hc;have HT:Hi (tk (xs.drop q) 4=some (⟨4,0,pieceN xs q 8,noS⟩,8)):=by
     (have h1:8≤(xs.drop q).length:=by rw [List.length_drop,aa];exact hc.1);have h2:Fl.val (numB ((xs.drop q).take 8))=numB ((xs.drop q).take 8):=hc.2;simp only [tk,if_true];rw [if_pos h1,if_pos h2];trivial
    have HH:=Zh h;clear h hc aa;unfold Step;rw [HT.o];go_enter func201,ntmps201;go_wp2_with fail;refine(HN.o _).mono ?_;rintro e w' ⟨ho,hy,hn⟩;obtain⟨rfl,hx⟩:=hy HC.o;have HG:=Zh (Zd3 HP.o ho);have g0:=HG.o.at.p0;have g1:=HG.o.at.p1;have g2:=HG.o.at.p2;have g3:=HG.o.at.p3;have gz:=HG.o.fz;have HO:=Zh ((Only.of (Zab w _)).trans ho);have HX:=Zh hx;clear ho hy hn hx;have HE:=Zh (Zgz HH.o HO.o HX.o.rd HX.o.le HG.o ⟨4,0,pieceN xs q 8,noS⟩);go_wp2;refine bodyPost_ret (Zcj HE.o.1 _ (by rfl)) rfl ?_;exact⟨HE.o.2.1,rfl,HE.o.2.2⟩
  · have HC:=Zh hc;have HT:Hi (tk (xs.drop q) 4=none):=by
     simp only [tk,if_true];by_cases h1:8≤(xs.drop q).length
     · rw [if_pos h1];have h2:¬Fl.val (numB ((xs.drop q).take 8))=numB ((xs.drop q).take 8):=fun h2=>hc ⟨by rw [List.length_drop,aa] at h1;exact h1,h2⟩;rw [if_neg h2];trivial
     · rw [if_neg h1];trivial
    clear h hc aa;unfold Step;rw [HT.o];go_enter func201,ntmps201;go_wp2_with fail;refine(HN.o _).mono ?_;rintro e w' ⟨ho,hy,hn⟩;obtain rfl:=hn HC.o;exact⟨rfl,(Only.of (Zab w _)).trans ho,rfl⟩
theorem RdX.next (h:RdX w p a len cap q xs)(hz:z≤len-q) :
    Calls prog 208 #[.pointer (some ⟨p,0,none⟩),.int .i64 (z:Nat)] w fun e w'=>e=.returned (.slice (fromA a cap q) z (cap-q))∧Only p w w'∧RdX w' p a len cap (q+z) xs∧(convert 107 9 (.slice (fromA a cap q) z (cap-q))).run prog w'=.ok (.string (bstr ((xs.drop q).take z))) w':=by
  refine(Zj8 p a len cap q z w h.rd h.cap h.le h.big hz).mono ?_;rintro e w' ⟨he,ho,hr⟩;have aa:=h.le;have h2:=h.go ho hr (by omega);refine⟨he,ho,h2,?_⟩;have hm:=h2.bs.mid (cap:=cap) (k:=q) (j:=q+z) (by omega) (by omega) h.cap;rw [show q+z-q=z by omega] at hm;exact Zam (cap-q) hm
theorem Zmj (p:Nat)(a:Option Addr)(len cap q:Nat)(xs:List Nat)(w:World)(h:RdX w p a len cap q xs) :
    Calls prog 201 #[.pointer (some ⟨p,0,none⟩),.int .i64 5] w (Step p a len cap q xs 5 w):=by
  have al:∀(w:World) (a:Addr) (m:Mode) (x:Nat),(store a (.float .f64 x) m).run prog w=stored prog w a (.float .f64 x) m:=fun w a m x=>run_store prog w a _ m rfl;have aa:=h.bs.1;have HH:=Zh h;have HP:Hi (p<w.heap.size):=h.rd.lt;have ac:∀o,RdX (w.alloc o) p a len cap q xs:=fun o=>h.go (Only.of (Zab w o)) (h.rd.keep (Zab w o) (Nat.le_refl _)) h.le;have ad:=h.le;rcases Nat.lt_or_ge (len-q) 1 with hs | hs
  · have HD:Hi (∀o,Calls prog 209 #[.pointer (some ⟨p,0,none⟩),.int .i64 1] (w.alloc o) fun e w'=>e=.panicked thrown∧Only p (w.alloc o) w'):=fun o=>(ac o).dies hs;have HT:Hi (tk (xs.drop q) 5=none):=by
     (have h1:¬1≤(xs.drop q).length:=by rw [List.length_drop,aa];omega);simp only [tk,show ¬(5:Int)=4 by decide,if_false,if_true];rw [if_neg h1];trivial
    clear h hs aa ac ad;unfold Step;rw [HT.o];go_enter func201,ntmps201;go_wp2_with fail;refine(HD.o _).mono ?_;rintro e w' ⟨rfl,ho⟩;exact⟨rfl,(Only.of (Zab w _)).trans ho,rfl⟩
  · have aj:pieceN xs q 1<256:=by
     have h1:Bytes ((xs.drop q).take 1):=fun x hx=>h.bs.2.1 x (List.mem_of_mem_drop (List.mem_of_mem_take hx));have h2:=ZbY h1;(have h3:((xs.drop q).take 1).length≤1:=by rw [List.length_take];omega);have h4:256 ^ ((xs.drop q).take 1).length≤256 ^ 1:=Nat.pow_le_pow_right (by decide) h3;unfold pieceN;omega
    have hb:∀o,Calls prog 209 #[.pointer (some ⟨p,0,none⟩),.int .i64 1] (w.alloc o) fun e w'=>e=.returned (.int .u64 (pieceN xs q 1:Nat))∧Only p (w.alloc o) w'∧RdX w' p a len cap (q+1) xs:=fun o=>(ac o).bits (z:=1) hs (by decide);obtain⟨U,hU⟩:∃U,U=pieceN xs q 1:=⟨_,rfl⟩;rw [← hU] at aj;simp only [← hU] at hb;have HB:=Zh hb;have hU':numB ((xs.drop q).take 1)=U:=hU.symm;rcases Nat.lt_or_ge (len-(q+1)) U with ht | ht
    · have HT:Hi (tk (xs.drop q) 5=none):=by
       (have h1:1≤(xs.drop q).length:=by rw [List.length_drop,aa];omega);(have h2:¬1+U≤(xs.drop q).length:=by rw [List.length_drop,aa];omega);simp only [tk,show ¬(5:Int)=4 by decide,if_false,if_true];rw [if_pos h1,hU',if_neg h2];trivial
      have HZ:=Zh ht;clear h hs aa ac hb hU hU' ht ad;unfold Step;rw [HT.o];go_enter func201,ntmps201;go_wp2_with fail;refine(HB.o _).mono ?_;rintro e w' ⟨rfl,ho,hx⟩;have HD:=Zh (Zh9 p a len cap (q+1) U w' hx.rd hx.le hx.big HZ.o);have HO:=Zh ((Only.of (Zab w _)).trans ho);clear ho hx;go_wp2_with fail;refine HD.o.mono ?_;rintro e w2 ⟨rfl,ai⟩;exact⟨rfl,HO.o.trans (Only.of ai),rfl⟩
    · have HT:Hi (tk (xs.drop q) 5=some (⟨5,0,0,bstr ((xs.drop (q+1)).take U)⟩,1+U)):=by
       (have h1:1≤(xs.drop q).length:=by rw [List.length_drop,aa];omega);(have h2:1+U≤(xs.drop q).length:=by rw [List.length_drop,aa];omega);simp only [tk,show ¬(5:Int)=4 by decide,if_false,if_true];rw [if_pos h1,hU',if_pos h2,List.drop_drop];trivial
      have HZ:=Zh ht;clear h hs aa ac hb hU hU' ht ad;unfold Step;rw [HT.o];go_enter func201,ntmps201;go_wp2_with fail;refine(HB.o _).mono ?_;rintro e w' ⟨rfl,ho,hx⟩;have HN:=Zh (hx.next HZ.o);have HG:=Zh (Zd3 HP.o ho);have HO:=Zh ((Only.of (Zab w _)).trans ho);clear ho hx;go_wp2_with fail;refine HN.o.mono ?_;rintro e w2 ⟨rfl,ae,ag,ak⟩;have ab:Hi (ItBlk w2 w.heap.size ⟨0,0,0,⟨#[]⟩⟩):=by
       have h0:=HG.o;have hp:=HP.o;unfold ItBlk at h0 ⊢;rw [ae.block w.heap.size (Array.getElem?_eq_some_iff.1 h0).1 (by omega)];exact h0
      have ah:=Zh (HO.o.trans ae);have af:=Zh ag;have HE:=Zh (Zgz HH.o ah.o af.o.rd af.o.le ab.o ⟨5,0,0,bstr ((xs.drop (q+1)).take U)⟩);have g0:=ab.o.at.p0;have g1:=ab.o.at.p1;have g2:=ab.o.at.p2;have g3:=ab.o.at.p3;have gz:=ab.o.fz;clear ae ag;go_wp2_with fail;refine bodyPost_ret (Zcj HE.o.1 _ (by rfl)) rfl ?_;refine⟨HE.o.2.1,rfl,?_⟩;have:=HE.o.2.2;rw [Nat.add_assoc] at this;exact this
theorem ZjM (hk:k=1∨k=2∨k=3)(xs:List Nat):tk xs k=if cntN k≤xs.length then (if (numB (xs.take (cntN k)):Int)≤maxN k then some (⟨k,numB (xs.take (cntN k)),0,noS⟩,cntN k) else none) else none:=by
 rcases hk with rfl | rfl | rfl <;> simp [tk]
theorem Zoa (p:Nat)(a:Option Addr)(len cap q:Nat)(xs:List Nat)(k:Int)(hk:k=1∨k=2∨k=3)(w:World)(h:RdX w p a len cap q xs) :
    Calls prog 201 #[.pointer (some ⟨p,0,none⟩),.int .i64 k] w (Step p a len cap q xs k w):=by
  have ab:∀(w:World) (a:Addr) (m:Mode) (x:Nat),(store a (.float .f64 x) m).run prog w=stored prog w a (.float .f64 x) m:=fun w a m x=>run_store prog w a _ m rfl;have aa:=h.bs.1;have HH:=Zh h;have HP:Hi (p<w.heap.size):=h.rd.lt;have HN:Hi (∀o,Calls prog 210 #[.pointer (some ⟨p,0,none⟩),.int .i64 k] (w.alloc o) fun e w'=>Only p (w.alloc o) w' ∧
      ((cntN k≤len-q∧(pieceN xs q (cntN k):Int)≤maxN k→e=.returned (.int .i64 (pieceN xs q (cntN k):Nat))∧RdX w' p a len cap (q+cntN k) xs)∧(¬(cntN k≤len-q∧(pieceN xs q (cntN k):Int)≤maxN k)→e=.panicked thrown))):=
    fun o=>ZlE p a len cap q xs k (w.alloc o) (h.go (Only.of (Zab w o)) (h.rd.keep (Zab w o) (Nat.le_refl _)) h.le)
  (have e4:(k == 4)=false:=by rcases hk with rfl | rfl | rfl <;> decide);(have e5:(k == 5)=false:=by rcases hk with rfl | rfl | rfl <;> decide);by_cases hc:cntN k≤len-q∧(pieceN xs q (cntN k):Int)≤maxN k
  · have HC:=Zh hc;have HT:Hi (tk (xs.drop q) k=some (⟨k,(pieceN xs q (cntN k):Nat),0,noS⟩,cntN k)):=by
     (have h1:cntN k≤(xs.drop q).length:=by rw [List.length_drop,aa];exact hc.1);have h2:(numB ((xs.drop q).take (cntN k)):Int)≤maxN k:=hc.2;rw [ZjM hk,if_pos h1,if_pos h2];trivial
    clear h hc aa hk;unfold Step;rw [HT.o];go_enter func201,ntmps201;go_wp2_with fail;refine(HN.o _).mono ?_;rintro e w' ⟨ho,hy,hn⟩;obtain⟨rfl,hx⟩:=hy HC.o;have HG:=Zh (Zd3 HP.o ho);have g0:=HG.o.at.p0;have g1:=HG.o.at.p1;have g2:=HG.o.at.p2;have g3:=HG.o.at.p3;have gz:=HG.o.fz;have HO:=Zh ((Only.of (Zab w _)).trans ho);have HX:=Zh hx;have HE:=Zh (Zgz HH.o HO.o HX.o.rd HX.o.le HG.o ⟨k,(pieceN xs q (cntN k):Nat),0,noS⟩);clear ho hy hn hx;go_wp2;refine bodyPost_ret (Zcj HE.o.1 _ (by rfl)) rfl ?_;exact⟨HE.o.2.1,rfl,HE.o.2.2⟩
  · have HC:=Zh hc;have HT:Hi (tk (xs.drop q) k=none):=by
     rw [ZjM hk];by_cases h1:cntN k≤(xs.drop q).length
     · rw [if_pos h1];have h2:¬(numB ((xs.drop q).take (cntN k)):Int)≤maxN k:=fun h2=>hc ⟨by rw [List.length_drop,aa] at h1;exact h1,h2⟩;rw [if_neg h2];trivial
     · rw [if_neg h1];trivial
    clear h hc aa hk;unfold Step;rw [HT.o];go_enter func201,ntmps201;go_wp2_with fail;refine(HN.o _).mono ?_;rintro e w' ⟨ho,hy,hn⟩;obtain rfl:=hn HC.o;exact⟨rfl,(Only.of (Zab w _)).trans ho,rfl⟩
theorem Zc0 (p:Nat)(a:Option Addr)(len cap q:Nat)(xs:List Nat)(k:Int)(hk:1≤k∧k≤5)(w:World)(h:RdX w p a len cap q xs) :
    Calls prog 201 #[.pointer (some ⟨p,0,none⟩),.int .i64 k] w (Step p a len cap q xs k w):=by
  by_cases h4:k=4
  · subst h4;exact Zob p a len cap q xs w h
  by_cases h5:k=5
  · subst h5;exact Zmj p a len cap q xs w h
  exact Zoa p a len cap q xs k (by omega) w h
theorem ZqN:(prog.info? 182).map (fun i=>(i.zero,i.size,i.bytes))=some (some (.agg #[.int .i64 0,.int .i64 0,.float .f64 0,.string ⟨#[]⟩]),4,40):=by kernel_rfl
def It.cells (i:It):List Value:=[.int .i64 i.kind,.int .i64 i.n,.float .f64 i.x,.string i.s]
def ZaQ (l:List It):List Value:=l.flatMap It.cells
theorem Zbp:∀l,(ZaQ l).length=l.length*4
 | []=>rfl
 | i :: r=>by
  have:=Zbp r
  simp only [ZaQ,List.flatMap_cons,List.length_append,List.length_cons] at *
  rw [this]
  simp [It.cells]
  omega
theorem Zgy (l m:List It):ZaQ (l ++ m)=ZaQ l ++ ZaQ m:=by simp [ZaQ]
theorem Zk3 (l:List It):∀u∈ZaQ l,u.oneCell'=true:=by
 intro u hu;obtain⟨i,_,hi⟩:=List.mem_flatMap.1 hu;simp only [It.cells,List.mem_cons,List.mem_nil_iff,or_false] at hi;rcases hi with rfl | rfl | rfl | rfl <;> rfl
theorem ZdD:∀(l:List It)(j t:Nat),j<l.length→t<4→(ZaQ l)[j*4+t]? = (l.getD j itD).cells[t]?
 | i :: r,0,t,_,ht=>by
  simp only [ZaQ,List.flatMap_cons]
  rw [List.getElem?_append_left (by simp [It.cells];omega)]
  simp
 | i :: r,j+1,t,hj,ht=>by
  have:=ZdD r j t (by simpa using hj) ht
  simp only [ZaQ,List.flatMap_cons] at *
  rw [List.getElem?_append_right (by simp [It.cells];omega)]
  have e:(j+1)*4+t-i.cells.length=j*4+t:=by simp [It.cells];omega
  rw [e,this]
  simp [List.getD]
def OwnsI (w:World) (base:Nat) (v:Value) (l:List It):Prop:=w.ownsRow base 182 4 v l.length (ZaQ l)
theorem OwnsI.nil (w:World)(base:Nat):OwnsI w base (.slice none 0 0) []:=⟨rfl,.inl ⟨rfl,rfl⟩⟩
theorem OwnsI.new (w:World):OwnsI (w.alloc (.cells #[] 182)) w.heap.size (.slice (some ⟨w.heap.size,0,none⟩) 0 0) []:=by
 have:=World.ownsRow_lit (base:=w.heap.size) (e:=182) (size:=4) w #[] 0 (Nat.le_refl _) (by unfold maxLen;omega) (by simp);simpa [OwnsI,ZaQ] using this
theorem OwnsI.keep {l:List It}(h:OwnsI w base v l)(hb:Below B w w')(hB:w.heap.size≤B):OwnsI w' base v l:=by
 refine⟨h.1,?_⟩;rcases h.2 with hn | ⟨g,cap,cur,hv,aa,hg,rest⟩
 · exact .inl hn
 · refine .inr ⟨g,cap,cur,hv,aa,?_,rest⟩;rw [hb.block g (Nat.lt_of_lt_of_le (Array.getElem?_eq_some_iff.1 hg).1 hB)];exact hg
theorem OwnsI.only {l:List It}(h:OwnsI w base v l)(ho:Only p w w'){C:Array Value}{t:TypeId}{fr:Nat × Nat}(hp:w.heap[p]? = some (Obj.cells C t fr))(ht:t≠182):OwnsI w' base v l:=by
 refine⟨h.1,?_⟩;rcases h.2 with hn | ⟨g,cap,cur,hv,aa,hg,rest⟩
 · exact .inl hn
 · refine .inr ⟨g,cap,cur,hv,aa,?_,rest⟩;rw [ho.block g (Array.getElem?_eq_some_iff.1 hg).1 ?_]
   · exact hg
   · intro e;subst e;rw [hg] at hp;simp only [Option.some.injEq,Obj.cells.injEq] at hp;exact ht hp.2.1.symm
theorem OwnsI.is {l:List It}(h:OwnsI w base v l)(hf:∀i∈l,i.fits):∃a cap,v=.slice a l.length cap∧Is w a l.length l∧(a=none→cap=0)∧l.length≤cap:=by
 rcases h.2 with ⟨hv,h0⟩ | ⟨g,cap,cur,hv,ab,hg,aa,hr⟩
 · refine⟨none,0,by rw [h0];exact hv,⟨rfl,hf,fun j hj=>by omega⟩,fun _=>rfl,by omega⟩
 · refine⟨some ⟨g,0,none⟩,cap,hv,⟨rfl,hf,fun j hj=>⟨g,0,rfl,?_⟩⟩,(fun e=>by cases e),aa⟩;rw [hv] at h;have hc:∀t,t<4→w.cell? ⟨g,0+j*4+t,none⟩=(l.getD j itD).cells[t]?:=by
    intro t ht;have:=World.ownsRow.cellAt h (j*4+t) (by omega);rw [Nat.zero_add,this,ZdD l j t hj ht]
   exact⟨hc 0 (by omega),hc 1 (by omega),hc 2 (by omega),hc 3 (by omega)⟩
def Ze9 (w w':World):Prop:=∀(p:Nat) (C:Array Value) (t:TypeId) (fr:Nat × Nat),w.heap[p]? = some (Obj.cells C t fr)→t≠182→w'.heap[p]? = w.heap[p]?
theorem Ze9.below (h:Bl w w'):Ze9 w w':=fun p _ _ _ hp _=>h.block p (Array.getElem?_eq_some_iff.1 hp).1
theorem OwnsI.ne {l:List It}(h:OwnsI w base v l){C:Array Value}{t:TypeId}{fr:Nat × Nat}(hp:w.heap[p]? = some (Obj.cells C t fr))(ht:t≠182):v.ownBlock≠some p:=by
 intro e;rcases h.2 with ⟨hv,_⟩ | ⟨g,cap,cur,hv,_,hg,_⟩
 · rw [hv] at e;cases e
 · rw [hv] at e;simp [Value.ownBlock] at e;subst e;rw [hg] at hp;simp only [Option.some.injEq,Obj.cells.injEq] at hp;exact ht hp.2.1.symm
theorem ZaC (w:World)(ty:TypeId)(base:Nat)(v:Value)(l:List It)(aa:OwnsI w base v l)(ao:Option Addr)(len cap:Nat)(m:List It)(hb:Is w ao len m)(hn:ao=none→cap=0)
    (ah:l.length+len≤1000000)(ab:base≤w.heap.size) :
    ∃v' w',(Builtin.append_ #[183,183] ty #[v,.slice ao len cap]).run prog w=.ok v' w'∧OwnsI w' base v' (l ++ m)∧Below base w w'∧Ze9 w w':=by
  obtain⟨i0,hi,aj,ak,al⟩:=info_parts ZqN;have af:∀k,v.ownBlock=some k→base≤k:=fun k hk=>(World.ownsRow.lt aa k hk).1;have ag:=hb.1;cases ao with
  | none =>
   obtain rfl:=hn rfl;have h0:len=0:=by
    rcases Nat.eq_zero_or_pos len with h | h
    · exact h
    · obtain⟨_,_,e,_⟩:=hb.2.2 0 h;cases e
   subst h0;have hy:m=[]:=List.eq_nil_of_length_eq_zero ag;subst hy;have ae:=run_append_owned_none (P:=prog) (w:=w) base 183 ty 182 i0 4 underlying183 hi v l.length (ZaQ l) aa;exact⟨v,w,ae,by simpa using aa,Below.refl _ _,fun _ _ _ _ _ _=>rfl⟩
  | some ad =>
   have ac:∀j u,(ZaQ m)[j]? = some u→w.cell? (ad.add j)=some u:=by
    intro j u hj;have am:j<m.length*4:=by
     have:=(List.getElem?_eq_some_iff.1 hj).1;rw [Zbp] at this;exact this
    obtain⟨b,off,e,c0,c1,c2,c3⟩:=hb.2.2 (j / 4) (by omega);obtain rfl:=Option.some.inj e;have hg:=ZdD m (j / 4) (j % 4) (by omega) (by omega);rw [show j / 4*4+j % 4=j by omega,hj] at hg;rw [Addr.add_lit];(have ai:j % 4=0∨j % 4=1∨j % 4=2∨j % 4=3:=by omega);rcases ai with e4 | e4 | e4 | e4 <;> rw [e4] at hg
    · rw [show off+j=off+j / 4*4 by omega,c0,hg];rfl
    · rw [show off+j=off+j / 4*4+1 by omega,c1,hg];rfl
    · rw [show off+j=off+j / 4*4+2 by omega,c2,hg];rfl
    · rw [show off+j=off+j / 4*4+3 by omega,c3,hg];rfl
   obtain⟨v',w',ae,ho,hg,_⟩:=run_append_own (P:=prog) w base 183 ty 182 i0 (.agg #[.int .i64 0,.int .i64 0,.float .f64 0,.string ⟨#[]⟩]) 4 40 underlying183 hi aj ak al rfl (by decide) v l.length (ZaQ l) aa ad len cap (ZaQ m) (by rw [Zbp,ag]) ac (Zk3 m)
    (by unfold maxLen;omega) (by omega) ab
   refine⟨v',w',ae,?_,(Below.refl base w).grown hg ab af,fun p C t fr hp ht=>hg.block p (Array.getElem?_eq_some_iff.1 hp).1 (aa.ne hp ht).symm⟩;unfold OwnsI;rw [List.length_append,ag,Zgy];exact ho
theorem Zaw (w:World){ops:Array Oper}{rest:List Oper}{o:Oper}{a:Act}{Q:Exit→Act→World→Prop}(ae:o.guard=none)(s x:Operand)
    (ho:o.op=.call { callee:=.builtin .append,args:=#[s,x],argTypes:=#[183,183] })(base:Nat)(v:Value)(l:List It)(hs:a.eval s=v)(ac:OwnsI w base v l)
    (ao:Option Addr)(len cap:Nat)(m:List It)(hx:a.eval x=.slice ao len cap)(hb:Is w ao len m)(hn:ao=none→cap=0)
    (ab:l.length+len≤1000000)(aa:base≤w.heap.size)
    (hK:∀v' w',OwnsI w' base v' (l ++ m)→Below base w w'→Ze9 w w'→wpList prog ops Q rest (a.put o.dst v') w'):wpList prog ops Q (o :: rest) a w:=by
  refine wpList_plain ae fun K hK'=>?_;obtain⟨v',w',ad,r1,r2,r3⟩:=ZaC w o.type base v l ac ao len cap m hb hn ab aa;unfold Oper.wp;simp [execOp,ho,resolve,invoke,builtin,hs,hx,ad,Result.andThen];exact hK' _ _ (hK v' w' r1 r2 r3)
theorem Zdi (w:World)(i:It)(hf:i.fits):Is (w.alloc (.cells #[.int .i64 i.kind,.int .i64 i.n,.float .f64 i.x,.string i.s] 182)) (some ⟨w.heap.size,0,none⟩) 1 [i]:=by
 refine⟨rfl,fun x hx=>by simp at hx;rw [hx];exact hf,fun j hj=>?_⟩;(obtain rfl:j=0:=by omega);refine⟨w.heap.size,0,rfl,?_⟩;simpa using Zew w i 182
def Ks (w:World) (a:Option Addr) (len:Nat) (ks:List Int):Prop:=
  ks.length=len∧∀j,j<len→∃b off,a=some ⟨b,off,none⟩∧w.cell? ⟨b,off+j,none⟩=some (.int .i64 (ks.getD j 0))
theorem Ks.keep {ks:List Int}(h:Ks w a len ks)(hb:Below B w w')(hB:w.heap.size≤B):Ks w' a len ks:=by
 refine⟨h.1,fun i hi=>?_⟩;obtain⟨b,off,ha,hc⟩:=h.2 i hi;exact⟨b,off,ha,(hb.cell (Nat.lt_of_lt_of_le (World.block_lt_of_cell? w _ hc) hB)).trans hc⟩
theorem ZaI {n:Int}(h1:-9223372036854775808≤n)(h2:n≤9223372036854775807):(Lit.int .i64 n).wf=true:=by
 simp [Lit.wf,IntKind.min,IntKind.max,IntKind.signed,IntKind.bits];omega
theorem ZdR (hx:Bytes xs)(hl:xs.length≤1000000)(hk:1≤k∧k≤5){i:It}{n:Nat}(h:tk xs k=some (i,n)):i.fits∧n≤xs.length:=by
 have hb:∀m,Bytes (xs.take m):=fun m x hh=>hx x (List.mem_of_mem_take hh)
 have h8:∀m,m≤8→numB (xs.take m)<18446744073709551616:=by
  intro m hm
  have h2:=ZbY (hb m)
  have h3:(xs.take m).length≤8:=by rw [List.length_take];omega
  have h4:256 ^ (xs.take m).length≤256 ^ 8:=Nat.pow_le_pow_right (by decide) h3
  have:(256:Nat) ^ 8=18446744073709551616:=by decide
  omega
 have aa:(0:Nat)≤maxLen:=Nat.zero_le _
 unfold tk at h
 split at h
 · split at h
   · split at h
     · simp only [Option.some.injEq,Prod.mk.injEq] at h
       obtain⟨rfl,rfl⟩:=h
       exact⟨⟨ZaI (n:=4) (by decide) (by decide),ZaI (n:=0) (by decide) (by decide),h8 8 (by omega),aa⟩,by assumption⟩
     · cases h
   · cases h
 · split at h
   · split at h
     · split at h
       · simp only [Option.some.injEq,Prod.mk.injEq] at h
         obtain⟨rfl,rfl⟩:=h
         refine⟨⟨ZaI (n:=5) (by decide) (by decide),ZaI (n:=0) (by decide) (by decide),(by decide:(0:Nat)<18446744073709551616),?_⟩,by assumption⟩
         have e:(bstr ((xs.drop 1).take (numB (xs.take 1)))).size=((xs.drop 1).take (numB (xs.take 1))).length:=by
          show (bstr _).data.size=_
          rw [← Array.length_toList]
          unfold bstr
          rw [strOfNums_data]
          simp
         show (bstr ((xs.drop 1).take (numB (xs.take 1)))).size≤maxLen
         rw [e]
         have:((xs.drop 1).take (numB (xs.take 1))).length≤xs.length:=by simp;omega
         unfold maxLen
         omega
       · cases h
     · cases h
   · split at h
     · split at h
       · simp only [Option.some.injEq,Prod.mk.injEq] at h
         obtain⟨rfl,rfl⟩:=h
         rename_i hle
         have ab:maxN k≤2147483647:=by
          unfold maxN
          split
          · decide
          · split <;> decide
         exact⟨⟨ZaI (n:=k) (by omega) (by omega),ZaI (n:=(numB (xs.take (cntN k)):Nat)) (by omega) (by omega),(by decide:(0:Nat)<18446744073709551616),aa⟩,by assumption⟩
       · cases h
     · cases h
end Go.Proofs.YtiecfcjlhldhdaaGreat
