/-
  Lemmas.
-/
import Derived.ProofKit
import Derived.Test.YtpnlebpnhmibfaaGreatBa
namespace Go.Proofs.YtpnlebpnhmibfaaGreat
open Go.RowKit
set_option linter.unusedVariables false
set_option maxRecDepth 100000
set_option maxHeartbeats 4000000
variable {w w':World}{xs b ys:List Nat}{v s:Sl}{i x B:Nat}
namespace Ta
theorem xor_left_comm (a b c:Nat):a ^^^ (b ^^^ c)=b ^^^ (a ^^^ c):=by
 rw [← Nat.xor_assoc,Nat.xor_comm a b,Nat.xor_assoc]
theorem xor_lt {a b:Nat}(ha:a<4294967296)(hb:b<4294967296):a ^^^ b<4294967296:=
 Nat.xor_lt_two_pow (n:=32) ha hb
theorem bit_cases (b:Nat)(h:b<2):b=0∨b=1:=by omega
def Z (x:Nat):Nat:=(2*x % 4294967296) ^^^ (x / 2147483648*2168537515)
theorem Z_lt (hx:x<4294967296):Z x<4294967296:=by
 (have:x / 2147483648<2:=by omega);refine xor_lt (Nat.mod_lt _ (by decide)) ?_;rcases bit_cases _ this with h | h <;> rw [h] <;> decide
theorem two_mul_xor (x y:Nat):2*(x ^^^ y)=2*x ^^^ 2*y:=by
 have:=@Nat.shiftLeft_xor_distrib 1 x y;simpa [Nat.shiftLeft_eq,Nat.mul_comm] using this
theorem bits_mul (b c t:Nat)(hb:b<2)(hc:c<2):(b ^^^ c)*t=b*t ^^^ c*t:=by
 rcases bit_cases b hb with rfl | rfl <;> rcases bit_cases c hc with rfl | rfl <;> simp
theorem xor4 (a b c d:Nat):(a ^^^ b) ^^^ (c ^^^ d)=(a ^^^ c) ^^^ (b ^^^ d):=by
 rw [Nat.xor_assoc,Nat.xor_assoc,xor_left_comm b c d]
theorem Z_xor {y:Nat}(hx:x<4294967296)(hy:y<4294967296):Z (x ^^^ y)=Z x ^^^ Z y:=by
 have e1:2*(x ^^^ y) % 4294967296=(2*x % 4294967296) ^^^ (2*y % 4294967296):=by
  rw [two_mul_xor];exact Nat.xor_mod_two_pow (n:=32)
 have e2:(x ^^^ y) / 2147483648=(x / 2147483648) ^^^ (y / 2147483648):=Nat.xor_div_two_pow (n:=31);(have h1:x / 2147483648<2:=by omega);(have h2:y / 2147483648<2:=by omega);unfold Z;rw [e1,e2,bits_mul _ _ _ h1 h2,xor4]
theorem Z_low (hx:x<2147483648):Z x=2*x:=by
 (have e:x / 2147483648=0:=by omega);unfold Z;rw [e,Nat.zero_mul,Nat.xor_zero];omega
def Zn:Nat→Nat→Nat
  | 0,x=>x
  | n+1,x=>Z (Zn n x)
theorem Zn_lt (hx:x<4294967296):∀n,Zn n x<4294967296
 | 0=>hx
 | n+1=>Z_lt (Zn_lt hx n)
theorem Zn_succ (x:Nat):∀n,Zn (n+1) x=Zn n (Z x)
 | 0=>rfl
 | n+1=>by
  show Z (Zn (n+1) x)=Z (Zn n (Z x))
  rw [Zn_succ x n]
def step (r bit:Nat):Nat:=if r / 2147483648≠bit then (r*2 % 4294967296) ^^^ 2168537515 else r*2 % 4294967296
theorem step_eq {r bit:Nat}(hr:r<4294967296)(hb:bit<2):step r bit=Z (r ^^^ bit*2147483648):=by
 (have hr':r / 2147483648<2:=by omega);(have aa:bit*2147483648<4294967296:=by omega);rw [Z_xor hr aa];have hZ:Z (bit*2147483648)=bit*2168537515:=by
  rcases bit_cases bit hb with rfl | rfl <;> decide
 rw [hZ];unfold step Z;rw [Nat.mul_comm r 2,Nat.xor_assoc,← bits_mul _ _ _ hr' hb];rcases bit_cases _ hr' with h | h <;> rcases bit_cases bit hb with rfl | rfl <;> rw [h] <;> simp
theorem step_lt {r bit:Nat}(hr:r<4294967296)(hb:bit<2):step r bit<4294967296:=by
 rw [step_eq hr hb];exact Z_lt (xor_lt hr (by omega))
def mb (s c:Nat):Nat:=Zn 8 (s ^^^ c*16777216)
theorem mb_lt {s c:Nat}(hs:s<4294967296)(hc:c<256):mb s c<4294967296:=Zn_lt (xor_lt hs (by omega)) 8
def feed (m:Nat):Nat→Nat→Nat
  | 0,r=>r
  | n+1,r=>feed m n (step r (m / 2 ^ n % 2))
theorem feed_eq (m:Nat):∀n r,n≤32→r<4294967296→feed m n r=Zn n (r ^^^ m % 2 ^ n*2 ^ (32-n))
 | 0,r,_,_=>by simp [feed,Zn,Nat.mod_one]
 | n+1,r,hn,hr=>by
  have hb:m / 2 ^ n % 2<2:=Nat.mod_lt _ (by decide)
  have af:m / 2 ^ n % 2*2147483648<4294967296:=by omega
  have ad:0<2 ^ n:=Nat.pow_pos (by decide)
  have ac:m % 2 ^ n<2 ^ n:=Nat.mod_lt _ ad
  have ae:2 ^ n*2 ^ (31-n)=2147483648:=by
   rw [← Nat.pow_add,show n+(31-n)=31 by omega]
  have aa:m % 2 ^ n*2 ^ (31-n)<2147483648:=by
   rw [← ae];exact Nat.mul_lt_mul_of_pos_right ac (Nat.pow_pos (by decide))
  show feed m n (step r (m / 2 ^ n % 2))=_;rw [feed_eq m n _ (by omega) (step_lt hr hb),step_eq hr hb,Zn_succ];have e1:m % 2 ^ n*2 ^ (32-n)=Z (m % 2 ^ n*2 ^ (31-n)):=by
   rw [Z_low aa,show 32-n=(31-n)+1 by omega,Nat.pow_succ,Nat.mul_comm 2,Nat.mul_assoc]
  rw [e1,← Z_xor (xor_lt hr af) (by omega),Nat.xor_assoc];congr 3;have e2:m % 2 ^ (n+1)=m % 2 ^ n+2 ^ n*(m / 2 ^ n % 2):=Nat.mod_pow_succ;(have e3:32-(n+1)=31-n:=by omega);rw [e2,e3];rcases bit_cases _ hb with h | h
  · rw [h];simp
  · rw [h,Nat.one_mul,Nat.mul_one,Nat.add_mul,ae];have:=Nat.two_pow_add_eq_or_of_lt (i:=31) (b:=m % 2 ^ n*2 ^ (31-n)) aa 1;have hx:(2147483648:Nat) ^^^ m % 2 ^ n*2 ^ (31-n)=2147483648 ||| m % 2 ^ n*2 ^ (31-n):=by
     apply Nat.eq_of_testBit_eq;intro i;rw [Nat.testBit_xor,Nat.testBit_or];by_cases hi:i=31
     · subst hi;rw [Nat.testBit_lt_two_pow (i:=31) aa];simp
     · have:(2147483648:Nat).testBit i=false:=by
        (have ab:(2147483648:Nat)=2 ^ 31:=by decide);rw [ab,Nat.testBit_two_pow];simp;omega
       rw [this];simp
    rw [hx,Nat.add_comm];(have ab:(2147483648:Nat)=2 ^ 31*1:=by decide);rw [ab];exact this.symm
theorem mb_feed {s c:Nat}(hs:s<4294967296)(hc:c<256):feed c 8 s=mb s c:=by
 rw [feed_eq c 8 s (by decide) hs];unfold mb;congr 3;omega
def more (s:Nat) (xs:List Nat):Nat:=xs.foldl mb s
def Bytes (xs:List Nat):Prop:=∀n∈xs,n<256
theorem more_lt:∀(xs:List Nat){s:Nat},s<4294967296→Bytes xs→more s xs<4294967296
 | [],s,hs,_=>hs
 | x :: xs,s,hs,h=>more_lt xs (mb_lt hs (h x (by simp))) (fun n hn=>h n (by simp [hn]))
def sum (xs:List Nat):Nat:=more 4294967295 xs
theorem sum_lt (h:Bytes xs):sum xs<4294967296:=more_lt xs (by decide) h
theorem more_take_succ (s:Nat)(xs:List Nat)(k:Nat)(hk:k<xs.length):more s (xs.take (k+1))=mb (more s (xs.take k)) (xs.getD k 0):=by
 unfold more;rw [List.take_succ_eq_append_getElem hk,List.foldl_append];simp [List.getD,hk]
def bitAt (xs:List Nat) (q:Nat):Nat:=xs.getD (q / 8) 0 / 2 ^ (7-q % 8) % 2
theorem bitAt_lt (xs:List Nat)(q:Nat):bitAt xs q<2:=Nat.mod_lt _ (by decide)
def reg (f:Nat→Nat):Nat→Nat
  | 0=>4294967295
  | k+1=>step (reg f k) (f k)
theorem reg_lt (f:Nat→Nat)(hf:∀q,f q<2):∀k,reg f k<4294967296
 | 0=>by show 4294967295<4294967296;decide
 | k+1=>step_lt (reg_lt f hf k) (hf k)
theorem reg_byte (xs:List Nat)(j:Nat):reg (bitAt xs) (8*j+8)=feed (xs.getD j 0) 8 (reg (bitAt xs) (8*j)):=by
 have hb:∀i,i<8→bitAt xs (8*j+i)=xs.getD j 0 / 2 ^ (7-i) % 2:=by
  intro i hi;unfold bitAt;rw [show (8*j+i) / 8=j by omega,show (8*j+i) % 8=i by omega]
 have h0:=hb 0 (by decide);have h1:=hb 1 (by decide);have h2:=hb 2 (by decide);have h3:=hb 3 (by decide);have h4:=hb 4 (by decide);have h5:=hb 5 (by decide);have h6:=hb 6 (by decide);have h7:=hb 7 (by decide);simp only [reg,feed,h1,h2,h3,h4,h5,h6,h7];rw [show bitAt xs (8*j)=xs.getD j 0 / 2 ^ 7 % 2 from h0]
theorem getD_lt (h:Bytes xs)(j:Nat):xs.getD j 0<256:=by
 by_cases hj:j<xs.length
 · have:=h _ (List.getElem_mem hj);simpa [List.getD,hj] using this
 · simp [List.getD,Nat.le_of_not_lt hj]
theorem reg_sum (h:Bytes xs):∀j,j≤xs.length→reg (bitAt xs) (8*j)=more 4294967295 (xs.take j)
 | 0,_=>by simp [reg,more]
 | j+1,hj=>by
  rw [show 8*(j+1)=8*j+8 by omega,reg_byte,reg_sum h j (by omega),more_take_succ _ _ _ (by omega),mb_feed]
  · exact more_lt _ (by decide) (fun n hn=>h n (List.mem_of_mem_take hn))
  · exact getD_lt h j
theorem reg_all (h:Bytes xs):reg (bitAt xs) (8*xs.length)=sum xs:=by
 rw [reg_sum h xs.length (Nat.le_refl _),List.take_length];rfl
end Ta
theorem Zl0 (s c:Nat)(hs:s<4294967296)(hc:c<256):bits .xor .u32 (s:Int) ((c:Int)*16777216)=((s ^^^ c*16777216:Nat):Int):=by
 have:=u32_xor_nat s (c*16777216) hs (by omega);rw [← this,Int.natCast_mul];rfl
theorem ZlK (x:Nat)(hx:x<4294967296):bits .xor .u32 ((x:Int)*2 % 4294967296) ((x:Int) / 2147483648*2168537515)=((Ta.Z x:Nat):Int):=by
 have h:=u32_xor_nat (2*x % 4294967296) (x / 2147483648*2168537515) (by omega) (by omega);unfold Ta.Z;rw [← h];congr 1 <;> omega
theorem Zgm (s c:Nat)(hs:s<4294967296)(hc:c<256)(w:World) :
    Calls Tryz.prog 131 #[.int .u32 (s:Nat),.int .u8 (c:Nat)] w fun e w'=>e=.returned (.int .u32 (Ta.mb s c:Nat))∧w'=w:=by
  go_enter Tryz.func131,Tryz.ntmps131;go_wp2;go_loop [0,11] (fun r i=>∃k:Nat,k≤8∧i=.int .i64 k∧r=.int .u32 (Ta.Zn k (s ^^^ c*16777216):Nat)) (fun _ i=>8-(intOf i).toNat)
  case atStart=>exact ⟨0,by omega,rfl,by rw [Zl0 s c hs hc];rfl⟩
  case round =>
   obtain⟨k,hk,rfl,rfl⟩:=hrel;have hx:Ta.Zn k (s ^^^ c*16777216)<4294967296:=Ta.Zn_lt (Ta.xor_lt hs (by omega)) k;go_wp2
   · (have ab:k<8:=by omega);go_round
     case rel=>exact ⟨k+1,by omega,by go_num,by rw [ZlK _ hx];rfl⟩
     case measure=>simp only [intOf];omega
   · (have aa:k=8:=by omega);subst aa;go_ret;exact⟨rfl,rfl⟩
theorem ZlF (s:Nat)(hs:s<4294967296)(a:Option Addr)(len cap:Nat)(xs:List Nat)(w:World)(h:Bs w a len xs)(hm:len≤9223372036854775807) :
    Calls Tryz.prog 120 #[.int .u32 (s:Nat),.slice a len cap] w fun e w'=>e=.returned (.int .u32 (Ta.more s xs:Nat))∧w'=w:=by
  have hB:=h.2.1;have ac:=h.1;rcases h.part with ⟨rfl,rfl⟩ | ⟨b,off,hp,rfl,aa⟩
  · go_enter Tryz.func120,Tryz.ntmps120;go_wp2;refine wp_loop_rounds 1 ?_;rw [rounds_succ];go_wp2;go_ret;exact⟨rfl,rfl⟩
  · clear h;have HM:Hid (∀k,Ta.more s (xs.take k)<4294967296):=fun k=>Ta.more_lt _ hs (fun n hn=>hB n (List.mem_of_mem_take hn));have HC:Hid (∀k,xs.getD k 0<256):=fun k=>Ta.getD_lt hB k;have HL:Hid (xs.length=len):=ac;have ab:Hid (∀i,i<len→w.cell? ⟨b,off+i,none⟩=some (.int .u8 (xs.getD i 0:Nat))):=aa;clear hB ac aa hs;go_enter Tryz.func120,Tryz.ntmps120;go_wp2;go_loop [0,9] (fun r i=>∃k:Nat,k≤len∧i=.int .i64 k∧r=.int .u32 (Ta.more s (xs.take k):Nat)) (fun _ i=>len-(intOf i).toNat)
    case atStart=>exact ⟨0,by omega,rfl,rfl⟩
    case round =>
     obtain⟨k,hk,rfl,rfl⟩:=hrel;obtain⟨c,hc⟩:∃c,c=xs.getD k 0:=⟨_,rfl⟩;obtain⟨r,hr⟩:∃r,r=Ta.more s (xs.take k):=⟨_,rfl⟩;(have ag:k<len→w.cell? ⟨b,off+k,none⟩=some (.int .u8 (c:Nat)):=fun hk=>by rw [hc];exact ab.out k hk);have ad:Hid (∀w,Calls Tryz.prog 131 #[.int .u32 (r:Nat),.int .u8 (c:Nat)] w fun e w'=>e=.returned (.int .u32 (Ta.mb r c:Nat))∧w'=w):=
      fun w=>Zgm r c (by rw [hr];exact HM.out k) (by rw [hc];exact HC.out k) w
     rw [← hr];have HR:Hid (r=Ta.more s (xs.take k)):=hr;have HX:Hid (c=xs.getD k 0):=hc;clear hr hc;go_wp2_with (go_at_call 131;refine (ad.out _).mono ?_;rintro e w' ⟨rfl,rfl⟩)
     · (have af:k<len:=by omega);go_round
       case rel=>exact ⟨k+1,by omega,by go_num,by rw [Ta.more_take_succ s xs k (by rw [HL.out];exact af),← HR.out,← HX.out]⟩
       case measure=>simp only [intOf];omega
     · (have ae:k=len:=by omega);go_ret;refine⟨?_,rfl⟩;rw [HR.out,ae,← HL.out,List.take_length];rfl
theorem Ze8 (a:Option Addr)(len cap:Nat)(xs:List Nat)(w:World)(h:Bs w a len xs)(hm:len≤9223372036854775807) :
    Calls Tryz.prog 109 #[.slice a len cap] w fun e w'=>e=.returned (.int .u32 (Ta.sum xs:Nat))∧w'=w:=by
  have H:Hid (∀w,Bs w a len xs→Calls Tryz.prog 120 #[.int .u32 (4294967295:Nat),.slice a len cap] w fun e w'=>e=.returned (.int .u32 (Ta.more 4294967295 xs:Nat))∧w'=w):=
   fun w h=>ZlF 4294967295 (by decide) a len cap xs w h hm
  have HB:Hid (Bs w a len xs):=h;clear h;go_enter Tryz.func109,Tryz.ntmps109;go_wp2_with fail;refine(H.out _ HB.out).mono ?_;rintro e w' ⟨rfl,rfl⟩;go_wp2_with fail;go_ret;exact⟨rfl,rfl⟩
theorem ZhR (r c j:Nat):((r:Int) / 2147483648 != ((c:Int) / 2 ^ j).tmod 2)=decide (r / 2147483648≠c / 2 ^ j % 2):=by
 have e1:((c:Int) / 2 ^ j).tmod 2=((c / 2 ^ j % 2:Nat):Int):=by
  (have:((c:Int) / 2 ^ j)=((c / 2 ^ j:Nat):Int):=by simp);rw [this];rfl
 have e2:(r:Int) / 2147483648=((r / 2147483648:Nat):Int):=rfl;rw [e1,e2];generalize r / 2147483648=A;generalize c / 2 ^ j % 2=B;by_cases h:A=B
 · rw [h];simp
 · have h':((A:Int) == (B:Int))=false:=beq_eq_false_iff_ne.2 (fun e=>h (Int.ofNat_inj.1 e));rw [bne,h',decide_eq_true h];rfl
theorem Znw (r c j:Nat)(h:((r:Int) / 2147483648 != ((c:Int) / 2 ^ j).tmod 2)=true):bits .xor .u64 ((r:Int)*2 % 4294967296) 2168537515=((Ta.step r (c / 2 ^ j % 2):Nat):Int):=by
 rw [ZhR] at h;have:=u64_xor_nat (r*2 % 4294967296) 2168537515 (by omega) (by decide);unfold Ta.step;rw [if_pos (of_decide_eq_true h),← this];rfl
theorem Zox (r c j:Nat)(h:((r:Int) / 2147483648 != ((c:Int) / 2 ^ j).tmod 2)=false):((r:Int)*2 % 4294967296)=((Ta.step r (c / 2 ^ j % 2):Nat):Int):=by
 rw [ZhR] at h;unfold Ta.step;rw [if_neg (of_decide_eq_false h)];rfl
theorem ZhU (a:Option Addr)(len cap:Nat)(xs:List Nat)(w:World)(h:Bs w a len xs)(hm:len≤1000000) :
    Calls Tryz.prog 108 #[.slice a len cap] w fun e w'=>e=.returned (.int .u32 (Ta.sum xs:Nat))∧w'=w:=by
  have hB:=h.2.1;have ac:=h.1;rcases h.part with ⟨rfl,rfl⟩ | ⟨b,off,hp,rfl,aa⟩
  · go_enter Tryz.func108,Tryz.ntmps108;go_wp2;refine wp_loop_rounds 1 ?_;rw [rounds_succ];go_wp2;go_ret;exact⟨rfl,rfl⟩
  · clear h;have HM:Hid (∀k,Ta.reg (Ta.bitAt xs) k<4294967296):=Ta.reg_lt _ (Ta.bitAt_lt xs);have HC:Hid (∀k,xs.getD k 0<256):=fun k=>Ta.getD_lt hB k;(have HE:Hid (Ta.reg (Ta.bitAt xs) (8*len)=Ta.sum xs):=by rw [← ac];exact Ta.reg_all hB);have ab:Hid (∀i,i<len→w.cell? ⟨b,off+i,none⟩=some (.int .u8 (xs.getD i 0:Nat))):=aa;clear hB ac aa;go_enter Tryz.func108,Tryz.ntmps108;go_wp2;go_loop [3,4] (fun r i=>∃k:Nat,k≤8*len∧i=.int .i64 k∧r=.int .u64 (Ta.reg (Ta.bitAt xs) k:Nat)) (fun _ i=>8*len-(intOf i).toNat)
    case atStart=>exact ⟨0,by omega,rfl,rfl⟩
    case round =>
     obtain⟨k,hk,rfl,rfl⟩:=hrel;obtain⟨c,hc⟩:∃c,c=xs.getD (k / 8) 0:=⟨_,rfl⟩;obtain⟨r,hr⟩:∃r,r=Ta.reg (Ta.bitAt xs) k:=⟨_,rfl⟩;(have af:r<4294967296:=by rw [hr];exact HM.out k);(have ad:c<256:=by rw [hc];exact HC.out _);rcases Nat.lt_or_ge k (8*len) with ai | ah
     · (have ag:w.cell? ⟨b,off+k / 8,none⟩=some (.int .u8 (c:Nat)):=by rw [hc];exact ab.out _ (by omega));(have hi:(k:Int)<8*(len:Int):=by omega);rw [← hr];have HR:Hid (r=Ta.reg (Ta.bitAt xs) k):=hr;have HX:Hid (c=xs.getD (k / 8) 0):=hc;clear hr hc;go_wp2
       · (have hd:((r:Int) / 2147483648 != ((c:Int) / 2 ^ (7-k % 8)).tmod 2)=true:=by assumption);go_round
         case rel=>exact ⟨k+1,by omega,by go_num,by rw [Znw r c _ hd,HR.out,HX.out];rfl⟩
         case measure=>simp only [intOf];omega
       · (have hd:((r:Int) / 2147483648 != ((c:Int) / 2 ^ (7-k % 8)).tmod 2)=false:=by assumption);go_round
         case rel=>exact ⟨k+1,by omega,by go_num,by rw [Zox r c _ hd,HR.out,HX.out];rfl⟩
         case measure=>simp only [intOf];omega
     · (have hi:¬(k:Int)<8*(len:Int):=by omega);(have ae:k=8*len:=by omega);subst ae;(have aj:Ta.sum xs<4294967296:=by rw [← HE.out];exact HM.out _);rw [HE.out];clear hr hc af ad;go_wp2;go_ret;exact⟨rfl,rfl⟩
def fourB (n:Nat):List Nat:=[n / 16777216,n / 65536 % 256,n / 256 % 256,n % 256]
theorem ZbR {n:Nat}(hn:n<4294967296):Ta.Bytes (fourB n):=by
 intro x hx;simp [fourB] at hx;omega
theorem Zf1 (n:Nat)(hn:n<4294967296)(w:World) :
    Calls Tryz.prog 107 #[.int .u32 (n:Nat)] w fun e w'=>e=.returned (.slice (some ⟨w.heap.size,0,none⟩) 4 4)∧w'=w.alloc (.cells (vals (fourB n)).toArray 5):=by
  go_enter Tryz.func107,Tryz.ntmps107;go_wp2;go_ret;exact⟨rfl,rfl⟩
theorem Zk1 (a:Option Addr)(len cap:Nat)(xs:List Nat)(w:World)(h:Bs w a len xs)(hn:a=none→cap=0)(hm:len≤100000) :
    Calls Tryz.prog 82 #[.slice a len cap] w fun e w'=>∃v,e=.returned v∧Owns w' w.heap.size v (fourB (Ta.sum xs) ++ xs)∧Below w.heap.size w w':=by
  obtain⟨s,hs⟩:∃s,s=Ta.sum xs:=⟨_,rfl⟩;(have ab:s<4294967296:=by rw [hs];exact Ta.sum_lt h.2.1);have aa:=ZhU a len cap xs w h (by omega);rw [← hs] at aa ⊢;have aa:=hide aa;have ac:=hide (Zf1 s ab w);have HO:Hid (Owns (w.alloc (.cells (vals (fourB s)).toArray 5)) w.heap.size (.slice (some ⟨w.heap.size,0,none⟩) 4 4) (fourB s)):=Owns.lit w w.heap.size (fourB s) (Nat.le_refl _) (by simp [fourB]);have HB:Hid (Bs (w.alloc (.cells (vals (fourB s)).toArray 5)) a len xs):=h.keep (Zaa w _) (Nat.le_refl _);have HN:Hid (a=none→cap=0):=hn;(have HL:Hid ((fourB s).length+len≤1000000):=by show 4+len≤1000000;omega);have HS:Hid (w.heap.size≤(w.alloc (.cells (vals (fourB s)).toArray 5)).heap.size):=(Zaa w _).size;have HW:Hid (Below w.heap.size w (w.alloc (.cells (vals (fourB s)).toArray 5))):=Zaa w _;clear hs ab h hn hm;go_enter Tryz.func82,Tryz.ntmps82;go_wp2_with fail;refine aa.out.mono ?_;rintro e w' ⟨rfl,hw⟩;obtain rfl:=hw.symm;go_wp2_with fail;refine ac.out.mono ?_;rintro e w' ⟨rfl,rfl⟩;go_wp2_with (at_builtin;refine Za8 _ rfl _ _ rfl w.heap.size _ (fourB s) rfl HO.out a len cap xs rfl HB.out HN.out HL.out HS.out ?_);intro v' w' ho hb;go_wp2;go_ret;exact⟨_,rfl,ho,HW.out.trans hb⟩
theorem ZlY (a:Option Addr)(len cap:Nat)(xs:List Nat)(w:World)(h:Bs w a len xs)(hn:a=none→cap=0)(hm:len≤100000) :
    Calls Tryz.prog 85 #[.slice a len cap] w fun e w'=>∃v,e=.returned v∧Owns w' w.heap.size v (fourB (Ta.sum xs) ++ xs)∧Below w.heap.size w w':=by
  obtain⟨s,hs⟩:∃s,s=Ta.sum xs:=⟨_,rfl⟩;(have am:s<4294967296:=by rw [hs];exact Ta.sum_lt h.2.1);have ac:=Ze8 a len cap xs w h (by omega);rw [← hs] at ac ⊢;have ac:=hide ac;have HN:Hid (a=none→cap=0):=hn;have HX:Hid (Bs w a len xs):=h;clear hs h hn;obtain⟨i0,hi,an,ao,ap⟩:=info_parts ZgS;go_enter Tryz.func85,Tryz.ntmps85;go_wp2_with fail;refine ac.out.mono ?_;rintro e w' ⟨rfl,hw⟩;obtain rfl:=hw.symm;go_wp2_with (at_make;refine wpList_make_own _ rfl _ _ 32 rfl w.heap.size 5 i0 (.int .u8 0) 1 Tryz.underlying32 hi an ao _ _ _ (4+len) rfl rfl (by omega) ?b2 ?b3 (Nat.le_refl _) ?_)
  case b2=>rw [ap];omega
  case b3=>unfold maxLen;omega
  intro w0 ab aa;have HW:Hid (Below w.heap.size w w0):=(Below.refl w.heap.size w).grown aa (Nat.le_refl _) (fun k hk=>by cases hk);have HO:Hid (Owns w0 w.heap.size (.slice (some ⟨w.heap.size,0,none⟩) 0 (4+len)) []):=ab;clear ab aa;have ag:Hid (Bs (w0.alloc (.cells (vals (fourB s)).toArray 5)) (some ⟨w0.heap.size,0,none⟩) 4 (fourB s)):=ZbO w0 (fourB s) (0,0) (ZbR am);have ah:Hid (Owns (w0.alloc (.cells (vals (fourB s)).toArray 5)) w.heap.size (.slice (some ⟨w.heap.size,0,none⟩) 0 (4+len)) []):=HO.out.keep (Zaa w0 _) (Nat.le_refl _);have HS:Hid (w.heap.size≤(w0.alloc (.cells (vals (fourB s)).toArray 5)).heap.size):=Nat.le_trans HW.out.size (Zaa w0 _).size;have aj:Hid (Below w.heap.size w (w0.alloc (.cells (vals (fourB s)).toArray 5))):=HW.out.trans ((Zaa w0 _).mono HW.out.size);go_wp2_with (at_builtin;refine Za8 _ rfl (.tmp 11) (.tmp 23) rfl w.heap.size _ [] rfl ah.out (some ⟨w0.heap.size,0,none⟩) 4 4 (fourB s) rfl ag.out (fun e=>by cases e) (by simp) HS.out ?_);intro v1 w1 af ae;have ad:Hid (Below w.heap.size w w1):=aj.out.trans ae;have ai:Hid (Owns w1 w.heap.size v1 (fourB s)):=af;have HB:Hid (Bs w1 a len xs):=HX.out.keep ad.out (Nat.le_refl _);(have HL:Hid ((fourB s).length+len≤1000000):=by show 4+len≤1000000;omega);clear af ae;go_wp2_with (at_builtin;refine Za8 _ rfl (.tmp 25) (.tmp 26) rfl w.heap.size _ (fourB s) rfl ai.out a len cap xs rfl HB.out HN.out HL.out ad.out.size ?_);intro v2 w2 al ak;go_wp2;go_ret;exact⟨_,rfl,al,ad.out.trans ak⟩
theorem Zi7 (a:Option Addr)(len cap:Nat)(w:World)(hm:len<4) :
    Calls Tryz.prog 105 #[.slice a len cap] w fun e w'=>e=.returned (.tuple #[.slice none 0 0,.int .i64 4])∧w'=w:=by
  (have hi:(len:Int)<4:=by omega);go_enter Tryz.func105,Tryz.ntmps105;go_wp2;go_ret2;exact⟨rfl,rfl⟩
def num4 (x0 x1 x2 x3:Nat):Nat:=x0*16777216+x1*65536+x2*256+x3
theorem Zgp (x0 x1 x2 x3:Nat)(b0:x0<256)(b1:x1<256)(b2:x2<256)(b3:x3<256) :
    bits .or .u32 (bits .or .u32 (bits .or .u32 ((x0:Int)*16777216) ((x1:Int)*65536)) ((x2:Int)*256)) (x3:Int)=((num4 x0 x1 x2 x3:Nat):Int):=by
  have e1:bits .or .u32 ((x0:Int)*16777216) ((x1:Int)*65536)=((x0*16777216+x1*65536:Nat):Int):=by
   have:=u32_or_nat (x0*16777216) (x1*65536) (by omega) (by omega);rw [nat_join 24 (x0*16777216) (x1*65536) (by omega) (by omega)] at this;rw [← this,Int.natCast_mul,Int.natCast_mul];rfl
  have e2:bits .or .u32 ((x0*16777216+x1*65536:Nat):Int) ((x2:Int)*256)=((x0*16777216+x1*65536+x2*256:Nat):Int):=by
   have:=u32_or_nat (x0*16777216+x1*65536) (x2*256) (by omega) (by omega);rw [nat_join 16 (x0*16777216+x1*65536) (x2*256) (by omega) (by omega)] at this;rw [← this,Int.natCast_mul];rfl
  have e3:bits .or .u32 ((x0*16777216+x1*65536+x2*256:Nat):Int) (x3:Int)=((num4 x0 x1 x2 x3:Nat):Int):=by
   have:=u32_or_nat (x0*16777216+x1*65536+x2*256) x3 (by omega) (by omega);rw [nat_join 8 (x0*16777216+x1*65536+x2*256) x3 (by omega) (by omega)] at this;rw [this];rfl
  rw [e1,e2,e3]
theorem Bs.tail {b off n : Nat} {x0 x1 x2 x3 : Nat} (h : Bs w (some ⟨b, off, none⟩) (4 + n) (x0 :: x1 :: x2 :: x3 :: ys)) : Bs w (some ⟨b, off + 4, none⟩) n ys := by
 refine ⟨by have := h.1; simp at this; omega, fun x hx => h.2.1 x (by simp [hx]), fun i hi => ⟨b, off + 4, rfl, ?_⟩⟩
 obtain ⟨_, _, e, hcell⟩ := h.2.2 (4 + i) (by omega)
 simp at e
 obtain ⟨rfl, rfl⟩ := e
 rw [Nat.add_assoc, hcell, Nat.add_comm 4 i]
 rfl
theorem ZlL (b off n cap : Nat) (x0 x1 x2 x3 : Nat) (ys : List Nat) (w : World) (h : Bs w (some ⟨b, off, none⟩) (4 + n) (x0 :: x1 :: x2 :: x3 :: ys)) (hc : 4 + n ≤ cap) (hm : n ≤ 100000) (hd : num4 x0 x1 x2 x3 ≠ Ta.sum ys) :
    Calls Tryz.prog 105 #[.slice (some ⟨b, off, none⟩) (4 + n) cap] w fun e w' => e = .returned (.tuple #[.slice none 0 0, .int .i64 5]) ∧ Below w.heap.size w w' := by
  have hy : ys.length = n := by have := h.1; simp at this; omega
  have b0 : x0 < 256 := h.2.1 x0 (by simp)
  have b1 : x1 < 256 := h.2.1 x1 (by simp)
  have b2 : x2 < 256 := h.2.1 x2 (by simp)
  have b3 : x3 < 256 := h.2.1 x3 (by simp)
  have c0 : w.cell? ⟨b, off, none⟩ = some (.int .u8 (x0 : Nat)) := h.at 0 (by omega)
  have c1 : w.cell? ⟨b, off + 1, none⟩ = some (.int .u8 (x1 : Nat)) := h.at 1 (by omega)
  have c2 : w.cell? ⟨b, off + 2, none⟩ = some (.int .u8 (x2 : Nat)) := h.at 2 (by omega)
  have c3 : w.cell? ⟨b, off + 3, none⟩ = some (.int .u8 (x3 : Nat)) := h.at 3 (by omega)
  have ht := h.tail
  obtain ⟨s, hs⟩ : ∃ s, s = Ta.sum ys := ⟨_, rfl⟩
  rw [← hs] at hd
  have hd : (bits .or .u32 (bits .or .u32 (bits .or .u32 ((x0 : Int) * 16777216) ((x1 : Int) * 65536)) ((x2 : Int) * 256)) (x3 : Int) != (s : Int)) = true := by
   rw [Zgp x0 x1 x2 x3 b0 b1 b2 b3]
   simpa using fun e => hd (Int.ofNat_inj.1 e)
  have H1 : Hid (∀ q cp, Calls Tryz.prog 109 #[.slice (some ⟨b, off + 4, none⟩) n cp] (w.drewN q) fun e w' => e = .returned (.int .u32 (s : Nat)) ∧ w' = w.drewN q) := by
   intro q cp
   rw [hs]
   exact Ze8 _ n cp ys _ (ht.keep (Zbi _ w q) (Nat.le_refl _)) (by omega)
  have H2 : Hid (∀ q cp, n = 0 → Calls Tryz.prog 109 #[.slice (some ⟨b, off, none⟩) n cp] (w.drewN q) fun e w' => e = .returned (.int .u32 (s : Nat)) ∧ w' = w.drewN q) := by
   intro q cp h0
   subst h0
   have hy0 : ys = [] := List.eq_nil_of_length_eq_zero hy
   subst hy0
   rw [hs]
   exact Ze8 _ 0 cp [] _ (ht.any.keep (Zbi _ w q) (Nat.le_refl _)) (by omega)
  obtain ⟨len, hlen⟩ : ∃ len, len = 4 + n := ⟨_, rfl⟩
  have hn4 : len - 4 = n := by omega
  rw [← hn4] at H1 H2
  have i0 : ¬ (len : Int) < 4 := by omega
  have i1 : (0 : Int) < (len : Int) := by omega
  have i2 : (1 : Int) < (len : Int) := by omega
  have i3 : (2 : Int) < (len : Int) := by omega
  have i4 : (3 : Int) < (len : Int) := by omega
  rw [← hlen] at hc ⊢
  have l1 : 4 ≤ len := by omega
  have l2 : len ≤ 100004 := by omega
  have HL := hide hlen
  have HT := hide ht
  have HY := hide hy
  clear ht hs h hm hlen hn4 hy
  go_enter Tryz.func105, Tryz.ntmps105
  go_wp2_with fail
  go_quiet (fail)
  go_wp2_with fail
  · refine (H2.out nq _ (by omega)).mono ?_
    rintro e w' ⟨rfl, hw⟩
    obtain rfl := hw.symm
    go_wp2_with fail
    go_ret2
    exact ⟨rfl, Zbi _ _ _⟩
  · refine (H1.out nq _).mono ?_
    rintro e w' ⟨rfl, hw⟩
    obtain rfl := hw.symm
    go_wp2_with fail
    go_ret2
    exact ⟨rfl, Zbi _ _ _⟩
theorem Zkh (b off n cap : Nat) (x0 x1 x2 x3 : Nat) (ys : List Nat) (w : World) (h : Bs w (some ⟨b, off, none⟩) (4 + n) (x0 :: x1 :: x2 :: x3 :: ys)) (hc : 4 + n ≤ cap) (hm : n ≤ 100000) (hd : num4 x0 x1 x2 x3 = Ta.sum ys) :
    Calls Tryz.prog 105 #[.slice (some ⟨b, off, none⟩) (4 + n) cap] w fun e w' => ∃ v, e = .returned (.tuple #[v, .int .i64 0]) ∧ Owns w' w.heap.size v ys ∧ Below w.heap.size w w' := by
  have hy : ys.length = n := by have := h.1; simp at this; omega
  have b0 : x0 < 256 := h.2.1 x0 (by simp)
  have b1 : x1 < 256 := h.2.1 x1 (by simp)
  have b2 : x2 < 256 := h.2.1 x2 (by simp)
  have b3 : x3 < 256 := h.2.1 x3 (by simp)
  have c0 : w.cell? ⟨b, off, none⟩ = some (.int .u8 (x0 : Nat)) := h.at 0 (by omega)
  have c1 : w.cell? ⟨b, off + 1, none⟩ = some (.int .u8 (x1 : Nat)) := h.at 1 (by omega)
  have c2 : w.cell? ⟨b, off + 2, none⟩ = some (.int .u8 (x2 : Nat)) := h.at 2 (by omega)
  have c3 : w.cell? ⟨b, off + 3, none⟩ = some (.int .u8 (x3 : Nat)) := h.at 3 (by omega)
  have ht := h.tail
  obtain ⟨s, hs⟩ : ∃ s, s = Ta.sum ys := ⟨_, rfl⟩
  rw [← hs] at hd
  have hd : (bits .or .u32 (bits .or .u32 (bits .or .u32 ((x0 : Int) * 16777216) ((x1 : Int) * 65536)) ((x2 : Int) * 256)) (x3 : Int) != (s : Int)) = false := by
   rw [Zgp x0 x1 x2 x3 b0 b1 b2 b3]
   rw [hd]
   simp
  have H1 : Hid (∀ q cp, Calls Tryz.prog 109 #[.slice (some ⟨b, off + 4, none⟩) n cp] (w.drewN q) fun e w' => e = .returned (.int .u32 (s : Nat)) ∧ w' = w.drewN q) := by
   intro q cp
   rw [hs]
   exact Ze8 _ n cp ys _ (ht.keep (Zbi _ w q) (Nat.le_refl _)) (by omega)
  have H2 : Hid (∀ q cp, n = 0 → Calls Tryz.prog 109 #[.slice (some ⟨b, off, none⟩) n cp] (w.drewN q) fun e w' => e = .returned (.int .u32 (s : Nat)) ∧ w' = w.drewN q) := by
   intro q cp h0
   subst h0
   have hy0 : ys = [] := List.eq_nil_of_length_eq_zero hy
   subst hy0
   rw [hs]
   exact Ze8 _ 0 cp [] _ (ht.any.keep (Zbi _ w q) (Nat.le_refl _)) (by omega)
  have HW : Hid (∀ q, Below w.heap.size w ((w.drewN q).alloc (.cells #[] 5))) := fun q => (Zbi _ w q).trans (Zaa (w.drewN q) _)
  have HO : Hid (∀ q, Owns ((w.drewN q).alloc (.cells #[] 5)) w.heap.size (.slice (some ⟨w.heap.size, 0, none⟩) 0 0) []) := fun q => Owns.lit (w.drewN q) w.heap.size [] (Nat.le_refl _) (by simp)
  have HB1 : Hid (∀ q, Bs ((w.drewN q).alloc (.cells #[] 5)) (some ⟨b, off + 4, none⟩) n ys) := fun q => ht.keep (HW.out q) (Nat.le_refl _)
  have HB2 : Hid (n = 0 → ∀ q, Bs ((w.drewN q).alloc (.cells #[] 5)) (some ⟨b, off, none⟩) n ys) := by
   intro h0 q
   subst h0
   have hy0 : ys = [] := List.eq_nil_of_length_eq_zero hy
   subst hy0
   exact ht.any.keep (HW.out q) (Nat.le_refl _)
  obtain ⟨len, hlen⟩ : ∃ len, len = 4 + n := ⟨_, rfl⟩
  have hn4 : len - 4 = n := by omega
  rw [← hn4] at H1 H2 HB1 HB2
  have i0 : ¬ (len : Int) < 4 := by omega
  have i1 : (0 : Int) < (len : Int) := by omega
  have i2 : (1 : Int) < (len : Int) := by omega
  have i3 : (2 : Int) < (len : Int) := by omega
  have i4 : (3 : Int) < (len : Int) := by omega
  rw [← hlen] at hc ⊢
  have l1 : 4 ≤ len := by omega
  have l2 : len ≤ 100004 := by omega
  have HL := hide hlen
  have HT := hide ht
  have HY := hide hy
  clear ht hs h hm hlen hn4 hy
  go_enter Tryz.func105, Tryz.ntmps105
  go_wp2_with fail
  go_quiet (fail)
  go_wp2_with fail
  · refine (H2.out nq _ (by omega)).mono ?_
    rintro e w' ⟨rfl, hw⟩
    obtain rfl := hw.symm
    go_wp2_with (at_builtin; refine Za8 _ rfl (.tmp 37) (.tmp 38) rfl _ _ [] rfl (HO.out nq) _ _ _ ys rfl (HB2.out (by omega) nq) (fun e => by cases e) (by show 0 + (len - 4) ≤ 1000000; omega) (HW.out nq).size ?_)
    intro v' w' ho hb
    go_wp2
    go_ret2
    exact ⟨_, rfl, ho, (HW.out nq).trans hb⟩
  · refine (H1.out nq _).mono ?_
    rintro e w' ⟨rfl, hw⟩
    obtain rfl := hw.symm
    go_wp2_with (at_builtin; refine Za8 _ rfl (.tmp 37) (.tmp 38) rfl _ _ [] rfl (HO.out nq) _ _ _ ys rfl (HB1.out nq) (fun e => by cases e) (by show 0 + (len - 4) ≤ 1000000; omega) (HW.out nq).size ?_)
    intro v' w' ho hb
    go_wp2
    go_ret2
    exact ⟨_, rfl, ho, (HW.out nq).trans hb⟩
def ZbZ (xs:List Nat):Prop:=fourB (Ta.sum (xs.drop 4)) ++ xs.drop 4=xs
theorem Zol {len:Nat}(hl:xs.length=len)(h4:4≤len):∃x0 x1 x2 x3 ys,xs=x0 :: x1 :: x2 :: x3 :: ys∧xs.drop 4=ys∧ys.length=len-4:=by
 match xs,hl with
 | x0 :: x1 :: x2 :: x3 :: ys,hl=>exact ⟨x0,x1,x2,x3,ys,rfl,rfl,by simp at hl;omega⟩
 | [],hl=>simp at hl;omega
 | [_],hl=>simp at hl;omega
 | [_,_],hl=>simp at hl;omega
 | [_,_,_],hl=>simp at hl;omega
set_option linter.unusedVariables false in
theorem Zeo {x0 x1 x2 x3:Nat}(b0:x0<256)(b1:x1<256)(b2:x2<256)(b3:x3<256)(hs:Ta.sum ys<4294967296) :
    num4 x0 x1 x2 x3=Ta.sum ys↔ZbZ (x0 :: x1 :: x2 :: x3 :: ys):=by
  unfold ZbZ;show _↔fourB (Ta.sum ys) ++ ys=x0 :: x1 :: x2 :: x3 :: ys;generalize Ta.sum ys=s at hs;simp only [fourB,List.cons_append,List.nil_append,List.cons.injEq,and_true,num4];omega
theorem Znq (b off len cap : Nat) (xs : List Nat) (w : World) (h : Bs w (some ⟨b, off, none⟩) len xs) (h4 : 4 ≤ len) (hc : len ≤ cap) (hm : len ≤ 100000) (hd : ¬ ZbZ xs) :
    Calls Tryz.prog 105 #[.slice (some ⟨b, off, none⟩) len cap] w fun e w' => e = .returned (.tuple #[.slice none 0 0, .int .i64 5]) ∧ Below w.heap.size w w' := by
  have hB := h.2.1
  obtain ⟨x0, x1, x2, x3, ys, rfl, _, _⟩ := Zol h.1 h4
  obtain ⟨n, rfl⟩ : ∃ n, len = 4 + n := ⟨len - 4, by omega⟩
  refine ZlL b off n cap x0 x1 x2 x3 ys w h hc (by omega) (fun e => hd ?_)
  exact (Zeo (hB _ (by simp)) (hB _ (by simp)) (hB _ (by simp)) (hB _ (by simp)) (Ta.sum_lt (fun x hx => hB x (by simp [hx])))).1 e
theorem ZlO (b off len cap : Nat) (xs : List Nat) (w : World) (h : Bs w (some ⟨b, off, none⟩) len xs) (h4 : 4 ≤ len) (hc : len ≤ cap) (hm : len ≤ 100000) (hd : ZbZ xs) :
    Calls Tryz.prog 105 #[.slice (some ⟨b, off, none⟩) len cap] w fun e w' => ∃ v, e = .returned (.tuple #[v, .int .i64 0]) ∧ Owns w' w.heap.size v (xs.drop 4) ∧ Below w.heap.size w w' := by
  have hB := h.2.1
  obtain ⟨x0, x1, x2, x3, ys, rfl, _, _⟩ := Zol h.1 h4
  obtain ⟨n, rfl⟩ : ∃ n, len = 4 + n := ⟨len - 4, by omega⟩
  refine Zkh b off n cap x0 x1 x2 x3 ys w h hc (by omega) ?_
  exact (Zeo (hB _ (by simp)) (hB _ (by simp)) (hB _ (by simp)) (hB _ (by simp)) (Ta.sum_lt (fun x hx => hB x (by simp [hx])))).2 hd
theorem Zg1 (h:Ta.Bytes ys):Ta.Bytes (fourB (Ta.sum ys) ++ ys):=by
 intro x hx;rcases List.mem_append.1 hx with k | k
 · exact ZbR (Ta.sum_lt h) x k
 · exact h x k
namespace Ta
end Ta
structure Im where
  page:Int
  bs:List Nat
def Im.zero:Im:=⟨0,[]⟩
def prevP (g:List Im) (i:Nat):Int:=if i=0 then -1 else (g.getD (i-1) Im.zero).page
def okAt (g:List Im) (i:Nat):Prop:=
  0≤(g.getD i Im.zero).page∧prevP g i<(g.getD i Im.zero).page∧(g.getD i Im.zero).page≤63∧(g.getD i Im.zero).bs.length=512
def May (g:List Im):Prop:=1≤g.length∧g.length≤6∧∀i,i<g.length→okAt g i
theorem May.mem {g:List Im}(h:May g){m:Im}(hm:m∈g):0≤m.page∧m.page≤63∧m.bs.length=512:=by
 obtain⟨i,hi,rfl⟩:=List.mem_iff_getElem.1 hm;have:=h.2.2 i hi;unfold okAt at this;(have e:g.getD i Im.zero=g[i]:=by simp [List.getD,hi]);rw [e] at this;exact⟨this.1,this.2.2.1,this.2.2.2⟩
theorem Zns {g:List Im}(h:∀j,j<i→okAt g j):-1≤prevP g i:=by
 unfold prevP;split
 · exact Int.le_refl _
 · have:=(h (i-1) (by omega)).1;omega
def ImB (g:List Im):Prop:=∀m∈g,Bytes m.bs
def imB (m:Im):List Nat:=m.page.toNat :: m.bs
def body (g:List Im):List Nat:=g.flatMap imB
def text (g:List Im):List Nat:=g.length :: body g
def seald (x:List Nat):List Nat:=fourB (Ta.sum x) ++ x
def recd (g:List Im):List Nat:=(seald (text g)).length / 256 :: (seald (text g)).length % 256 :: seald (text g)
theorem ZbB (x:List Nat):(seald x).length=4+x.length:=by
 unfold seald;rw [List.length_append];rfl
theorem ZdV (g h:List Im):body (g ++ h)=body g ++ body h:=by simp [body]
theorem Zhy (m:Im):body [m]=m.page.toNat :: m.bs:=by simp [body,imB]
theorem Zco:∀(g:List Im),(∀m∈g,m.bs.length=512)→(body g).length=513*g.length
 | [],_=>rfl
 | m :: r,h=>by
  have:=Zco r (fun x hx=>h x (by simp [hx]))
  show (imB m ++ body r).length=_
  rw [List.length_append,this]
  have:=h m (by simp)
  simp only [imB,List.length_cons]
  omega
theorem Zbl {g:List Im}(h:∀m∈g,m.bs.length=512):(text g).length=1+513*g.length:=by
 show (body g).length+1=_;rw [Zco g h];omega
theorem ZaO {g:List Im}(h:∀m∈g,m.bs.length=512):(recd g).length=7+513*g.length:=by
 show (seald (text g)).length+1+1=_;rw [ZbB,Zbl h];omega
theorem Zim {g:List Im}(hb:ImB g)(hp:∀m∈g,m.page≤255):Bytes (body g):=by
 intro x hx;obtain⟨m,hm,aa⟩:=List.mem_flatMap.1 hx;simp only [imB,List.mem_cons] at aa;rcases aa with rfl | h
 · have:=hp m hm;omega
 · exact hb m hm x h
theorem May.pages {g:List Im}(h:May g):∀m∈g,m.page≤255:=fun _ hm=>by have:=(h.mem hm).2.1;omega
theorem May.len {g:List Im}(h:May g):∀m∈g,m.bs.length=512:=fun _ hm=>(h.mem hm).2.2
theorem Zcl {g:List Im}(hb:ImB g)(h:May g):Bytes (text g):=by
 intro x hx;rcases List.mem_cons.1 hx with rfl | hx
 · have:=h.2.1;omega
 · exact Zim hb h.pages x hx
theorem ZcU {x:List Nat}(h:Bytes x):Bytes (seald x):=Zg1 h
theorem Zcj {g:List Im}(hb:ImB g)(h:May g):Bytes (recd g):=by
 intro x hx;have hl:(seald (text g)).length≤3083:=by
  rw [ZbB,Zbl h.len];have:=h.2.1;omega
 rcases List.mem_cons.1 hx with rfl | hx
 · omega
 · rcases List.mem_cons.1 hx with rfl | hx
   · omega
   · exact ZcU (Zcl hb h) x hx
def imgAt (x:List Nat) (j:Nat):Im:=⟨(x.getD (1+513*j) 0:Nat),(x.drop (2+513*j)).take 512⟩
def imgs (x:List Nat) (k:Nat):List Im:=(List.range k).map (imgAt x)
theorem ZbS (x:List Nat)(k:Nat):(imgs x k).length=k:=by simp [imgs]
theorem Zej (x:List Nat)(k:Nat):imgs x (k+1)=imgs x k ++ [imgAt x k]:=by simp [imgs,List.range_succ]
theorem Zfd {x:List Nat}(h:Bytes x)(k:Nat):ImB (imgs x k):=by
 intro m hm;obtain⟨j,_,rfl⟩:=List.mem_map.1 hm;intro y hy;exact h y (List.mem_of_mem_drop (List.mem_of_mem_take hy))
theorem Zlx {x:List Nat}{k:Nat}(h:1+513*k≤x.length):∀m∈imgs x k,m.bs.length=512:=by
 intro m hm;obtain⟨j,hj,rfl⟩:=List.mem_map.1 hm;have hj:=List.mem_range.1 hj;simp only [imgAt,List.length_take,List.length_drop];omega
theorem ZdW (x:List Nat):∀k,1+513*k≤x.length→body (imgs x k)=(x.drop 1).take (513*k)
 | 0,_=>by simp [imgs,body]
 | k+1,h=>by
  rw [Zej,ZdV,ZdW x k (by omega),Zhy]
  have e:513*(k+1)=513*k+513:=by omega
  rw [e,List.take_add]
  congr 1
  have hd:(x.drop 1).drop (513*k)=x.drop (1+513*k):=by rw [List.drop_drop]
  rw [hd]
  have hl:1+513*k<x.length:=by omega
  rw [List.drop_eq_getElem_cons hl]
  show (imgAt x k).page.toNat :: (imgAt x k).bs=_
  rw [List.take_succ_cons]
  have e2:1+513*k+1=2+513*k:=by omega
  rw [e2]
  simp only [imgAt,Int.toNat_natCast]
  congr 1
  simp [List.getD,hl]
theorem ZkF {x:List Nat}{k:Nat}(h:x.length=1+513*k)(h0:x.getD 0 0=k):text (imgs x k)=x:=by
 unfold text;rw [ZbS,ZdW x k (by omega)];cases x with
 | nil=>simp at h;omega
 | cons a r =>
  simp only [List.drop_one,List.tail_cons];simp [List.getD] at h0;simp at h;rw [← h0,List.take_of_length_le (by omega)]
theorem Zhx:∀(g h:List Im),(∀m∈g,m.bs.length=512∧0≤m.page)→(∀m∈h,m.bs.length=512∧0≤m.page)→g.length=h.length→body g=body h→g=h
 | [],[],_,_,_,_=>rfl
 | [],_ :: _,_,_,hl,_=>by simp at hl
 | _ :: _,[],_,_,hl,_=>by simp at hl
 | a :: g,b :: h,hg,hh,hl,he=>by
  have he':imB a ++ body g=imB b ++ body h:=he
  have ha:=hg a (by simp)
  have hb:=hh b (by simp)
  obtain⟨h1,h2⟩:=List.append_inj he' (by simp [imB,ha.1,hb.1])
  have:=Zhx g h (fun m hm=>hg m (by simp [hm])) (fun m hm=>hh m (by simp [hm])) (by simpa using hl) h2
  simp only [imB,List.cons.injEq] at h1
  obtain⟨pa,ba⟩:=a
  obtain⟨pb,bb⟩:=b
  simp only at h1 ha hb
  rw [this]
  have:pa=pb:=by omega
  rw [this,h1.2]
theorem ZjL {g:List Im}(h:May g):imgs (text g) g.length=g:=by
 have hl:=Zbl h.len;refine Zhx _ _ ?_ (fun m hm=>⟨(h.mem hm).2.2,(h.mem hm).1⟩) (ZbS _ _) ?_
 · intro m hm;refine⟨Zlx (by omega) m hm,?_⟩;obtain⟨j,_,rfl⟩:=List.mem_map.1 hm;exact Int.natCast_nonneg _
 · rw [ZdW _ _ (by omega)];show (body g).take _=_;rw [← Zco g h.len,List.take_length]
structure Told where
  g:List Im
  n:Nat
  e:Nat
def Told.no (e:Nat):Told:=⟨[],0,e⟩
open Classical in
noncomputable def grp (x:List Nat) (n:Nat):Told:=
  if 1≤x.length∧x.length=1+513*x.getD 0 0∧May (imgs x (x.getD 0 0)) then ⟨imgs x (x.getD 0 0),n,0⟩ else Told.no 4
def said (b:List Nat):Nat:=b.getD 0 0*256+b.getD 1 0
open Classical in
noncomputable def dec (b:List Nat):Told:=
  if b.length<2 then Told.no 4 else
  if b.length<2+said b∨said b<4 then Told.no 4 else
  if ZbZ ((b.drop 2).take (said b)) then grp (((b.drop 2).take (said b)).drop 4) (2+said b) else Told.no 5
theorem ZmR (x:List Nat)(n:Nat) :
    ((May (imgs x ((x.length-1) / 513))∧text (imgs x ((x.length-1) / 513))=x)→grp x n=⟨imgs x ((x.length-1) / 513),n,0⟩) ∧
    (¬(May (imgs x ((x.length-1) / 513))∧text (imgs x ((x.length-1) / 513))=x)→grp x n=Told.no 4):=by
  constructor
  · rintro ⟨hm,ht⟩;have hl:=Zbl hm.len;have h0:(text (imgs x ((x.length-1) / 513))).getD 0 0=(x.length-1) / 513:=by
     show (imgs x _).length=_;rw [ZbS]
    rw [ht] at hl h0;rw [ZbS] at hl;unfold grp;rw [h0,if_pos ⟨by omega,hl,hm⟩]
  · intro h;unfold grp;rw [if_neg];rintro ⟨h1,h2,h3⟩;apply h;(have e:(x.length-1) / 513=x.getD 0 0:=by omega);rw [e];exact⟨h3,ZkF h2 rfl⟩
theorem Zla {g:List Im}(h:May g)(r:List Nat):dec (recd g ++ r)=⟨g,(recd g).length,0⟩:=by
 have hl:=Zbl h.len;have hs:=ZbB (text g);have ad:=h.2.1;have ac:=h.1;have ab:said (recd g ++ r)=(seald (text g)).length:=by
  show (seald (text g)).length / 256*256+(seald (text g)).length % 256=_;omega
 have aa:(recd g ++ r).drop 2=seald (text g) ++ r:=rfl;unfold dec;rw [if_neg (by simp [recd]),ab,aa,if_neg,if_pos]
 · rw [List.take_left' rfl];have:(seald (text g)).drop 4=text g:=rfl;rw [this];unfold grp;have h0:(text g).getD 0 0=g.length:=rfl;rw [h0,ZjL h,if_pos ⟨by omega,by omega,h⟩];(have:2+(seald (text g)).length=(recd g).length:=by simp [recd];omega);rw [this]
 · rw [List.take_left' rfl];rfl
 · rw [List.length_append,ZaO h.len];omega
theorem dec_e :(dec b).e=0∨((dec b).e≠0∧(dec b).g=[]∧(dec b).n=0):=by
 unfold dec;split
 · exact .inr ⟨by decide,rfl,rfl⟩
 · split
   · exact .inr ⟨by decide,rfl,rfl⟩
   · split
     · unfold grp;split
       · exact .inl rfl
       · exact .inr ⟨by decide,rfl,rfl⟩
     · exact .inr ⟨by decide,rfl,rfl⟩
theorem Zec (h:(dec b).e=0):2≤(dec b).n∧(dec b).n≤b.length∧May (dec b).g:=by
 revert h;unfold dec;split
 · intro h;cases h
 · split
   · intro h;cases h
   · split
     · unfold grp;split
       · rename_i hc;intro _;refine⟨?_,?_,hc.2.2⟩
         · show 2≤2+said b;omega
         · show 2+said b≤b.length;omega
       · intro h;cases h
     · intro h;cases h
theorem Zeb (h:Bytes b):ImB (dec b).g:=by
 unfold dec;split
 · intro m hm;cases hm
 · split
   · intro m hm;cases hm
   · split
     · unfold grp;split
       · exact Zfd (fun y hy=>h y (List.mem_of_mem_drop (List.mem_of_mem_take (List.mem_of_mem_drop hy)))) _
       · intro m hm;cases hm
     · intro m hm;cases hm
noncomputable def rowAt (b:List Nat):Nat→Nat
  | 0=>0
  | i+1=>rowAt b i+(dec (b.drop (rowAt b i))).n
noncomputable def rowG (b:List Nat) (i:Nat):List Im:=(dec (b.drop (rowAt b i))).g
def rowOk (b:List Nat) (i:Nat):Prop:=(dec (b.drop (rowAt b i))).e=0
theorem ZcE :∀i,(∀j,j<i→rowOk b j)→rowAt b i≤b.length∧2*i≤rowAt b i
 | 0,_=>⟨Nat.zero_le _,Nat.le_refl _⟩
 | i+1,h=>by
  have ih:=ZcE i (fun j hj=>h j (by omega))
  have:=Zec (h i (by omega))
  rw [List.length_drop] at this
  show rowAt b i+_≤_∧_≤rowAt b i+_
  omega
def recs (l:List (List Im)):List Nat:=l.flatMap recd
namespace Ap
variable {α : Type} (p : α → Int)
end Ap
structure Ix where
  page:Int
  s:Sl
  bs:List Nat
def Ix.zero:Ix:=⟨0,Sl.nil,[]⟩
def Ix.im (x:Ix):Im:=⟨x.page,x.bs⟩
def Ix.val (x:Ix):Value:=.agg #[.int .i64 x.page,x.s.val]
def Ix.cells (x:Ix):List Value:=[.int .i64 x.page,x.s.val]
def Zb6 (l:List Ix):List Value:=l.flatMap Ix.cells
def ims (l:List Ix):List Im:=l.map Ix.im
theorem Zal (l:List Ix):(ims l).length=l.length:=by simp [ims]
theorem Zcg (l m:List Ix):ims (l ++ m)=ims l ++ ims m:=by simp [ims]
theorem Zdk (l:List Ix)(i:Nat):(ims l).getD i Im.zero=(l.getD i Ix.zero).im:=by
 unfold ims;rw [show Im.zero=Ix.zero.im from rfl];simp only [List.getD,List.getElem?_map];cases l[i]? <;> rfl
theorem ZcZ:∀l,(Zb6 l).length=l.length*2
 | []=>rfl
 | i :: r=>by
  have:=ZcZ r
  simp only [Zb6,List.flatMap_cons,List.length_append,List.length_cons] at *
  rw [this]
  simp [Ix.cells]
  omega
theorem Zfr (l m:List Ix):Zb6 (l ++ m)=Zb6 l ++ Zb6 m:=by simp [Zb6]
theorem ZeT (l:List Ix):∀u∈Zb6 l,u.oneCell'=true:=by
 intro u hu;obtain⟨i,_,hi⟩:=List.mem_flatMap.1 hu;simp only [Ix.cells,List.mem_cons,List.mem_nil_iff,or_false] at hi;rcases hi with rfl | rfl <;> rfl
theorem Zdx:∀(l:List Ix)(j t:Nat),j<l.length→t<2→(Zb6 l)[j*2+t]? = (l.getD j Ix.zero).cells[t]?
 | i :: r,0,t,_,ht=>by
  simp only [Zb6,List.flatMap_cons]
  rw [List.getElem?_append_left (by simp [Ix.cells];omega)]
  simp
 | i :: r,j+1,t,hj,ht=>by
  have:=Zdx r j t (by simpa using hj) ht
  simp only [Zb6,List.flatMap_cons] at *
  rw [List.getElem?_append_right (by simp [Ix.cells];omega)]
  have e:(j+1)*2+t-i.cells.length=j*2+t:=by simp [Ix.cells];omega
  rw [e,this]
  simp [List.getD]
def ZaD (D:Nat→Prop) (w w':World):Prop:=∀k,D k→k<w.heap.size→w'.heap[k]? = w.heap[k]?
theorem ZaD.all {D:Nat→Prop}(h:Below B w w')(hB:w.heap.size≤B):ZaD D w w':=fun k _ hl=>h.block k (by omega)
theorem ZaD.frm {D F:Nat→Prop}(h:Frm F w w')(hD:∀k,D k→¬F k):ZaD D w w':=fun k hk hl=>h.block k hl (hD k hk)
theorem ZaD.cell {D:Nat→Prop}(h:ZaD D w w'){a:Addr}{u:Value}(hc:w.cell? a=some u)(hD:D a.block):w'.cell? a=some u:=by
 have:=h a.block hD (World.block_lt_of_cell? w _ hc);simp only [World.cell?] at hc ⊢;rw [this];exact hc
structure Cm (D:Nat→Prop) (w:World) (s:Sl) (xs:List Nat):Prop where
  came:Came w s.a s.len s.cap xs
  home:∀ad,s.a=some ad→0<s.len→D ad.block
theorem Cm.len {D:Nat→Prop}(h:Cm D w s xs):xs.length=s.len:=h.came.bs.1
theorem Cm.keep {D:Nat→Prop}(h:Cm D w s xs)(hk:ZaD D w w'):Cm D w' s xs:=by
 refine⟨⟨⟨h.came.bs.1,h.came.bs.2.1,fun i hi=>?_⟩,h.came.nil,h.came.le,h.came.big⟩,h.home⟩;obtain⟨b,off,ha,hc⟩:=h.came.bs.2.2 i hi;exact⟨b,off,ha,hk.cell hc (h.home ⟨b,off,none⟩ ha (by omega))⟩
theorem Cm.below {D:Nat→Prop}(h:Cm D w s xs)(hb:Below B w w')(hB:w.heap.size≤B):Cm D w' s xs:=h.keep (ZaD.all hb hB)
theorem Cm.mono {D E:Nat→Prop}(h:Cm D w s xs)(hE:∀k,D k→k<w.heap.size→E k):Cm E w s xs:=by
 refine⟨h.came,fun ad ha hl=>hE _ (h.home ad ha hl) ?_⟩;obtain⟨b,off,ha',hc⟩:=h.came.bs.2.2 0 hl;rw [ha'] at ha;cases ha;exact World.block_lt_of_cell? w _ hc
structure Gr (D:Nat→Prop) (w:World) (v:Sl) (l:List Ix):Prop where
  len:l.length=v.len
  nil:v.a=none→v.cap=0
  le:v.len≤v.cap
  big:v.len≤1000000
  home:∀ad,v.a=some ad→0<v.len→D ad.block
  cell:∀i,i<v.len→∃b off,v.a=some ⟨b,off,none⟩∧w.cell? ⟨b,off+i*2,none⟩=some (.int .i64 (l.getD i Ix.zero).page)∧w.cell? ⟨b,off+i*2+1,none⟩=some (l.getD i Ix.zero).s.val
  bs:∀x∈l,Cm D w x.s x.bs
theorem Gr.keep {D:Nat→Prop}{l:List Ix}(h:Gr D w v l)(hk:ZaD D w w'):Gr D w' v l:=by
 refine⟨h.len,h.nil,h.le,h.big,h.home,fun i hi=>?_,fun x hx=>(h.bs x hx).keep hk⟩;obtain⟨b,off,ha,c0,c1⟩:=h.cell i hi;have hD:=h.home _ ha (by omega);exact⟨b,off,ha,hk.cell c0 hD,hk.cell c1 hD⟩
theorem Gr.below {D:Nat→Prop}{l:List Ix}(h:Gr D w v l)(hb:Below B w w')(hB:w.heap.size≤B):Gr D w' v l:=h.keep (ZaD.all hb hB)
theorem Gr.mono {D E:Nat→Prop}{l:List Ix}(h:Gr D w v l)(hE:∀k,D k→k<w.heap.size→E k):Gr E w v l:=by
 refine⟨h.len,h.nil,h.le,h.big,fun ad ha hl=>hE _ (h.home ad ha hl) ?_,h.cell,fun x hx=>(h.bs x hx).mono hE⟩;obtain⟨b,off,ha',c0,c1⟩:=h.cell 0 hl;rw [ha'] at ha;cases ha;exact World.block_lt_of_cell? w _ c0
theorem ZcC {α:Type}{l:List α}(d:α)(h:i<l.length):l.getD i d∈l:=by
 simp [List.getD,h]
theorem Gr.at {D:Nat→Prop}{l:List Ix}(h:Gr D w v l)(hi:i<v.len):Cm D w (l.getD i Ix.zero).s (l.getD i Ix.zero).bs:=h.bs _ (ZcC _ (by rw [h.len];exact hi))
theorem Gr.none {D:Nat→Prop}:Gr D w Sl.nil []:=⟨rfl,fun _=>rfl,Nat.le_refl _,by decide,fun _ h _=>(by cases h),fun _ h=>absurd h (Nat.not_lt_zero _),fun _ h=>(by cases h)⟩
theorem Gr.imB {D:Nat→Prop}{l:List Ix}(h:Gr D w v l):ImB (ims l):=by
 intro m hm;obtain⟨x,hx,rfl⟩:=List.mem_map.1 hm;exact(h.bs x hx).came.bs.2.1
theorem Zob:(Tryz.prog.info? 76).map (fun i=>(i.zero,i.size,i.bytes))=some (some (.agg #[.int .i64 0,.slice none 0 0]),2,32):=by kernel_rfl
theorem Zoa:(Tryz.prog.info? 52).map (fun i=>(i.zero,i.size,i.bytes))=some (some (.slice none 0 0),1,24):=by kernel_rfl
def OwnI (w:World) (v:Sl) (l:List Ix):Prop:=Own 76 2 w v (Zb6 l)
theorem OwnI.len {l:List Ix}(h:OwnI w v l):l.length=v.len:=by
 have:=h.1;rw [ZcZ] at this;omega
theorem OwnI.gr {D:Nat→Prop}{l:List Ix}(h:OwnI w v l)(hb:∀x∈l,Cm D w x.s x.bs)(hD:∀k,v.blk=some k→D k)(hm:v.len≤1000000):Gr D w v l:=by
 have hl:=h.len;refine⟨hl,h.nilcap,h.lecap,hm,fun ad ha _=>hD _ (by rw [Sl.blk,ha];rfl),fun i hi=>?_,hb⟩;rcases h.2 with ⟨h0,_⟩ | ⟨g,off,cur,ha,_⟩
 · rw [h0] at hi;exact absurd hi (Nat.not_lt_zero _)
 · refine⟨g,off,ha,?_,?_⟩
   · have:=h.cell ha (i*2+0) _ (Zdx l i 0 (by omega) (by omega));rwa [Addr.add_lit] at this
   · have:=h.cell ha (i*2+1) _ (Zdx l i 1 (by omega) (by omega));rwa [Addr.add_lit] at this
theorem OwnI.new (w:World):OwnI (w.alloc (.cells #[] 76)) ⟨some ⟨w.heap.size,0,none⟩,0,0⟩ []:=
 ⟨rfl,.inr ⟨w.heap.size,0,_,rfl,heap_alloc_new w _,by simp,Nat.le_refl _,by simp,rfl⟩⟩
theorem ZoB (w:World)(x:Ix):Src Tryz.prog 2 52 (.slice (some ⟨w.heap.size,0,none⟩) 1 1) 1 (Zb6 [x]) (w.alloc (.cells #[.int .i64 x.page,x.s.val] 76)):=by
 refine Src.ofSlice _ Tryz.underlying52 ⟨w.heap.size,0,none⟩ 1 1 (Zb6 [x]) rfl (fun j u hj=>?_) (ZeT _);have hb:(w.alloc (.cells #[.int .i64 x.page,x.s.val] 76)).heap[w.heap.size]? = some (.cells #[.int .i64 x.page,x.s.val] 76):=heap_alloc_new w _;rw [Addr.add_lit,cell_of_row _ _ _ _ _ _ hb];simpa [Zb6,Ix.cells] using hj
theorem Zkk (w:World)(v:Sl)(l:List Ix)(h:OwnI w v l)(x:Ix)(hl:v.len+1≤1000000)(ty:TypeId) :
    ∃v' w',(Builtin.append_ #[52,52] ty #[v.val,.slice (some ⟨w.heap.size,0,none⟩) 1 1]).run Tryz.prog (w.alloc (.cells #[.int .i64 x.page,x.s.val] 76))=.ok v'.val w'∧OwnI w' v' (l ++ [x])∧v'.len=v.len+1∧Frm (fun k=>v.blk=some k) w w'∧(v'.blk=v.blk∨∃k,v'.blk=some k∧w.heap.size≤k):=by
  have hB:=Zaa w (.cells #[.int .i64 x.page,x.s.val] 76);have h1:Own 76 2 (w.alloc (.cells #[.int .i64 x.page,x.s.val] 76)) v (Zb6 l):=h.frame (fun k hk=>hB.block k (h.lt hk));obtain⟨v',w',ab,ho,aa,hf,ac⟩:=Zbp Tryz.underlying52 Zob rfl (by decide) _ v (Zb6 l) h1 (ZeT l) _ 1 (Zb6 [x]) (ZoB w x) hl ty;refine⟨v',w',ab,by unfold OwnI;rw [Zfr];exact ho,aa,(Frm.ofBelow hB).trans hf (fun _ _ hk=>hk),?_⟩;rcases ac with e | ⟨e,_⟩
  · exact .inl e
  · exact .inr ⟨_,e,hB.size⟩
section
variable {ops : Array Oper} {rest : List Oper} {o : Oper} {a : Act} {Q : Exit → Act → World → Prop}
end
structure Gp where
  v:Sl
  l:List Ix
def Gp.zero:Gp:=⟨Sl.nil,[]⟩
def Zcx (L:List Gp):List Value:=L.map fun x=>x.v.val
theorem ZeS (L:List Gp):∀u∈Zcx L,u.oneCell'=true:=by
 intro u hu;obtain⟨i,_,rfl⟩:=List.mem_map.1 hu;rfl
theorem Zin {L:List Gp}(h:i<L.length):(Zcx L)[i]? = some (L.getD i Gp.zero).v.val:=by
 simp [Zcx,List.getD,h]
def OwnG (w:World) (v:Sl) (L:List Gp):Prop:=Own 52 1 w v (Zcx L)
theorem OwnG.len {L:List Gp}(h:OwnG w v L):L.length=v.len:=by
 have:=h.1;rw [Zcx,List.length_map] at this;omega
theorem OwnG.new (w:World):OwnG (w.alloc (.cells #[] 52)) ⟨some ⟨w.heap.size,0,none⟩,0,0⟩ []:=
 ⟨rfl,.inr ⟨w.heap.size,0,_,rfl,heap_alloc_new w _,by simp,Nat.le_refl _,by simp,rfl⟩⟩
theorem OwnG.at {L:List Gp}(h:OwnG w v L)(hi:i<v.len):∃b off,v.a=some ⟨b,off,none⟩∧w.cell? ⟨b,off+i,none⟩=some (L.getD i Gp.zero).v.val:=by
 have hl:=h.len;rcases h.2 with ⟨h0,_⟩ | ⟨g,off,cur,ha,_⟩
 · rw [h0] at hi;exact absurd hi (Nat.not_lt_zero _)
 · refine⟨g,off,ha,?_⟩;have:=h.cell ha i _ (Zin (by omega));rwa [Addr.add_lit] at this
theorem ZoA (w:World)(x:Gp):Src Tryz.prog 1 95 (.slice (some ⟨w.heap.size,0,none⟩) 1 1) 1 (Zcx [x]) (w.alloc (.cells #[x.v.val] 52)):=by
 refine Src.ofSlice _ Tryz.underlying95 ⟨w.heap.size,0,none⟩ 1 1 (Zcx [x]) rfl (fun j u hj=>?_) (ZeS _);have hb:(w.alloc (.cells #[x.v.val] 52)).heap[w.heap.size]? = some (.cells #[x.v.val] 52):=heap_alloc_new w _;rw [Addr.add_lit,cell_of_row _ _ _ _ _ _ hb];simpa [Zcx] using hj
theorem Zou (w:World)(v:Sl)(L:List Gp)(h:OwnG w v L)(x:Gp)(hl:v.len+1≤1000000)(ty:TypeId) :
    ∃v' w',(Builtin.append_ #[95,95] ty #[v.val,.slice (some ⟨w.heap.size,0,none⟩) 1 1]).run Tryz.prog (w.alloc (.cells #[x.v.val] 52))=.ok v'.val w'∧OwnG w' v' (L ++ [x])∧v'.len=v.len+1∧Frm (fun k=>v.blk=some k) w w'∧(v'.blk=v.blk∨∃k,v'.blk=some k∧w.heap.size≤k):=by
  have hB:=Zaa w (.cells #[x.v.val] 52);have h1:Own 52 1 (w.alloc (.cells #[x.v.val] 52)) v (Zcx L):=h.frame (fun k hk=>hB.block k (h.lt hk));obtain⟨v',w',ab,ho,aa,hf,ac⟩:=Zbp Tryz.underlying95 Zoa rfl (by decide) _ v (Zcx L) h1 (ZeS L) _ 1 (Zcx [x]) (ZoA w x) hl ty;refine⟨v',w',ab,by unfold OwnG Zcx;rw [List.map_append];exact ho,aa,(Frm.ofBelow hB).trans hf (fun _ _ hk=>hk),?_⟩;rcases ac with e | ⟨e,_⟩
  · exact .inl e
  · exact .inr ⟨_,e,hB.size⟩
section
variable {ops : Array Oper} {rest : List Oper} {o : Oper} {a : Act} {Q : Exit → Act → World → Prop}
theorem ZdI (w:World)(x:Gp)(ab:o.guard=none)(s y:Operand)(ho:o.op=.call { callee:=.builtin .append,args:=#[s,y],argTypes:=#[95,95] })(v:Sl)(L:List Gp)(hs:a.eval s=v.val)(hy:a.eval y=.slice (some ⟨w.heap.size,0,none⟩) 1 1)(h:OwnG w v L)(hl:v.len+1≤1000000)
    (hK:∀v' w',OwnG w' v' (L ++ [x])→v'.len=v.len+1→Frm (fun k=>v.blk=some k) w w'→(v'.blk=v.blk∨∃k,v'.blk=some k∧w.heap.size≤k)→wpList Tryz.prog ops Q rest (a.put o.dst v'.val) w'):wpList Tryz.prog ops Q (o :: rest) a (w.alloc (.cells #[x.v.val] 52)):=by
  refine wpList_plain ab fun K hK'=>?_;obtain⟨v',w',aa,r1,r2,r3,r4⟩:=Zou w v L h x hl o.type;unfold Oper.wp;simp [execOp,ho,resolve,invoke,builtin,hs,hy,aa,Result.andThen];exact hK' _ _ (hK v' w' r1 r2 r3 r4)
end
theorem Owns.cm {base:Nat}{v:Value}(h:Owns w base v xs)(hx:Bytes xs)(hm:xs.length≤1000000):∃s:Sl,v=s.val∧s.len=xs.length∧Cm (fun k=>base≤k) w s xs:=by
 rcases h.2 with ⟨hv,h0⟩ | ⟨g,cap,cur,hv,aa,hg,ab,hr⟩
 · have:xs=[]:=List.eq_nil_of_length_eq_zero h0;subst this;exact⟨Sl.nil,hv,rfl,⟨⟨⟨rfl,hx,fun i hi=>absurd hi (Nat.not_lt_zero _)⟩,fun _=>rfl,Nat.le_refl _,by decide⟩,fun _ h _=>(by cases h)⟩⟩
 · refine⟨⟨some ⟨g,0,none⟩,xs.length,cap⟩,hv,rfl,?_⟩;rw [hv] at h;refine⟨⟨(h.row hx).2,(fun e=>by cases e),ab,by show xs.length≤_;omega⟩,fun ad ha _=>?_⟩;cases ha;exact aa
end Go.Proofs.YtpnlebpnhmibfaaGreat
