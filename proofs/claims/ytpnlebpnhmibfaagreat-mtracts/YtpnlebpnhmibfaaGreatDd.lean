/-
  Lemmas.
-/
import Derived.Test.YtpnlebpnhmibfaaGreatBd
import Derived.Test.YtpnlebpnhmibfaaGreatDc
namespace Go.Proofs.YtpnlebpnhmibfaaGreat
open Go.RowKit
set_option linter.unusedVariables false
set_option maxRecDepth 100000
set_option maxHeartbeats 4000000
variable {A:Da}{D:Ds}{n tot m:Nat}{u:Pt}{d:Dk}
theorem Zjg (w:World)(n:Nat)(hn:n≤1000000):Came (w.alloc (.cells (vals (List.replicate n 0)).toArray 5)) (some ⟨w.heap.size,0,none⟩) n n (List.replicate n 0):=
 (ZhK w n (by omega) (List.replicate n 0) (by simp)).came (Zca n)
variable {K : Home}
def Dv.new (n:Nat):Dv:=⟨⟨List.replicate (512*n) 0,0,[]⟩,⟨List.replicate (512*n) 0,0,[]⟩,[],false,-1⟩
theorem ZiJ (w:World)(hK:K.low≤w.heap.size)(n:Nat)(hn:n≤64):Calls Tryz.prog 12 #[.int .i64 (n:Int)] w fun e w'=>Below w.heap.size w w'∧∃L,e=.returned ((Dv.new n).val L)∧DvIn K w' (Dv.new n) L:=by
 obtain⟨W1,af⟩:∃W1,W1=w.alloc (.cells #[.slice none 0 0,.int .i64 0,.slice none 0 0,.slice none 0 0,.int .i64 0,.slice none 0 0,.slice none 0 0,.bool false,.int .i64 0] 37):=⟨_,rfl⟩;(have bl:W1.heap.size=w.heap.size+1:=by rw [af];simp);(have ap:Below w.heap.size w W1:=by rw [af];exact Zaa w _);(have bc:DvBlk W1 w.heap.size Sl.nil.val 0 Sl.nil.val Sl.nil.val 0 Sl.nil.val Sl.nil.val false 0:=by rw [af];exact ZaM w _ _ _ _ _ _ _ _ _);have aj:=ZbJ (512*n) (by omega) W1;have aq:=Zjg W1 (512*n) (by omega);have ah:=Zaa W1 (.cells (vals (List.replicate (512*n) 0)).toArray 5);generalize (.cells (vals (List.replicate (512*n) 0)).toArray 5:Obj)=C at aj aq ah;have al:BsS K (W1.alloc C) ⟨some ⟨W1.heap.size,0,none⟩,512*n,512*n⟩ (List.replicate (512*n) 0):=⟨aq,Nat.le_trans hK (Zaf ap ah).size,fun _ ad ha=>by cases ha;exact K.all _ (Nat.le_trans hK (by show w.heap.size≤W1.heap.size;omega))⟩;have av:=bc.keep ah;(have bb:(W1.alloc C).heap.size=w.heap.size+1+1:=by simp;omega);rw [bl] at aj al;have HM:=hide aj;have aw:=hide al;have am:=hide (Zaf ap ah);have an:=af;have bf:=hide af;generalize bi:W1.alloc C=W2 at aj al av bb HM aw am;clear aq ah ap bc aj al bi af an;have bh:=hide av;have bm:=hide bb;(have bj:IntKind.i64.wrap (512*(n:Int))=512*(n:Int):=by rw [IntKind.wrap_i64];omega);have ae:=HM.out;rw [show (((512*n:Nat)):Int)=512*(n:Int) by omega] at ae;have bd:=hide ae;clear ae av;obtain⟨s,hs⟩:∃s:Sl,s=⟨some ⟨w.heap.size+1,0,none⟩,512*n,512*n⟩:=⟨_,rfl⟩;have ak:=Zaa W2 (.cells #[s.val,.int .i64 0,Sl.nil.val] 34);have ac:=hide (bh.out.keep ak);have ax:=hide (ZdQ w.heap.size (Dv.new n) ⟨s,Sl.nil,s,Sl.nil,Sl.nil⟩ _ ac.out);have ag:=hide (am.out.trans (ak.mono am.out.size));have aa:=hide (aw.out.keep ak (Nat.le_refl _));rw [← hs] at aa;clear ak;(have ay:Hid (s.val=.slice (some ⟨w.heap.size+1,0,none⟩) (512*n) (512*n)):=by rw [hs];exact hide rfl);(have be:Hid ((Dv.new n).val ⟨s,Sl.nil,s,Sl.nil,Sl.nil⟩=.agg #[.slice (some ⟨w.heap.size+1,0,none⟩) (512*n) (512*n),.int .i64 0,.slice none 0 0,.slice (some ⟨w.heap.size+1,0,none⟩) (512*n) (512*n),.int .i64 0,.slice none 0 0,.slice none 0 0,.bool false,.int .i64 (-1)]):=by rw [hs];exact hide rfl);have au:=ax.out;rw [be.out,ay.out] at au;have ab:=hide au;rw [ay.out] at ac ag aa;have HS:=hide hs;clear ax au hs;unfold Sl.nil Sl.val at ab ac ag aa;simp only at ab ac ag aa;obtain⟨W3,ao⟩:∃W3,W3=W2.alloc (.cells #[.slice (some ⟨w.heap.size+1,0,none⟩) (512*n) (512*n),.int .i64 0,.slice none 0 0] 34):=⟨_,rfl⟩;rw [← ao] at ab ac ag aa;have bg:=hide ao;clear ao;go_enter Tryz.func12,Tryz.ntmps12;go_wp2_with (first | (rw [← bf.out];refine ZeI _ rfl 32 (.tmp 5) (.tmp 5) rfl (.int .i64 (512*(n:Int))) (.int .i64 (512*(n:Int))) (.slice (some ⟨w.heap.size+1,0,none⟩) (512*n) (512*n)) rfl rfl W2 bd.out ?_) | (rw [← bg.out];refine Zab _ rfl rfl 37 (.tmp 2) (.tmp 10) rfl (.pointer (some ⟨w.heap.size,0,none⟩)) _ rfl rfl _ ab.out ?_));refine Zdd rfl ac.out (Dv.new n) ⟨⟨some ⟨w.heap.size+1,0,none⟩,512*n,512*n⟩,Sl.nil,⟨some ⟨w.heap.size+1,0,none⟩,512*n,512*n⟩,Sl.nil,Sl.nil⟩ (by rfl) rfl ?_;have ai:=aa.out;rw [HS.out] at ai;have bk:∀o i,W3.cell? ⟨w.heap.size,o,none⟩≠some (.int .u8 i):=DvBlk.no8 (s0:=Sl.nil) (s2:=Sl.nil) (s3:=Sl.nil) (s5:=Sl.nil) (s6:=Sl.nil) ac.out;have az:=Za3 ag.out (Nat.le_refl w.heap.size) (Sl.val ⟨some ⟨w.heap.size+1,0,none⟩,512*n,512*n⟩) 0 Sl.nil.val (Sl.val ⟨some ⟨w.heap.size+1,0,none⟩,512*n,512*n⟩) 0 Sl.nil.val Sl.nil.val false (-1);have ar:K.low≤(setDv W3 w.heap.size (Sl.val ⟨some ⟨w.heap.size+1,0,none⟩,512*n,512*n⟩) 0 Sl.nil.val (Sl.val ⟨some ⟨w.heap.size+1,0,none⟩,512*n,512*n⟩) 0 Sl.nil.val Sl.nil.val false (-1)).heap.size:=Nat.le_trans hK az.size;have ba:DkIn K (setDv W3 w.heap.size (Sl.val ⟨some ⟨w.heap.size+1,0,none⟩,512*n,512*n⟩) 0 Sl.nil.val (Sl.val ⟨some ⟨w.heap.size+1,0,none⟩,512*n,512*n⟩) 0 Sl.nil.val Sl.nil.val false (-1)) ⟨List.replicate (512*n) 0,0,[]⟩ ⟨some ⟨w.heap.size+1,0,none⟩,512*n,512*n⟩ Sl.nil:=
  ⟨ai.other bk (fun k hk=>Zas _ _ _ _ _ _ _ _ _ _ _ k hk) (by rw [ZaK];exact Nat.le_refl _),Zjd _ ar⟩
 exact⟨az,_,rfl,ba,ba,⟨rfl,(fun i hi=>by cases hi),(fun j hj=>absurd hj (Nat.not_lt_zero j))⟩,(fun _=>rfl),Nat.le_refl _⟩
def wrOf:List Pt→List Sw
  | []=>[]
  | u :: r=>if 0≤u.at_ then ⟨128*u.at_.toNat,u.b⟩ :: wrOf r else wrOf r
def apOf:List Pt→List Nat
  | []=>[]
  | u :: r=>if 0≤u.at_ then apOf r else if u.trim=true then apOf r else u.b ++ apOf r
def trOf:Nat→List Pt→List Tm
  | _,[]=>[]
  | n,u :: r=>if 0≤u.at_ then trOf n r else if u.trim=true then ⟨n,u.to.toNat⟩ :: trOf (n+1) r else trOf (n+u.b.length) r
theorem Zbm:∀(l:List Pt)(n m:Nat),(trOf n l).length=(trOf m l).length
 | [],_,_=>rfl
 | u :: r,n,m=>by
  unfold trOf
  split
  · exact Zbm r n m
  · split
    · simp only [List.length_cons];rw [Zbm r (n+1) (m+1)]
    · exact Zbm r _ _
def tin:List Pt→Nat→Nat
  | [],_=>0
  | u :: r,n=>if 0≤u.at_ then tin r n else if u.trim=true then (if n=0 then 0 else tin r (n-1)+1) else (if u.b.length≤n then tin r (n-u.b.length) else 0)
def lpl:Nat→List Pt→Nat→Nat
  | b,[],_=>b
  | b,u :: r,n=>if 0≤u.at_ then lpl b r n else if u.trim=true then (if n=0 then b else lpl u.to.toNat r (n-1)) else (if u.b.length≤n then lpl b r (n-u.b.length) else b)
def sturn (x:Nat × List Nat) (u:Pt):Nat × List Nat:=
  if 0≤u.at_ then x else if u.trim=true then (u.to.toNat,x.2.drop (u.to.toNat-x.1)) else (x.1,x.2 ++ u.b)
def svalid:Nat × List Nat→List Pt→Prop
  | _,[]=>True
  | x,u :: r=>(u.at_<0→u.trim=true→0≤u.to∧x.1≤u.to.toNat∧u.to.toNat-x.1≤x.2.length)∧(u.at_<0→u.trim=false→0<u.b.length)∧svalid (sturn x u) r
theorem Zdt:∀(l:List Pt)(x:Nat × List Nat)(m:List Pt),svalid x (l ++ m)↔svalid x l∧svalid (l.foldl sturn x) m
 | [],x,m=>by simp [svalid]
 | u :: r,x,m=>by
  simp only [List.cons_append,svalid,List.foldl_cons]
  rw [Zdt r (sturn x u) m]
  constructor
  · rintro ⟨a,b,c,d⟩;exact ⟨⟨a,b,c⟩,d⟩
  · rintro ⟨⟨a,b,c⟩,d⟩;exact ⟨a,b,c,d⟩
theorem ZaT:∀(l:List Pt)(n:Nat),tin l n≤n
 | [],_=>Nat.zero_le _
 | u :: r,n=>by
  unfold tin
  split
  · exact ZaT r n
  · split
    · split
      · omega
      · have:=ZaT r (n-1);omega
    · split
      · have:=ZaT r (n-u.b.length);omega
      · omega
theorem Zcm:∀(l:List Pt)(n q:Nat),tin l n≤(trOf q l).length
 | [],_,_=>Nat.zero_le _
 | u :: r,n,q=>by
  unfold tin trOf
  split
  · exact Zcm r n q
  · split
    · split
      · omega
      · have:=Zcm r (n-1) (q+1);simp only [List.length_cons];omega
    · split
      · exact Zcm r _ _
      · omega
theorem Zie:∀(l:List Pt)(n q t:Nat),t<tin l n→((trOf q l).getD t tmD).ahead<q+n
 | [],_,_,_,h=>by simp [tin] at h
 | u :: r,n,q,t,h=>by
  unfold tin at h
  unfold trOf
  split at h
  · rename_i h0
    rw [if_pos h0]
    exact Zie r n q t h
  · rename_i h0
    rw [if_neg h0]
    split at h
    · rename_i h1
      rw [if_pos h1]
      split at h
      · omega
      · rename_i h2
        cases t with
        | zero=>simp;omega
        | succ t =>
         have:=Zie r (n-1) (q+1) t (by omega)
         simp only [List.getD_cons_succ]
         omega
    · rename_i h1
      rw [if_neg h1]
      split at h
      · have:=Zie r (n-u.b.length) (q+u.b.length) t h
        omega
      · omega
theorem Zmh:∀(l:List Pt)(q t:Nat),t<(trOf q l).length→q≤((trOf q l).getD t tmD).ahead
 | [],_,_,h=>by simp [trOf] at h
 | u :: r,q,t,h=>by
  unfold trOf at h ⊢
  split
  · rename_i h0
    rw [if_pos h0] at h
    exact Zmh r q t h
  · rename_i h0
    rw [if_neg h0] at h
    split
    · rename_i h1
      rw [if_pos h1] at h
      cases t with
      | zero=>simp
      | succ t =>
       have:=Zmh r (q+1) t (by simpa using h)
       simp only [List.getD_cons_succ]
       omega
    · rename_i h1
      rw [if_neg h1] at h
      have:=Zmh r (q+u.b.length) t h
      omega
theorem Zid:∀(l:List Pt)(n q:Nat),tin l n<(trOf q l).length→q+n≤((trOf q l).getD (tin l n) tmD).ahead
 | [],_,_,h=>by simp [trOf] at h
 | u :: r,n,q,h=>by
  unfold tin trOf at h ⊢
  by_cases h0:0≤u.at_
  · simp only [if_pos h0] at h ⊢
    exact Zid r n q h
  · simp only [if_neg h0] at h ⊢
    by_cases h1:u.trim=true
    · simp only [if_pos h1] at h ⊢
      by_cases h2:n=0
      · simp only [if_pos h2] at h ⊢
        simp
        omega
      · simp only [if_neg h2] at h ⊢
        have:=Zid r (n-1) (q+1) (by simpa using h)
        simp only [List.getD_cons_succ]
        omega
    · simp only [if_neg h1] at h ⊢
      by_cases h2:u.b.length≤n
      · simp only [if_pos h2] at h ⊢
        have:=Zid r (n-u.b.length) (q+u.b.length) h
        omega
      · simp only [if_neg h2] at h ⊢
        have:=Zmh r (q+u.b.length) 0 h
        omega
theorem Zic:∀(l:List Pt)(n q:Nat),n≤(apOf l).length+(trOf q l).length→n-tin l n≤(apOf l).length
 | [],n,_,h=>by simp [apOf,trOf] at h;simp [tin,apOf,h]
 | u :: r,n,q,h=>by
  unfold tin
  unfold apOf trOf at h
  unfold apOf
  by_cases h0:0≤u.at_
  · simp only [if_pos h0] at h ⊢
    exact Zic r n q h
  · simp only [if_neg h0] at h ⊢
    by_cases h1:u.trim=true
    · simp only [if_pos h1] at h ⊢
      by_cases h2:n=0
      · simp only [if_pos h2];omega
      · simp only [if_neg h2]
        have:=Zic r (n-1) (q+1) (by simp only [List.length_cons] at h;omega)
        omega
    · simp only [if_neg h1] at h ⊢
      by_cases h2:u.b.length≤n
      · simp only [if_pos h2]
        have:=Zic r (n-u.b.length) (q+u.b.length) (by simp only [List.length_append] at h;omega)
        simp only [List.length_append]
        have:=ZaT r (n-u.b.length)
        omega
      · simp only [if_neg h2,List.length_append];omega
theorem ZhE:∀(l:List Pt)(n q b:Nat),lpl b l n=if tin l n=0 then b else ((trOf q l).getD (tin l n-1) tmD).place
 | [],_,_,_=>by simp [lpl,tin]
 | u :: r,n,q,b=>by
  unfold lpl tin trOf
  by_cases h0:0≤u.at_
  · simp only [if_pos h0]
    exact ZhE r n q b
  · simp only [if_neg h0]
    by_cases h1:u.trim=true
    · simp only [if_pos h1]
      by_cases h2:n=0
      · simp only [if_pos h2];simp
      · simp only [if_neg h2]
        rw [ZhE r (n-1) (q+1) u.to.toNat]
        by_cases h3:tin r (n-1)=0
        · rw [if_pos h3,h3,if_neg (by omega)];simp
        · rw [if_neg h3,if_neg (by omega)]
          obtain⟨z,hz⟩:∃z,tin r (n-1)=z+1:=⟨tin r (n-1)-1,by omega⟩
          rw [hz]
          simp
    · simp only [if_neg h1]
      by_cases h2:u.b.length≤n
      · simp only [if_pos h2]
        exact ZhE r _ _ b
      · simp only [if_neg h2];simp
theorem Zc1 (h0:¬0≤u.at_)(h1:¬u.trim=true)(hb:0<u.b.length)(n:Nat):u.size=u.b.length∧(u.first (n:Int)).2=decide (0<n)∧(0<n→u.first (n:Int)=(⟨u.at_,u.b.take n,u.trim,u.to⟩,true)):=by
 (have hs:u.size=u.b.length:=by unfold Pt.size;rw [if_pos ⟨by omega,by simpa using h1⟩]);refine⟨hs,?_,?_⟩
 · unfold Pt.first;rw [hs];by_cases h2:u.b.length≤n
   · rw [if_pos (by omega)];simp;omega
   · rw [if_neg (by omega)];by_cases h3:n=0
     · rw [if_pos (.inl (by omega))];simp [h3]
     · rw [if_neg (by rintro (a | a | a);(· omega);(· exact h0 a);(· exact h1 a))];simp;omega
 · intro hn;unfold Pt.first;rw [hs];by_cases h2:u.b.length≤n
   · rw [if_pos (by omega),List.take_of_length_le h2];have:decide (0<u.b.length)=true:=decide_eq_true hb;rw [this]
   · rw [if_neg (by omega),if_neg (by rintro (a | a | a);(· omega);(· exact h0 a);(· exact h1 a))];simp
theorem Zbo (h1:u.trim=true)(n:Nat):u.size=1∧u.first (n:Int)=(u,decide (0<n)):=by
 (have hs:u.size=1:=by unfold Pt.size;rw [if_neg (by rintro ⟨_,a⟩;rw [h1] at a;cases a)]);refine⟨hs,?_⟩;unfold Pt.first;rw [hs];by_cases h2:n=0
 · subst h2;rw [if_neg (by omega),if_pos (.inl (by omega))];simp
 · rw [if_pos (by omega)];simp;omega
theorem Zce (u:Pt):(u.first ((0:Nat):Int)).2=false:=by
 unfold Pt.first;split
 · simp;omega
 · rw [if_pos (.inl (by omega))]
theorem ZdL:∀(l:List Pt)(b:Nat),lpl b l 0=b
 | [],_=>rfl
 | u :: r,b=>by
  unfold lpl
  split
  · exact ZdL r b
  · split
    · rfl
    · split
      · rw [Nat.zero_sub];exact ZdL r b
      · rfl
theorem Zif (l:List Pt):tin l 0=0:=Nat.le_zero.1 (ZaT l 0)
theorem Zcv (h0:0≤u.at_)(hb:u.b.length=128):d.turn u=⟨splice d.pg (128*u.at_.toNat) u.b,d.base,d.st⟩:=by
 unfold Dk.turn splice;rw [if_pos h0,hb]
theorem Zcd (bs:List Bool):∀(l:List Pt)(x:Dk)(k:Nat),(∀u∈l,0≤u.at_→u.b.length=128)→Zar bs l x k ((0:Nat):Int)=⟨keepW bs k (wrOf l) x.pg,x.base,x.st⟩
 | [],_,_,_=>rfl
 | u :: r,x,k,hs=>by
  have hs':∀u∈r,0≤u.at_→u.b.length=128:=fun x hx=>hs x (by simp [hx])
  unfold Zar wrOf
  by_cases h0:0≤u.at_
  · rw [if_pos h0,if_pos h0,Zcd bs r _ (k+1) hs']
    simp only [keepW]
    split
    · rw [Zcv h0 (hs u (by simp) h0)]
    · rfl
  · rw [if_neg h0,if_neg h0,Zce u,if_neg (by decide)]
    have:(if (((0:Nat):Int))<(u.size:Int) then (0:Int) else ((0:Nat):Int)-(u.size:Int))=((0:Nat):Int):=by split <;> omega
    rw [this]
    exact Zcd bs r x k hs'
theorem crash_is (bs:List Bool)(kb:Nat)(ks:List Nat):∀(l:List Pt)(pg P:List Nat)(b k n:Nat),
    (∀u∈l,0≤u.at_→u.b.length=128)→kb≤b→b-kb≤(ks ++ P).length→svalid (b,(ks ++ P).drop (b-kb)) l →
    Zar bs l ⟨pg,(b:Int),(ks ++ P).drop (b-kb)⟩ k (n:Int)=⟨keepW bs k (wrOf l) pg,((lpl b l n:Nat):Int),(ks ++ P ++ (apOf l).take (n-tin l n)).drop (lpl b l n-kb)⟩∧kb≤lpl b l n∧lpl b l n-kb≤(ks ++ P ++ (apOf l).take (n-tin l n)).length
  | [],pg,P,b,k,n,_,h1,h2,_=>by
   simp only [Zar,wrOf,keepW,lpl,apOf,List.take_nil,List.append_nil]
   exact⟨trivial,h1,h2⟩
  | u :: r,pg,P,b,k,n,hs,h1,h2,hv=>by
   obtain⟨v1,v2,v3⟩:=hv
   have hs':∀u∈r,0≤u.at_→u.b.length=128:=fun x hx=>hs x (by simp [hx])
   by_cases h0:0≤u.at_
   · have ab:sturn (b,(ks ++ P).drop (b-kb)) u=(b,(ks ++ P).drop (b-kb)):=by unfold sturn;rw [if_pos h0]
     rw [ab] at v3
     have hb:=hs u (by simp) h0
     have hc:Zar bs (u :: r) ⟨pg,(b:Int),(ks ++ P).drop (b-kb)⟩ k (n:Int)=Zar bs r ⟨if hit bs k=true then splice pg (128*u.at_.toNat) u.b else pg,(b:Int),(ks ++ P).drop (b-kb)⟩ (k+1) (n:Int):=by
      conv=>lhs;unfold Zar
      rw [if_pos h0];congr 1;split
      · unfold Dk.turn splice;rw [if_pos h0,hb]
      · rfl
     rw [hc];unfold wrOf lpl tin apOf;simp only [if_pos h0,keepW];exact crash_is bs kb ks r _ P b (k+1) n hs' h1 h2 v3
   · by_cases ht:u.trim=true
     · obtain⟨f1,f2⟩:=Zbo ht n;obtain⟨t0,t1,t2⟩:=v1 (by omega) ht;have ab:sturn (b,(ks ++ P).drop (b-kb)) u=(u.to.toNat,(ks ++ P).drop (u.to.toNat-kb)):=by
        unfold sturn;rw [if_neg h0,if_pos ht];simp only [List.drop_drop];simp only at t1;congr 2;omega
       rw [ab] at v3;simp only [List.length_drop] at t1 t2;by_cases hn:n=0
       · subst hn;rw [Zcd bs _ _ _ hs,ZdL,Zif];simp only [Nat.sub_zero,List.take_zero,List.append_nil];exact⟨trivial,h1,h2⟩
       · have hc:Zar bs (u :: r) ⟨pg,(b:Int),(ks ++ P).drop (b-kb)⟩ k (n:Int)=Zar bs r ⟨pg,(u.to.toNat:Int),(ks ++ P).drop (u.to.toNat-kb)⟩ k ((n-1:Nat):Int):=by
          conv=>lhs;unfold Zar
          rw [if_neg h0,f2,f1,if_pos (decide_eq_true (by omega)),if_neg (by omega)];congr 1
          · unfold Dk.turn;rw [if_neg h0,if_pos ht];simp only [List.drop_drop];congr 1
            · omega
            · congr 1;omega
          · omega
         rw [hc];unfold wrOf lpl tin apOf;simp only [if_neg h0,if_pos ht,if_neg hn];have:=crash_is bs kb ks r pg P u.to.toNat k (n-1) hs' (by omega) (by omega) v3;rw [show n-1-tin r (n-1)=n-(tin r (n-1)+1) by omega] at this;exact this
     · have ac:=v2 (by omega) (by simpa using ht);obtain⟨f1,f2,f3⟩:=Zc1 h0 ht ac n;have ab:sturn (b,(ks ++ P).drop (b-kb)) u=(b,(ks ++ (P ++ u.b)).drop (b-kb)):=by
        unfold sturn;rw [if_neg h0,if_neg ht,← List.append_assoc,List.drop_append_of_le_length h2]
       rw [ab] at v3;by_cases ad:n=0
       · subst ad;rw [Zcd bs _ _ _ hs,ZdL,Zif];simp only [Nat.sub_zero,List.take_zero,List.append_nil];exact⟨trivial,h1,h2⟩
       · by_cases aa:u.b.length≤n
         · have hc:Zar bs (u :: r) ⟨pg,(b:Int),(ks ++ P).drop (b-kb)⟩ k (n:Int)=Zar bs r ⟨pg,(b:Int),(ks ++ (P ++ u.b)).drop (b-kb)⟩ k ((n-u.b.length:Nat):Int):=by
            conv=>lhs;unfold Zar
            rw [if_neg h0,f3 (by omega),if_pos rfl,f1,if_neg (by omega)];congr 1
            · unfold Dk.turn;simp only;rw [if_neg h0,if_neg ht,List.take_of_length_le aa,← List.append_assoc,List.drop_append_of_le_length h2]
            · omega
           rw [hc];unfold wrOf lpl tin apOf;simp only [if_neg h0,if_neg ht,if_pos aa];have:=crash_is bs kb ks r pg (P ++ u.b) b k (n-u.b.length) hs' h1 (by rw [← List.append_assoc,List.length_append];omega) v3;have e:ks ++ (P ++ u.b) ++ (apOf r).take (n-u.b.length-tin r (n-u.b.length))=ks ++ P ++ (u.b ++ apOf r).take (n-tin r (n-u.b.length)):=by
            have ae:=ZaT r (n-u.b.length);rw [List.take_append,List.take_of_length_le (by omega:u.b.length≤n-tin r (n-u.b.length))];simp only [List.append_assoc];congr 4;omega
           rw [e] at this;exact this
         · have hc:Zar bs (u :: r) ⟨pg,(b:Int),(ks ++ P).drop (b-kb)⟩ k (n:Int)=Zar bs r ⟨pg,(b:Int),(ks ++ P ++ u.b.take n).drop (b-kb)⟩ k ((0:Nat):Int):=by
            conv=>lhs;unfold Zar
            rw [if_neg h0,f3 (by omega),if_pos rfl,f1,if_pos (by omega)];congr 1;unfold Dk.turn;simp only;rw [if_neg h0,if_neg ht,List.drop_append_of_le_length h2]
           (have w1:wrOf (u :: r)=wrOf r:=by show (if 0≤u.at_ then _ else _)=_;rw [if_neg h0]);(have w2:lpl b (u :: r) n=b:=by show (if 0≤u.at_ then _ else _)=_;rw [if_neg h0,if_neg ht,if_neg aa]);(have w3:tin (u :: r) n=0:=by show (if 0≤u.at_ then _ else _)=_;rw [if_neg h0,if_neg ht,if_neg aa]);(have w4:apOf (u :: r)=u.b ++ apOf r:=by show (if 0≤u.at_ then _ else _)=_;rw [if_neg h0,if_neg ht]);rw [hc,Zcd bs _ _ _ hs',w1,w2,w3,w4,Nat.sub_zero,List.take_append_of_le_length (by omega)];exact⟨rfl,h1,by rw [List.length_append];omega⟩
theorem Zcw:∀(l m:List Pt),wrOf (l ++ m)=wrOf l ++ wrOf m
 | [],m=>rfl
 | u :: r,m=>by simp only [List.cons_append,wrOf];split <;> simp [Zcw r m]
theorem ZbN:∀(l m:List Pt),apOf (l ++ m)=apOf l ++ apOf m
 | [],m=>rfl
 | u :: r,m=>by simp only [List.cons_append,apOf];split <;> (try split) <;> simp [ZbN r m]
theorem Zb2:∀(l m:List Pt)(q:Nat),trOf q (l ++ m)=trOf q l ++ trOf (q+((apOf l).length+(trOf 0 l).length)) m
 | [],m,q=>by simp [trOf,apOf]
 | u :: r,m,q=>by
  simp only [List.cons_append,trOf,apOf]
  split
  · exact Zb2 r m q
  · split
    · simp only [List.cons_append,List.length_cons]
      rw [Zb2 r m (q+1),Zbm r (0+1) 0]
      congr 3
      omega
    · rw [Zb2 r m (q+u.b.length),Zbm r (0+u.b.length) 0,List.length_append]
      congr 2
      omega
inductive Uok (n:Nat) (d:Dk) (u:Pt):Prop
  | sec (h0:0≤u.at_) (hb:u.b.length=128) (hl:128*u.at_.toNat+128≤512*n) (ht:u.trim=false) (hto:u.to=0) (hx:Bytes u.b)
  | app (h0:u.at_ = -1) (ht:u.trim=false) (hb:u.b.length≤4000) (hto:u.to=0) (hx:Bytes u.b)
  | cut (h0:u.at_ = -1) (ht:u.trim=true) (hb:u.b=[]) (h1:d.base≤u.to) (h2:u.to-d.base≤d.st.length)
structure Pok (n:Nat) (u:Pt):Prop where
  sec:0≤u.at_→u.b.length=128∧128*u.at_.toNat+128≤512*n
  b:u.b.length≤4000
  to:0≤u.to∧u.to≤40000
  byt:Bytes u.b
structure Good (n tot m:Nat) (A:Da):Prop where
  np:A.now.pg.length=512*n
  kp:A.kept.pg.length=512*n
  nb0:0≤A.now.base
  kb0:0≤A.kept.base
  nt:A.now.base.toNat+A.now.st.length≤tot
  kt:A.kept.base.toNat+A.kept.st.length+(apOf A.done).length≤tot
  valid:svalid (A.kept.base.toNat,A.kept.st) A.done
  fold1:A.gone=false→A.done.foldl Dk.turn A.kept=A.now
  fold2:A.gone=false→A.done.foldl sturn (A.kept.base.toNat,A.kept.st)=(A.now.base.toNat,A.now.st)
  parts:∀u∈A.done,Pok n u
  len:A.done.length≤m
  mx:A.armed≤9223372036854775807
theorem ZiU (h:Uok n d u)(hp:d.pg.length=512*n)(h0:0≤d.base)(ht:d.base.toNat+d.st.length≤tot) :
    (d.turn u).pg.length=512*n∧0≤(d.turn u).base∧(d.turn u).base.toNat+(d.turn u).st.length≤tot+(apOf [u]).length∧sturn (d.base.toNat,d.st) u=((d.turn u).base.toNat,(d.turn u).st):=by
  cases h with
  | sec a b c e f g =>
   unfold Dk.turn sturn;rw [if_pos a,if_pos a];refine⟨?_,h0,?_,rfl⟩
   · simp only [List.length_append,List.length_take,List.length_drop];omega
   · show d.base.toNat+d.st.length≤_;omega
  | app a b c e f =>
   (have ha:¬0≤u.at_:=by omega);(have hb:¬u.trim=true:=by rw [b];decide);unfold Dk.turn sturn;simp only [apOf,if_neg ha,if_neg hb];refine⟨hp,h0,?_,trivial⟩;simp only [List.length_append,List.length_nil];omega
  | cut a b c e f =>
   (have ha:¬0≤u.at_:=by omega);unfold Dk.turn sturn;simp only [apOf,if_neg ha,if_pos b];refine⟨hp,by omega,?_,?_⟩
   · simp only [List.length_drop];omega
   · congr 2;omega
theorem ZgN (h:Uok n d u)(h0:0≤d.base)(ht:d.base.toNat+d.st.length≤tot)(aa:tot≤40000)(x:Nat) :
    ((u.first (x:Int)).2=true→Pok n (u.first (x:Int)).1∧svalid (d.base.toNat,d.st) [(u.first (x:Int)).1]∧(apOf [(u.first (x:Int)).1]).length≤(apOf [u]).length) ∧
    ((u.first (u.size:Int)).2=true→(u.first (u.size:Int)).1=u)∧((u.first (u.size:Int)).2=false→d.turn u=d):=by
  cases h with
  | sec a b c e f g =>
   (have hs:u.size=1:=by unfold Pt.size;rw [if_neg (by rintro ⟨z,_⟩;omega)]);have hf:(u.first (x:Int)).1=u:=by
    unfold Pt.first;split
    · rfl
    · rw [if_pos (.inr (.inl a))]
   have h1:u.first (u.size:Int)=(u,true):=by
    unfold Pt.first;rw [if_pos (Int.le_refl _),hs];rfl
   rw [hf,h1];refine⟨fun _=>⟨⟨fun _=>⟨b,c⟩,by omega,by omega,g⟩,?_,Nat.le_refl _⟩,fun _=>rfl,fun z=>by cases z⟩;exact⟨fun z=>by omega,fun z=>by omega,trivial⟩
  | app a b c e f =>
   (have ha:¬0≤u.at_:=by omega);(have hb:¬u.trim=true:=by rw [b];decide);(have hs:u.size=u.b.length:=by unfold Pt.size;rw [if_pos ⟨by omega,b⟩]);by_cases hl:0<u.b.length
   · obtain⟨_,f2,f3⟩:=Zc1 ha hb hl x;obtain⟨_,g2,g3⟩:=Zc1 ha hb hl u.size;refine⟨fun z=>?_,fun z=>?_,fun z=>?_⟩
     · rw [f2] at z;have hx:=of_decide_eq_true z;rw [f3 hx];refine⟨⟨fun z=>absurd z ha,by simp only [List.length_take];omega,by simp only;omega,f.take _⟩,?_,?_⟩
       · exact⟨fun _ z=>absurd z hb,fun _ _=>by simp only [List.length_take];omega,trivial⟩
       · simp only [apOf,if_neg ha,if_neg hb,List.length_append,List.length_take,List.length_nil];omega
     · rw [g3 (by omega),hs,List.take_of_length_le (Nat.le_refl _)]
     · rw [g2] at z;have:=of_decide_eq_false z;omega
   · have hn:u.b=[]:=List.length_eq_zero_iff.1 (by omega);have hz:∀y:Nat,(u.first (y:Int)).2=false:=by
      intro y;unfold Pt.first;rw [if_pos (by omega)];simp;omega
     rw [hz,hz];refine⟨(fun z=>by cases z),(fun z=>by cases z),fun _=>?_⟩;unfold Dk.turn;rw [if_neg ha,if_neg hb,hn,List.append_nil]
  | cut a b c e f =>
   obtain⟨hs,f2⟩:=Zbo b x;obtain⟨_,g2⟩:=Zbo b u.size;rw [f2,g2];simp only;refine⟨fun _=>⟨⟨fun z=>by omega,by rw [c];exact Nat.zero_le _,by omega,by rw [c];intro y hy;cases hy⟩,?_,Nat.le_refl _⟩,fun _=>trivial,fun z=>?_⟩
   · refine⟨fun _ _=>⟨by omega,by simp only;omega,by simp only;omega⟩,fun _ z=>?_,trivial⟩;rw [b] at z;cases z
   · have:=of_decide_eq_false z;omega
theorem Good.act (h:Good n tot m A)(u:Pt)(hu:Uok n A.now u)(ht:tot≤40000):Good n (tot+(apOf [u]).length) (m+1) (A.act u):=by
 obtain⟨t1,t2,t3,t4⟩:=ZiU hu h.np h.nb0 h.nt;obtain⟨x,hx⟩:∃x:Nat,A.units u=(x:Int):=by
  unfold Da.units;split
  · exact⟨A.armed.toNat,by omega⟩
  · exact⟨u.size,rfl⟩
 obtain⟨f1,f2,f3⟩:=ZgN hu h.nb0 h.nt ht x;have ac:=A.act_armed u h.mx;have ad:=A.act_done u;by_cases hg:A.gone=true
 · (have e:A.act u=⟨A.kept,A.now.turn u,A.done,true,A.armed⟩:=by unfold Da.act;rw [if_pos hg]);rw [e] at ac ad ⊢;exact⟨t1,h.kp,t2,h.kb0,t3,Nat.le_trans h.kt (Nat.le_add_right _ _),h.valid,(fun z=>by cases z),(fun z=>by cases z),h.parts,by have:=h.len;show A.done.length≤_;omega,ac⟩
 · (have ab:A.gone=false:=by simpa using hg);have e:A.act u=⟨A.kept,A.now.turn u,if (u.first (x:Int)).2=true then A.done ++ [(u.first (x:Int)).1] else A.done,decide (0≤A.armed∧A.armed<(u.size:Int)),if 0≤A.armed then A.armed-(x:Int) else A.armed⟩:=by
    unfold Da.act;rw [if_neg hg,hx]
   have aa:decide (0≤A.armed∧A.armed<(u.size:Int))=false→(x:Int)=(u.size:Int):=by
    intro z;have z':=of_decide_eq_false z;rw [← hx];unfold Da.units;rw [if_neg z']
   rw [e] at ac ad ⊢;have hv:=h.valid;have hk:=h.kt;have hl:=h.len;by_cases hs:(u.first (x:Int)).2=true
   · obtain⟨p1,p2,p3⟩:=f1 hs;rw [if_pos hs] at ad ⊢;refine⟨t1,h.kp,t2,h.kb0,t3,?_,?_,fun z=>?_,fun z=>?_,?_,by simp only [List.length_append,List.length_singleton];omega,ac⟩
     · show _+(apOf (A.done ++ _)).length≤_;rw [ZbN,List.length_append];show A.kept.base.toNat+A.kept.st.length+_≤_;omega
     · show svalid _ (A.done ++ _);rw [Zdt];refine⟨hv,?_⟩;rw [h.fold2 ab];exact p2
     · have z':=aa z;rw [z'] at hs ⊢;show (A.done ++ _).foldl _ _=_;rw [List.foldl_append,h.fold1 ab,f2 hs];rfl
     · have z':=aa z;rw [z'] at hs ⊢;show (A.done ++ _).foldl _ _=_;rw [List.foldl_append,h.fold2 ab,f2 hs];exact t4
     · intro v hv';rcases List.mem_append.1 hv' with h1 | h1
       · exact h.parts v h1
       · rw [List.mem_singleton.1 h1];exact p1
   · rw [if_neg hs] at ad ⊢;(have ae:(u.first (x:Int)).2=false:=by simpa using hs);refine⟨t1,h.kp,t2,h.kb0,t3,Nat.le_trans hk (Nat.le_add_right _ _),hv,fun z=>?_,fun z=>?_,h.parts,by show A.done.length≤_;omega,ac⟩
     · rw [aa z] at ae;show A.done.foldl _ _=A.now.turn u;rw [f3 ae,h.fold1 ab]
     · rw [aa z] at ae;show A.done.foldl _ _=((A.now.turn u).base.toNat,(A.now.turn u).st);rw [f3 ae,h.fold2 ab]
theorem lt1:(-1:Int)<0:=by decide
theorem neg1:¬(0:Int) ≤ -1:=by decide
theorem nff:¬false=true:=by decide
structure Pw (D:Ds) (A:Da):Prop where
  gone:D.gone=A.gone
  armed:A.gone=false→D.armed=decide (0≤A.armed)
  left:A.gone=false→0≤A.armed→D.left=A.armed
  hl:D.armed=true→0≤D.left∧D.left≤9223372036854775807
structure Rel (D:Ds) (A:Da):Prop where
  sp:D.sp=A.now.pg
  sb:D.sb=A.now.base.toNat
  ss:D.ss=A.now.st
  kp:D.kp=A.kept.pg
  kb:D.kb=A.kept.base.toNat
  ks:D.ks=A.kept.st
  wr:D.wr=wrOf A.done
  ap:D.ap=apOf A.done
  tr:D.tr=trOf 0 A.done
  pw:Pw D A
theorem Pw.of {E:Ds}(h:Pw D A)(h1:E.gone=D.gone)(h2:E.armed=D.armed)(h3:E.left=D.left):Pw E A:=
 ⟨h1.trans h.gone,fun z=>h2.trans (h.armed z),fun z y=>h3.trans (h.left z y),fun z=>by rw [h3];exact h.hl (h2 ▸ z)⟩
theorem ZaR (D:Ds)(k:Nat):(D.spend k).sp=D.sp∧(D.spend k).sb=D.sb∧(D.spend k).ss=D.ss∧(D.spend k).kp=D.kp∧(D.spend k).kb=D.kb∧(D.spend k).ks=D.ks∧(D.spend k).wr=D.wr∧(D.spend k).ap=D.ap∧(D.spend k).tr=D.tr:=by
 unfold Ds.spend;split
 · exact⟨rfl,rfl,rfl,rfl,rfl,rfl,rfl,rfl,rfl⟩
 · split
   · exact⟨rfl,rfl,rfl,rfl,rfl,rfl,rfl,rfl,rfl⟩
   · split <;> exact ⟨rfl,rfl,rfl,rfl,rfl,rfl,rfl,rfl,rfl⟩
theorem spend_same {E:Ds}(h1:E.gone=D.gone)(h2:E.armed=D.armed)(h3:E.left=D.left)(k:Nat):E.spent k=D.spent k∧(E.spend k).gone=(D.spend k).gone∧(E.spend k).armed=(D.spend k).armed∧(E.spend k).left=(D.spend k).left:=by
 unfold Ds.spent Ds.spend;rw [h1,h2,h3];refine⟨rfl,?_⟩;split
 · exact⟨h1,h2,h3⟩
 · split
   · exact⟨h1,h2,h3⟩
   · split
     · exact⟨rfl,rfl,rfl⟩
     · exact⟨rfl,rfl,rfl⟩
theorem Pw.act (h:Pw D A)(u:Pt):Pw (D.spend u.size) (A.act u)∧(A.act u).done=if (u.first ((D.spent u.size:Nat):Int)).2=true then A.done ++ [(u.first ((D.spent u.size:Nat):Int)).1] else A.done:=by
 have hl:=h.hl;by_cases hg:A.gone=true
 · have hg':D.gone=true:=h.gone.trans hg;(have e:A.act u=⟨A.kept,A.now.turn u,A.done,true,A.armed⟩:=by unfold Da.act;rw [if_pos hg]);(have e1:D.spend u.size=D:=by unfold Ds.spend;rw [if_pos hg']);(have e2:D.spent u.size=0:=by unfold Ds.spent;rw [if_pos hg']);rw [e,e1,e2,Zce u];exact⟨⟨hg',(fun z=>by cases z),(fun z=>by cases z),hl⟩,rfl⟩
 · (have ac:A.gone=false:=by simpa using hg);(have aa:¬D.gone=true:=by rw [h.gone];exact hg);have ha:=h.armed ac;by_cases h0:0≤A.armed
   · have hL:=h.left ac h0;rw [decide_eq_true h0] at ha;(have ha':¬D.armed=false:=by rw [ha];decide);obtain⟨l0,l1⟩:=hl ha;by_cases hs:A.armed<(u.size:Int)
     · (have e1:D.spend u.size = { D with left:=0,gone:=true }:=by unfold Ds.spend;rw [if_neg aa,if_neg ha',if_pos (by omega)]);(have e2:((D.spent u.size:Nat):Int)=A.armed:=by unfold Ds.spent;rw [if_neg aa,if_neg ha',if_pos (by omega)];omega);(have ab:A.units u=A.armed:=by unfold Da.units;rw [if_pos ⟨h0,hs⟩]);rw [e1,e2];unfold Da.act;rw [if_neg hg,ab,decide_eq_true (show 0≤A.armed∧A.armed<(u.size:Int) from ⟨h0,hs⟩)];exact⟨⟨rfl,(fun z=>by cases z),(fun z=>by cases z),fun _=>⟨Int.le_refl _,show (0:Int)≤9223372036854775807 by decide⟩⟩,rfl⟩
     · (have e1:D.spend u.size = { D with left:=D.left-(u.size:Int) }:=by unfold Ds.spend;rw [if_neg aa,if_neg ha',if_neg (by omega)]);(have e2:D.spent u.size=u.size:=by unfold Ds.spent;rw [if_neg aa,if_neg ha',if_neg (by omega)]);(have ab:A.units u=(u.size:Int):=by unfold Da.units;rw [if_neg (by omega)]);rw [e1,e2];unfold Da.act;rw [if_neg hg,ab,decide_eq_false (show ¬(0≤A.armed∧A.armed<(u.size:Int)) by omega),if_pos h0];refine⟨⟨h.gone.trans ac,fun _=>?_,fun _ _=>?_,fun _=>⟨?_,?_⟩⟩,rfl⟩
       · show D.armed=decide (0≤A.armed-(u.size:Int));rw [ha,decide_eq_true (by omega)]
       · show D.left-_=A.armed-_;omega
       · show 0≤D.left-(u.size:Int);omega
       · show D.left-(u.size:Int)≤_;omega
   · rw [decide_eq_false h0] at ha;(have e1:D.spend u.size=D:=by unfold Ds.spend;rw [if_neg aa,if_pos ha]);(have e2:D.spent u.size=u.size:=by unfold Ds.spent;rw [if_neg aa,if_pos ha]);(have ab:A.units u=(u.size:Int):=by unfold Da.units;rw [if_neg (by omega)]);rw [e1,e2];unfold Da.act;rw [if_neg hg,ab,decide_eq_false (show ¬(0≤A.armed∧A.armed<(u.size:Int)) by omega),if_neg h0];refine⟨⟨h.gone.trans ac,fun _=>?_,fun _ z=>absurd z h0,fun z=>?_⟩,rfl⟩
     · show D.armed=decide (0≤A.armed);rw [ha,decide_eq_false h0]
     · rw [ha] at z;cases z
theorem Da.act_kept (A:Da)(u:Pt):(A.act u).kept=A.kept:=by unfold Da.act;split <;> rfl
theorem Rel.append (h:Rel D A)(b:List Nat):Rel (D.append b) (A.act ⟨-1,b,false,0⟩):=by
 obtain⟨p1,p2⟩:=h.pw.act ⟨-1,b,false,0⟩;(have hs:Pt.size ⟨-1,b,false,0⟩=b.length:=by unfold Pt.size;rw [if_pos ⟨lt1,rfl⟩]);rw [hs] at p1 p2;obtain⟨s1,s2,s3,s4,s5,s6,s7,s8,s9⟩:=ZaR D b.length;(have ht:A.now.turn ⟨-1,b,false,0⟩=⟨A.now.pg,A.now.base,A.now.st ++ b⟩:=by unfold Dk.turn;rw [if_neg neg1,if_neg nff]);have hd:wrOf (A.act ⟨-1,b,false,0⟩).done=wrOf A.done∧apOf (A.act ⟨-1,b,false,0⟩).done=apOf A.done ++ b.take (D.spent b.length)∧trOf 0 (A.act ⟨-1,b,false,0⟩).done=trOf 0 A.done:=by
  rw [p2];by_cases hz:0<D.spent b.length∧0<b.length
  · obtain⟨_,f2,f3⟩:=Zc1 (u:=⟨-1,b,false,0⟩) neg1 nff hz.2 (D.spent b.length);rw [f3 hz.1,if_pos rfl,Zcw,ZbN,Zb2];simp [wrOf,apOf,trOf]
  · have hf:(Pt.first ⟨-1,b,false,0⟩ ((D.spent b.length:Nat):Int)).2=false:=by
     by_cases hb:0<b.length
     · rw [show D.spent b.length=0 by omega];exact Zce _
     · unfold Pt.first;rw [if_pos (by rw [hs];omega)];simp only [hs];exact decide_eq_false hb
    rw [hf,if_neg (by decide)];have:b.take (D.spent b.length)=[]:=by
     apply List.length_eq_zero_iff.1;rw [List.length_take];omega
    rw [this,List.append_nil];exact⟨rfl,rfl,rfl⟩
 refine⟨?_,?_,?_,?_,?_,?_,?_,?_,?_,p1.of rfl rfl rfl⟩
 · rw [Da.act_now,ht];exact s1.trans h.sp
 · rw [Da.act_now,ht];exact s2.trans h.sb
 · rw [Da.act_now,ht];show D.ss ++ b=A.now.st ++ b;rw [h.ss]
 · rw [Da.act_kept];exact s4.trans h.kp
 · rw [Da.act_kept];exact s5.trans h.kb
 · rw [Da.act_kept];exact s6.trans h.ks
 · rw [hd.1];exact s7.trans h.wr
 · rw [hd.2.1];show D.ap ++ _=_;rw [h.ap]
 · rw [hd.2.2];exact s9.trans h.tr
theorem Rel.trim (h:Rel D A)(ac:0≤A.now.base)(pl:Nat):Rel (D.trim pl) (A.act ⟨-1,[],true,(pl:Int)⟩):=by
 have aa:Pw (D.trim0 pl) A:=h.pw.of rfl rfl rfl;obtain⟨p1,p2⟩:=aa.act ⟨-1,[],true,(pl:Int)⟩;(have hs:Pt.size ⟨-1,[],true,(pl:Int)⟩=1:=by unfold Pt.size;rw [if_neg (by rintro ⟨_,z⟩;cases z)]);rw [hs] at p1 p2;obtain⟨s1,s2,s3,s4,s5,s6,s7,s8,s9⟩:=ZaR (D.trim0 pl) 1;(have ht:A.now.turn ⟨-1,[],true,(pl:Int)⟩=⟨A.now.pg,(pl:Int),A.now.st.drop ((pl:Int)-A.now.base).toNat⟩:=by unfold Dk.turn;rw [if_neg neg1,if_pos rfl]);obtain⟨_,f2⟩:=Zbo (u:=⟨-1,[],true,(pl:Int)⟩) rfl ((D.trim0 pl).spent 1);rw [f2] at p2;simp only at p2;have ad:(D.trim0 pl).spent 1≤1:=by
  unfold Ds.spent;split
  · omega
  · split
    · omega
    · split <;> omega
 (have ab:D.units=(apOf A.done).length+(trOf 0 A.done).length:=by unfold Ds.units;rw [h.ap,h.tr]);unfold Ds.trim;by_cases h1:(D.trim0 pl).spent 1=1
 · rw [if_pos h1];rw [h1,if_pos (by decide)] at p2;refine⟨?_,?_,?_,?_,?_,?_,?_,?_,?_,p1.of rfl rfl rfl⟩
   · rw [Da.act_now,ht];exact s1.trans h.sp
   · rw [Da.act_now,ht];exact s2
   · rw [Da.act_now,ht];refine s3.trans ?_;show D.ss.drop (pl-D.sb)=A.now.st.drop _;rw [h.ss,h.sb];congr 1;omega
   · rw [Da.act_kept];exact s4.trans h.kp
   · rw [Da.act_kept];exact s5.trans h.kb
   · rw [Da.act_kept];exact s6.trans h.ks
   · rw [p2,Zcw];refine s7.trans ?_;show D.wr=_;rw [h.wr];simp [wrOf]
   · rw [p2,ZbN];refine s8.trans ?_;show D.ap=_;rw [h.ap];simp [apOf]
   · rw [p2,Zb2];show D.tr ++ [⟨D.units,pl⟩]=_;rw [h.tr,ab];simp [trOf]
 · rw [if_neg h1];rw [show (D.trim0 pl).spent 1=0 by omega,if_neg (by decide)] at p2;refine⟨?_,?_,?_,?_,?_,?_,?_,?_,?_,p1⟩
   · rw [Da.act_now,ht];exact s1.trans h.sp
   · rw [Da.act_now,ht];exact s2
   · rw [Da.act_now,ht];refine s3.trans ?_;show D.ss.drop (pl-D.sb)=A.now.st.drop _;rw [h.ss,h.sb];congr 1;omega
   · rw [Da.act_kept];exact s4.trans h.kp
   · rw [Da.act_kept];exact s5.trans h.kb
   · rw [Da.act_kept];exact s6.trans h.ks
   · rw [p2];exact s7.trans h.wr
   · rw [p2];exact s8.trans h.ap
   · rw [p2];exact s9.trans h.tr
theorem ZkA (D:Ds)(hl:D.armed=true→0≤D.left∧D.left≤9223372036854775807)(j:Nat):((D.spend j).spend 1).gone=(D.spend (j+1)).gone∧((D.spend j).spend 1).armed=(D.spend (j+1)).armed∧((D.spend j).spend 1).left=(D.spend (j+1)).left ∧
    ((D.spend j).spent 1=0∧D.spent (j+1)=D.spent j∨(D.spend j).spent 1=1∧D.spent j=j∧D.spent (j+1)=j+1):=by
  by_cases hg:D.gone=true
  · (have e:∀i,D.spend i=D:=fun i=>by unfold Ds.spend;rw [if_pos hg]);(have e2:∀i,D.spent i=0:=fun i=>by unfold Ds.spent;rw [if_pos hg]);rw [e j,e 1,e (j+1),e2,e2,e2];exact⟨rfl,rfl,rfl,.inl ⟨rfl,rfl⟩⟩
  · by_cases ha:D.armed=false
    · (have e:∀i,D.spend i=D:=fun i=>by unfold Ds.spend;rw [if_neg hg,if_pos ha]);(have e2:∀i,D.spent i=i:=fun i=>by unfold Ds.spent;rw [if_neg hg,if_pos ha]);rw [e j,e 1,e (j+1),e2,e2,e2];exact⟨rfl,rfl,rfl,.inr ⟨rfl,rfl,rfl⟩⟩
    · obtain⟨l0,_⟩:=hl (by simpa using ha);by_cases h1:D.left<(j:Int)
      · (have e1:D.spend j = { D with left:=0,gone:=true }:=by unfold Ds.spend;rw [if_neg hg,if_neg ha,if_pos h1]);(have e2:D.spend (j+1) = { D with left:=0,gone:=true }:=by unfold Ds.spend;rw [if_neg hg,if_neg ha,if_pos (by omega)]);(have e3:∀E:Ds,E.gone=true→E.spend 1=E∧E.spent 1=0:=fun E hE=>by unfold Ds.spend Ds.spent;rw [if_pos hE,if_pos hE];exact ⟨rfl,rfl⟩);(have e4:D.spent j=D.left.toNat:=by unfold Ds.spent;rw [if_neg hg,if_neg ha,if_pos h1]);(have e5:D.spent (j+1)=D.left.toNat:=by unfold Ds.spent;rw [if_neg hg,if_neg ha,if_pos (by omega)]);rw [e1,e2,(e3 _ rfl).1,(e3 _ rfl).2,e4,e5];exact⟨rfl,rfl,rfl,.inl ⟨rfl,rfl⟩⟩
      · (have e1:D.spend j = { D with left:=D.left-(j:Int) }:=by unfold Ds.spend;rw [if_neg hg,if_neg ha,if_neg h1]);(have e4:D.spent j=j:=by unfold Ds.spent;rw [if_neg hg,if_neg ha,if_neg h1]);rw [e1,e4];by_cases h2:D.left<((j+1:Nat):Int)
        · (have e2:D.spend (j+1) = { D with left:=0,gone:=true }:=by unfold Ds.spend;rw [if_neg hg,if_neg ha,if_pos h2]);(have e5:D.spent (j+1)=D.left.toNat:=by unfold Ds.spent;rw [if_neg hg,if_neg ha,if_pos h2]);(have e6:Ds.spend { D with left:=D.left-(j:Int) } 1 = { D with left:=0,gone:=true }:=by unfold Ds.spend;rw [if_neg hg,if_neg ha,if_pos (by show D.left-(j:Int)<_;omega)]);(have e7:Ds.spent { D with left:=D.left-(j:Int) } 1=0:=by unfold Ds.spent;rw [if_neg hg,if_neg ha,if_pos (by show D.left-(j:Int)<_;omega)];show (D.left-(j:Int)).toNat=0;omega);rw [e2,e5,e6,e7];exact⟨rfl,rfl,rfl,.inl ⟨rfl,by omega⟩⟩
        · (have e2:D.spend (j+1) = { D with left:=D.left-((j+1:Nat):Int) }:=by unfold Ds.spend;rw [if_neg hg,if_neg ha,if_neg h2]);(have e5:D.spent (j+1)=j+1:=by unfold Ds.spent;rw [if_neg hg,if_neg ha,if_neg h2]);(have e6:Ds.spend { D with left:=D.left-(j:Int) } 1 = { D with left:=D.left-(j:Int)-((1:Nat):Int) }:=by unfold Ds.spend;rw [if_neg hg,if_neg ha,if_neg (by show ¬D.left-(j:Int)<_;omega)]);(have e7:Ds.spent { D with left:=D.left-(j:Int) } 1=1:=by unfold Ds.spent;rw [if_neg hg,if_neg ha,if_neg (by show ¬D.left-(j:Int)<_;omega)]);rw [e2,e5,e6,e7];exact⟨rfl,rfl,by show D.left-(j:Int)-((1:Nat):Int)=D.left-((j+1:Nat):Int);omega,.inr ⟨rfl,rfl,rfl⟩⟩
theorem Zhn (pg b:List Nat)(k j:Nat)(hb:b.length=512)(hk:512*k+512≤pg.length)(hj:j<4) :
    (splice pg (512*k) (b.take (128*j))).take (128*(4*k+j)) ++ (b.drop (128*j)).take 128 ++ (splice pg (512*k) (b.take (128*j))).drop (128*(4*k+j)+128)=splice pg (512*k) (b.take (128*(j+1))):=by
  (have l1:(b.take (128*j)).length=128*j:=by rw [List.length_take];omega);(have l2:(b.take (128*(j+1))).length=128*(j+1):=by rw [List.length_take];omega);(have l3:(pg.take (512*k) ++ b.take (128*j)).length=128*(4*k+j):=by rw [List.length_append,l1,List.length_take];omega);have e1:(splice pg (512*k) (b.take (128*j))).take (128*(4*k+j))=pg.take (512*k) ++ b.take (128*j):=by
   unfold splice;rw [List.take_append_of_le_length (by omega),List.take_of_length_le (by omega)]
  have e2:(splice pg (512*k) (b.take (128*j))).drop (128*(4*k+j)+128)=pg.drop (512*k+128*(j+1)):=by
   unfold splice;rw [List.drop_append,List.drop_eq_nil_of_le (by omega),List.nil_append,List.drop_drop,l1,l3];congr 1;omega
  rw [e1,e2];unfold splice;rw [l2,show 128*(j+1)=128*j+128 by omega,List.take_add];simp only [List.append_assoc]
def Ds.part (D:Ds) (k:Nat) (b:List Nat) (j:Nat):Ds:={ D.spend j with sp:=splice D.sp (512*k) (b.take (128*j)),wr:=D.wr ++ secs (512*k) b (D.spent j) }
theorem Rel.parts (h:Rel D A)(k:Nat)(b:List Nat)(hb:b.length=512)(hk:512*k+512≤A.now.pg.length):∀j,j≤4→Rel (D.part k b j) (Za5 A k b j)
 | 0,_=>by
  obtain⟨s1,s2,s3,s4,s5,s6,s7,s8,s9⟩:=ZaR D 0
  have hz:D.spent 0=0:=by
   unfold Ds.spent;split
   · rfl
   · split
     · rfl
     · split
       · have:=h.pw.hl (by rename_i z _;simpa using z);omega
       · rfl
  have hp:Pw (D.spend 0) A:=by
   have:(D.spend 0).gone=D.gone∧(D.spend 0).armed=D.armed∧(D.spend 0).left=D.left:=by
    unfold Ds.spend;split
    · exact⟨rfl,rfl,rfl⟩
    · split
      · exact⟨rfl,rfl,rfl⟩
      · split
        · have:=h.pw.hl (by rename_i z _;simpa using z);omega
        · exact⟨rfl,rfl,by show D.left-((0:Nat):Int)=_;omega⟩
   exact h.pw.of this.1 this.2.1 this.2.2
  refine⟨?_,s2.trans h.sb,s3.trans h.ss,s4.trans h.kp,s5.trans h.kb,s6.trans h.ks,?_,s8.trans h.ap,s9.trans h.tr,hp.of rfl rfl rfl⟩
  · show splice D.sp (512*k) (b.take (128*0))=A.now.pg;rw [← h.sp];simp [splice]
  · show D.wr ++ secs (512*k) b (D.spent 0)=_;rw [hz,h.wr];simp [secs,Za5]
 | j+1,hj=>by
  have ih:=Rel.parts h k b hb hk j (by omega);obtain⟨p1,p2⟩:=ih.pw.act (secP k b j);(have ab:(0:Int)≤(secP k b j).at_:=by show (0:Int)≤((4*k+j:Nat):Int);omega);(have hs:(secP k b j).size=1:=by unfold Pt.size;rw [if_neg (by rintro ⟨z,_⟩;omega)]);rw [hs] at p1 p2;obtain⟨q1,q2,q3,q4⟩:=spend_same (D:=D.spend j) (E:=D.part k b j) rfl rfl rfl 1;obtain⟨r1,r2,r3,r4⟩:=ZkA D h.pw.hl j;have hd:wrOf ((Za5 A k b j).act (secP k b j)).done=D.wr ++ secs (512*k) b (D.spent (j+1))∧apOf ((Za5 A k b j).act (secP k b j)).done=apOf (Za5 A k b j).done∧trOf 0 ((Za5 A k b j).act (secP k b j)).done=trOf 0 (Za5 A k b j).done:=by
   have iw:D.wr ++ secs (512*k) b (D.spent j)=wrOf (Za5 A k b j).done:=ih.wr;rw [p2,q1];rcases r4 with ⟨x1,x2⟩ | ⟨x1,x2,x3⟩
   · rw [x1,Zce,if_neg nff,x2];exact⟨iw.symm,rfl,rfl⟩
   · have hf:(secP k b j).first ((1:Nat):Int)=(secP k b j,true):=by
      unfold Pt.first;rw [hs,if_pos (Int.le_refl _)];rfl
     rw [x1,hf,if_pos rfl,Zcw,ZbN,Zb2,x3,Zg2,← iw,x2];simp only [wrOf,apOf,trOf,if_pos ab,List.append_nil,List.append_assoc];refine⟨?_,?_⟩
     · have he:(⟨128*(secP k b j).at_.toNat,(secP k b j).b⟩:Sw)=⟨512*k+128*j,(b.drop (128*j)).take 128⟩:=by
        (have h1:128*(secP k b j).at_.toNat=512*k+128*j:=by show 128*(((4*k+j:Nat):Int)).toNat=_;omega);rw [h1];rfl
       rw [he]
     · simp
  obtain⟨s1,s2,s3,s4,s5,s6,s7,s8,s9⟩:=ZaR D (j+1);obtain⟨t1,t2,t3,t4,t5,t6,t7,t8,t9⟩:=ZaR D j;have i2:D.sb=_:=t2.symm.trans ih.sb;have i3:D.ss=_:=t3.symm.trans ih.ss;have i4:D.kp=_:=t4.symm.trans ih.kp;have i5:D.kb=_:=t5.symm.trans ih.kb;have i6:D.ks=_:=t6.symm.trans ih.ks;have i8:D.ap=_:=t8.symm.trans ih.ap;have i9:D.tr=_:=t9.symm.trans ih.tr;have aa:(Za5 A k b j).now.turn (secP k b j)=⟨(Za5 A k b j).now.pg.take (128*(4*k+j)) ++ (b.drop (128*j)).take 128 ++ (Za5 A k b j).now.pg.drop (128*(4*k+j)+128),(Za5 A k b j).now.base,(Za5 A k b j).now.st⟩:=by
   unfold Dk.turn;rw [if_pos ab];unfold secP;simp only [Int.toNat_natCast]
  have isp:splice D.sp (512*k) (b.take (128*j))=(Za5 A k b j).now.pg:=ih.sp;show Rel _ ((Za5 A k b j).act (secP k b j));refine⟨?_,?_,?_,?_,?_,?_,?_,?_,?_,?_⟩
  · rw [Da.act_now,aa];show splice D.sp (512*k) (b.take (128*(j+1)))=_;simp only;rw [← isp,Zhn D.sp b k j hb (by rw [h.sp];exact hk) (by omega)]
  · rw [Da.act_now,aa];exact s2.trans i2
  · rw [Da.act_now,aa];exact s3.trans i3
  · rw [Da.act_kept];exact s4.trans i4
  · rw [Da.act_kept];exact s5.trans i5
  · rw [Da.act_kept];exact s6.trans i6
  · exact hd.1.symm
  · rw [hd.2.1];exact s8.trans i8
  · rw [hd.2.2];exact s9.trans i9
  · refine p1.of ?_ ?_ ?_
    · exact r1.symm.trans q2.symm
    · exact r2.symm.trans q3.symm
    · exact r3.symm.trans q4.symm
theorem Rel.write (h:Rel D A)(k:Nat)(b:List Nat)(hb:b.length=512)(hk:512*k+512≤A.now.pg.length):Rel (D.write k b) (Za5 A k b 4):=by
 have hr:=h.parts k b hb hk 4 (by omega);obtain⟨q1,q2,q3,q4⟩:=spend_same (D:=D) (E:=D.write0 k b) rfl rfl rfl 4;obtain⟨s1,s2,s3,s4,s5,s6,s7,s8,s9⟩:=ZaR (D.write0 k b) 4;obtain⟨t1,t2,t3,t4,t5,t6,t7,t8,t9⟩:=ZaR D 4;refine⟨?_,s2.trans (t2.symm.trans hr.sb),s3.trans (t3.symm.trans hr.ss),s4.trans (t4.symm.trans hr.kp),s5.trans (t5.symm.trans hr.kb),s6.trans (t6.symm.trans hr.ks),?_,s8.trans (t8.symm.trans hr.ap),s9.trans (t9.symm.trans hr.tr),hr.pw.of q2 q3 q4⟩
 · rw [← hr.sp];refine s1.trans ?_;show splice D.sp (512*k) b=splice D.sp (512*k) (b.take (128*4));rw [List.take_of_length_le (by omega)]
 · rw [← hr.wr];show D.wr ++ secs (512*k) b ((D.write0 k b).spent 4)=D.wr ++ secs (512*k) b (D.spent 4);rw [q1]
theorem Good.write (h:Good n tot m A)(ht:tot≤40000)(k:Nat)(hk:k<n)(b:List Nat)(hb:b.length=512)(hx:Bytes b):∀j,j≤4→Good n tot (m+j) (Za5 A k b j)
 | 0,_=>h
 | j+1,hj=>by
  have ih:=Good.write h ht k hk b hb hx j (by omega)
  have:=ih.act (secP k b j) (.sec (by show (0:Int)≤((4*k+j:Nat):Int);omega) (by show ((b.drop (128*j)).take 128).length=128;rw [List.length_take,List.length_drop];omega) (by show 128*(((4*k+j:Nat):Int)).toNat+128≤512*n;omega) rfl rfl ((hx.drop _).take _)) ht
  have e:(apOf [secP k b j]).length=0:=by
   (have aa:(0:Int)≤(secP k b j).at_:=by show (0:Int)≤((4*k+j:Nat):Int);omega);simp only [apOf,if_pos aa,List.length_nil]
  rw [e] at this;exact this
def Da.sync (A:Da):Da:=if A.gone=true then A else ⟨A.now,A.now,[],false,A.armed⟩
def Da.arm (A:Da) (n:Int):Da:=if A.gone=true then A else ⟨A.kept,A.now,A.done,false,if n<0 then -1 else n⟩
theorem Dv.sync_abs (d:Dv):d.sync.abs=d.abs.sync:=by
 unfold Dv.sync Da.sync;show _=if d.gone=true then _ else _;split <;> rfl
theorem Dv.arm_abs (d:Dv)(n:Int):(d.arm n).abs=d.abs.arm n:=by
 unfold Dv.arm Da.arm;show _=if d.gone=true then _ else _;split <;> rfl
theorem Rel.arm (h:Rel D A)(n:Int)(hn:n≤9223372036854775807):Rel (D.arm n) (A.arm n):=by
 unfold Ds.arm Da.arm;by_cases hg:A.gone=true
 · rw [if_pos hg,if_pos (h.pw.gone.trans hg)];exact h
 · (have aa:A.gone=false:=by simpa using hg);(have ab:¬D.gone=true:=by rw [h.pw.gone];exact hg);rw [if_neg hg,if_neg ab];refine⟨h.sp,h.sb,h.ss,h.kp,h.kb,h.ks,h.wr,h.ap,h.tr,⟨h.pw.gone.trans aa,fun _=>?_,fun _ z=>?_,fun z=>?_⟩⟩
   · show decide (0≤n)=decide (0≤if n<0 then (-1:Int) else n);split
     · rw [decide_eq_false (by omega),decide_eq_false neg1]
     · rfl
   · show n=if n<0 then (-1:Int) else n;have z':0≤if n<0 then (-1:Int) else n:=z;split at z'
     · omega
     · rename_i y;rw [if_neg y]
   · have:=of_decide_eq_true (show decide (0≤n)=true from z);exact⟨this,hn⟩
theorem Good.arm (h:Good n tot m A)(k:Int)(hk:k≤9223372036854775807):Good n tot m (A.arm k):=by
 unfold Da.arm;by_cases hg:A.gone=true
 · rw [if_pos hg];exact h
 · (have aa:A.gone=false:=by simpa using hg);rw [if_neg hg];refine⟨h.np,h.kp,h.nb0,h.kb0,h.nt,h.kt,h.valid,fun _=>h.fold1 aa,fun _=>h.fold2 aa,h.parts,h.len,?_⟩;show (if k<0 then (-1:Int) else k)≤_;split <;> omega
theorem Rel.new (n:Nat):Rel (Ds.new n) (Dv.new n).abs:=
 ⟨rfl,rfl,rfl,rfl,rfl,rfl,rfl,rfl,rfl,⟨rfl,fun _=>by show false=decide (0≤(-1:Int));rfl,fun _ z=>absurd z neg1,fun z=>by cases z⟩⟩
theorem Good.new (n:Nat):Good n 0 0 (Dv.new n).abs:=
 ⟨by show (List.replicate (512*n) 0).length=_;simp,by show (List.replicate (512*n) 0).length=_;simp,Int.le_refl _,Int.le_refl _,Nat.le_refl _,Nat.le_refl _,trivial,fun _=>rfl,fun _=>rfl,(fun u hu=>by cases hu),Nat.le_refl _,by show (-1:Int)≤_;decide⟩
theorem ZdN:∀(l:List Pt),pendB l=(apOf l).length+(trOf 0 l).length
 | []=>rfl
 | u :: r=>by
  have ih:=ZdN r
  simp only [pendB,apOf,trOf]
  by_cases h0:0≤u.at_
  · simp only [if_pos h0];omega
  · simp only [if_neg h0]
    by_cases h1:u.trim=true
    · have hs:u.size=1:=(Zbo h1 0).1
      simp only [if_pos h1,List.length_cons]
      rw [Zbm r (0+1) 0]
      omega
    · have hs:u.size=u.b.length:=by unfold Pt.size;rw [if_pos ⟨by omega,by simpa using h1⟩]
      simp only [if_neg h1,List.length_append]
      rw [Zbm r (0+u.b.length) 0]
      omega
theorem ZfC:∀(l:List Pt),pendA l=(wrOf l).length
 | []=>rfl
 | u :: r=>by
  have ih:=ZfC r
  simp only [pendA,wrOf]
  by_cases h0:0≤u.at_
  · simp only [if_pos h0,List.length_cons];omega
  · simp only [if_neg h0];omega
theorem ZfI:∀(l:List Pt)(q:Nat),tin l (pendB l)=(trOf q l).length
 | [],_=>rfl
 | u :: r,q=>by
  simp only [pendB,tin,trOf]
  by_cases h0:0≤u.at_
  · simp only [if_pos h0,Nat.zero_add];exact ZfI r q
  · simp only [if_neg h0]
    by_cases h1:u.trim=true
    · have hs:u.size=1:=(Zbo h1 0).1
      simp only [if_pos h1,List.length_cons,hs]
      rw [if_neg (by omega),show 1+pendB r-1=pendB r by omega,ZfI r (q+1)]
    · have hs:u.size=u.b.length:=by unfold Pt.size;rw [if_pos ⟨by omega,by simpa using h1⟩]
      simp only [if_neg h1,hs]
      rw [if_pos (by omega),show u.b.length+pendB r-u.b.length=pendB r by omega,ZfI r _]
theorem Zgf (u:Pt)(n:Int)(h:n≤0):(u.first n).2=false:=by
 unfold Pt.first;split
 · simp;omega
 · rw [if_pos (.inl h)]
theorem Zdb (bs:List Bool):∀(l:List Pt)(x:Dk)(k:Nat)(n:Int),n≤0→Zar bs l x k n=Zar bs l x k ((0:Nat):Int)
 | [],_,_,_,_=>rfl
 | u :: r,x,k,n,h=>by
  rw [Zby,Zby,Zgf u n h,Zce u]
  by_cases h0:0≤u.at_
  · rw [if_pos h0,if_pos h0];exact Zdb bs r _ _ n h
  · rw [if_neg h0,if_neg h0,if_neg nff,if_neg nff]
    rw [Zdb bs r x k (if n<(u.size:Int) then 0 else n-(u.size:Int)) (by split <;> omega),Zdb bs r x k (if ((0:Nat):Int)<(u.size:Int) then 0 else ((0:Nat):Int)-(u.size:Int)) (by split <;> omega)]
theorem Zdz (bs:List Bool):∀(l:List Pt)(x:Dk)(k:Nat)(n:Int),(pendB l:Int)≤n→Zar bs l x k n=Zar bs l x k ((pendB l:Nat):Int)
 | [],_,_,_,_=>rfl
 | u :: r,x,k,n,h=>by
  rw [Zby,Zby]
  simp only [pendB] at h ⊢
  by_cases h0:0≤u.at_
  · simp only [if_pos h0,Nat.zero_add] at h ⊢
    exact Zdz bs r _ _ n h
  · simp only [if_neg h0] at h ⊢
    have f1:u.first n=(u,decide (0<u.size)):=by unfold Pt.first;rw [if_pos (by omega)]
    have f2:u.first ((u.size+pendB r:Nat):Int)=(u,decide (0<u.size)):=by unfold Pt.first;rw [if_pos (by omega)]
    rw [f1,f2,if_neg (show ¬n<(u.size:Int) by omega),if_neg (show ¬((u.size+pendB r:Nat):Int)<(u.size:Int) by omega),Zdz bs r _ k (n-(u.size:Int)) (by omega),show ((u.size+pendB r:Nat):Int)-(u.size:Int)=((pendB r:Nat):Int) by omega]
theorem ZmU (k:Nat):hit [true] k=true:=by
 (have:k % [true].length=0:=by simp;omega);unfold hit;rw [this];rfl
theorem Zea:∀(l:List Pt)(x:Dk)(k:Nat),Zar [true] l x k ((pendB l:Nat):Int)=l.foldl Dk.turn x
 | [],_,_=>rfl
 | u :: r,x,k=>by
  rw [Zby]
  simp only [pendB,List.foldl_cons]
  by_cases h0:0≤u.at_
  · simp only [if_pos h0,ZmU,if_true,Nat.zero_add]
    exact Zea r _ _
  · simp only [if_neg h0]
    have f2:u.first ((u.size+pendB r:Nat):Int)=(u,decide (0<u.size)):=by unfold Pt.first;rw [if_pos (by omega)]
    rw [f2,if_neg (show ¬((u.size+pendB r:Nat):Int)<(u.size:Int) by omega),show ((u.size+pendB r:Nat):Int)-(u.size:Int)=((pendB r:Nat):Int) by omega,Zea r _ _]
    congr 1
    by_cases hz:0<u.size
    · rw [if_pos (decide_eq_true hz)]
    · rw [if_neg (by simpa using hz)]
      have h1:¬u.trim=true:=fun z=>by have:=(Zbo z 0).1;omega
      have hs:u.size=u.b.length:=by unfold Pt.size;rw [if_pos ⟨by omega,by simpa using h1⟩]
      have hn:u.b=[]:=List.length_eq_zero_iff.1 (by omega)
      unfold Dk.turn
      rw [if_neg h0,if_neg h1,hn,List.append_nil]
theorem ZjP (h:Rel D A)(g:Good n tot m A)(ht:tot≤40000)(bs:List Bool)(x:Nat)(hx:x≤D.units) :
    D.Fit x (tin A.done x)∧(D.keep bs x (tin A.done x)).kp=(Zar bs A.done A.kept 0 (x:Int)).pg∧((D.keep bs x (tin A.done x)).kb:Int)=(Zar bs A.done A.kept 0 (x:Int)).base∧(D.keep bs x (tin A.done x)).ks=(Zar bs A.done A.kept 0 (x:Int)).st ∧
    (D.keep bs x (tin A.done x)).kb+(D.keep bs x (tin A.done x)).ks.length≤tot:=by
  have hk:A.kept=⟨A.kept.pg,(A.kept.base.toNat:Int),(A.kept.st ++ []).drop (A.kept.base.toNat-A.kept.base.toNat)⟩:=by
   rw [Nat.sub_self,List.drop_zero,List.append_nil,Int.toNat_of_nonneg g.kb0]
  have hc:=crash_is bs A.kept.base.toNat A.kept.st A.done A.kept.pg [] A.kept.base.toNat 0 x (fun u hu h0=>((g.parts u hu).sec h0).1) (Nat.le_refl _) (by omega) (by rw [Nat.sub_self,List.drop_zero,List.append_nil];exact g.valid)
  rw [← hk] at hc
  obtain⟨c1,c2,c3⟩:=hc
  rw [List.append_nil] at c1 c3
  have hun:x≤(apOf A.done).length+(trOf 0 A.done).length:=by have:=hx;unfold Ds.units at this;rw [h.ap,h.tr] at this;exact this
  have hap:=Zic A.done x 0 hun
  have htk:((apOf A.done).take (x-tin A.done x)).length=x-tin A.done x:=by rw [List.length_take];omega
  rw [List.length_append,htk] at c3
  have hkt:=g.kt
  have hlp:=ZhE A.done x 0 A.kept.base.toNat
  refine⟨⟨⟨?_,?_,?_⟩,ZaT _ _,?_,fun hm=>?_⟩,?_⟩
  · rw [h.tr];exact Zcm _ _ _
  · rw [h.tr];intro t htt;have:=Zie A.done x 0 t htt;omega
  · rw [h.tr];intro hz;have:=Zid A.done x 0 hz;omega
  · rw [h.ap];exact hap
  · rw [if_neg (by omega)] at hlp
    rw [h.tr,h.kb,h.ks,← hlp]
    exact⟨c2,by omega,by omega⟩
  · rw [c1]
    unfold Ds.keep Ds.keepU
    by_cases hm:tin A.done x=0
    · rw [if_pos hm] at hlp
      rw [if_pos hm,hlp,hm]
      simp only [Nat.sub_self,List.drop_zero,Nat.sub_zero]
      refine⟨by rw [h.wr,h.kp],by rw [h.kb],by rw [h.ks,h.ap],?_⟩
      rw [h.kb,h.ks,h.ap,List.length_append,List.length_take]
      omega
    · rw [if_neg hm] at hlp
      rw [if_neg hm]
      simp only
      rw [h.tr,h.kb,h.ks,h.ap,← hlp]
      refine⟨by rw [h.wr,h.kp],rfl,rfl,?_⟩
      rw [List.length_drop,List.length_append,htk]
      omega
theorem Rel.sane (h:Rel D A)(g:Good n tot m A)(ht:tot≤40000)(hm:m≤1000)(h1:1≤n)(h2:n≤64):D.Sane n:=by
 (have ad:(wrOf A.done).length≤A.done.length:=by rw [← ZfC];exact ZhL _);have ab:∀(l:List Pt) (q:Nat),(trOf q l).length≤l.length:=by
  intro l
  induction l with
  | nil=>intro q;exact Nat.le_refl _
  | cons u r ih =>
   intro q;simp only [trOf];split
   · have:=ih q;simp only [List.length_cons];omega
   · split
     · have:=ih (q+1);simp only [List.length_cons];omega
     · have:=ih (q+u.b.length);simp only [List.length_cons];omega
 have aa:∀(l:List Pt),(∀u∈l,Pok n u)→∀x∈wrOf l,x.Ok (512*n):=by
  intro l
  induction l with
  | nil=>intro _ x hx;cases hx
  | cons u r ih =>
   intro hp x hx;have hr:=ih (fun v hv=>hp v (by simp [hv]));simp only [wrOf] at hx;split at hx
   · rename_i h0;rcases List.mem_cons.1 hx with e | e
     · obtain⟨p1,p2⟩:=(hp u (by simp)).sec h0;rw [e];exact⟨p1,(hp u (by simp)).byt,p2⟩
     · exact hr x e
   · exact hr x hx
 have hd:=g.len;have ac:=g.kt;refine⟨by rw [h.sp];exact g.np,by rw [h.kp];exact g.kp,h1,h2,by rw [h.wr];exact aa _ g.parts,by rw [h.wr];omega,by rw [h.ks,h.ap];omega,?_⟩;rw [h.tr];have:=ab A.done 0;omega
theorem Rel.sync (h:Rel D A)(g:Good n tot m A)(ht:tot≤40000):(D.gone=false→D.Fit D.units D.tr.length)∧Rel D.sync A.sync∧Good n tot m A.sync:=by
 (have ab:D.units=pendB A.done:=by unfold Ds.units;rw [h.ap,h.tr,ZdN]);(have ae:tin A.done D.units=D.tr.length:=by rw [ab,ZfI A.done 0,h.tr]);obtain⟨k1,k2,k3,k4,k5⟩:=ZjP h g ht [true] D.units (Nat.le_refl _);rw [ae] at k1 k2 k3 k4 k5;refine⟨fun _=>k1,?_⟩;unfold Ds.sync Da.sync;by_cases hg:A.gone=true
 · rw [if_pos hg,if_pos (h.pw.gone.trans hg)];exact ⟨h,g⟩
 · (have aa:A.gone=false:=by simpa using hg);(have ad:¬D.gone=true:=by rw [h.pw.gone];exact hg);rw [if_neg hg,if_neg ad];(have ac:Zar [true] A.done A.kept 0 (D.units:Int)=A.now:=by rw [ab,Zea,g.fold1 aa]);rw [ac] at k2 k3 k4;have hf:(D.keep [true] D.units D.tr.length).sp=D.sp∧(D.keep [true] D.units D.tr.length).sb=D.sb∧(D.keep [true] D.units D.tr.length).ss=D.ss∧(D.keep [true] D.units D.tr.length).gone=D.gone∧(D.keep [true] D.units D.tr.length).armed=D.armed∧(D.keep [true] D.units D.tr.length).left=D.left:=by
    unfold Ds.keep Ds.keepU;split <;> exact ⟨rfl,rfl,rfl,rfl,rfl,rfl⟩
   obtain⟨f1,f2,f3,f4,f5,f6⟩:=hf;refine⟨⟨f1.trans h.sp,f2.trans h.sb,f3.trans h.ss,k2,by show _=A.now.base.toNat;omega,k4,rfl,rfl,rfl,?_⟩,?_⟩
   · have hp:Pw D ⟨A.now,A.now,[],false,A.armed⟩:=⟨h.pw.gone.trans aa,fun _=>h.pw.armed aa,fun _=>h.pw.left aa,h.pw.hl⟩;exact hp.of f4 f5 f6
   · exact⟨g.np,g.np,g.nb0,g.nb0,g.nt,g.nt,trivial,fun _=>rfl,fun _=>rfl,(fun u hu=>by cases hu),Nat.zero_le _,g.mx⟩
theorem Zmk {i:Int}(h:0≤i∧i≤40000):(Lit.int .i64 i).wf=true:=by
 have:=Zii i.toNat (by omega);rwa [Int.toNat_of_nonneg h.1] at this
theorem ZhF (bs:List Bool):∀(l:List Pt)(x:Dk)(k:Nat)(i:Int),i≤0→(∀u∈l,Pok n u)→x.pg.length=512*n→n≤64→x.st.length≤100000→Zbj bs l x k i
 | [],_,_,_,_,_,_,_,_=>trivial
 | u :: r,x,k,i,hi,hp,hl,hn,hs=>by
  have hp':∀v∈r,Pok n v:=fun v hv=>hp v (by simp [hv])
  have hu:=hp u (by simp)
  unfold Zbj
  by_cases h0:0≤u.at_
  · rw [if_pos h0]
    obtain⟨a,b⟩:=hu.sec h0
    refine⟨fun _=>⟨by omega,by omega,by omega,fun _=>by omega,fun z=>by omega,Zmk hu.to⟩,?_⟩
    refine ZhF bs r _ _ i hi hp' ?_ hn ?_
    · split
      · rw [Zcv h0 a];show (splice _ _ _).length=_;rw [Zbx _ _ _ (by omega),hl]
      · exact hl
    · split
      · rw [Zcv h0 a];exact hs
      · exact hs
  · rw [if_neg h0,Zgf u i hi,if_neg nff]
    exact⟨(fun z=>by cases z),ZhF bs r _ _ (if i<(u.size:Int) then 0 else i-(u.size:Int)) (by split <;> omega) hp' hl hn hs⟩
theorem Zgq (bs:List Bool):∀(l:List Pt)(x:Dk)(k:Nat)(i:Int),(∀u∈l,Pok n u)→x.pg.length=512*n→n≤64→0≤x.base→x.st.length+(apOf l).length≤100000→svalid (x.base.toNat,x.st) l→Zbj bs l x k i
 | [],_,_,_,_,_,_,_,_,_=>trivial
 | u :: r,x,k,i,hp,hl,hn,hb,hs,hv=>by
  by_cases hi:i≤0
  · exact ZhF bs (u :: r) x k i hi hp hl hn (by omega)
  · have hp':∀v∈r,Pok n v:=fun v hv=>hp v (by simp [hv])
    have hu:=hp u (by simp)
    obtain⟨v1,v2,v3⟩:=hv
    unfold Zbj
    by_cases h0:0≤u.at_
    · have e1:sturn (x.base.toNat,x.st) u=(x.base.toNat,x.st):=by unfold sturn;rw [if_pos h0]
      have e2:apOf (u :: r)=apOf r:=by show (if 0≤u.at_ then _ else _)=_;rw [if_pos h0]
      rw [e1] at v3
      rw [e2] at hs
      rw [if_pos h0]
      obtain⟨a,b⟩:=hu.sec h0
      refine⟨fun _=>⟨by omega,by omega,by omega,fun _=>by omega,fun z=>by omega,Zmk hu.to⟩,?_⟩
      by_cases hh:hit bs k=true
      · rw [if_pos hh]
        refine Zgq bs r _ _ i hp' ?_ hn ?_ ?_ ?_
        · rw [Zcv h0 a];show (splice _ _ _).length=_;rw [Zbx _ _ _ (by omega),hl]
        · rw [Zcv h0 a];exact hb
        · rw [Zcv h0 a];exact hs
        · rw [Zcv h0 a];exact v3
      · rw [if_neg hh]
        exact Zgq bs r x _ i hp' hl hn hb hs v3
    · rw [if_neg h0]
      obtain⟨y,rfl⟩:∃y:Nat,i=(y:Int):=⟨i.toNat,by omega⟩
      by_cases h1:u.trim=true
      · obtain⟨t0,t1,t2⟩:=v1 (by omega) h1
        obtain⟨f1,f2⟩:=Zbo h1 y
        have e1:sturn (x.base.toNat,x.st) u=(u.to.toNat,x.st.drop (u.to.toNat-x.base.toNat)):=by unfold sturn;rw [if_neg h0,if_pos h1]
        have e2:apOf (u :: r)=apOf r:=by show (if 0≤u.at_ then _ else _)=_;rw [if_neg h0,if_pos h1]
        have e3:x.turn u=⟨x.pg,u.to,x.st.drop (u.to-x.base).toNat⟩:=by unfold Dk.turn;rw [if_neg h0,if_pos h1]
        rw [e1] at v3
        rw [e2] at hs
        rw [f2,f1,decide_eq_true (show 0<y by omega),if_pos rfl,if_neg (show ¬(y:Int)<((1:Nat):Int) by omega)]
        simp only at t1 t2 ⊢
        refine⟨fun _=>⟨by omega,by omega,by have:=hu.b;omega,(fun z=>absurd z h0),fun _ _=>⟨by omega,by omega⟩,Zmk hu.to⟩,?_⟩
        refine Zgq bs r _ _ _ hp' ?_ hn ?_ ?_ ?_
        · rw [e3];exact hl
        · rw [e3];exact t0
        · rw [e3];simp only [List.length_drop];omega
        · rw [e3];simp only;rw [show (u.to-x.base).toNat=u.to.toNat-x.base.toNat by omega];exact v3
      · have aa:=v2 (by omega) (by simpa using h1)
        obtain⟨f1,f2,f3⟩:=Zc1 h0 h1 aa y
        have e2:apOf (u :: r)=u.b ++ apOf r:=by show (if 0≤u.at_ then _ else _)=_;rw [if_neg h0,if_neg h1]
        have e1:sturn (x.base.toNat,x.st) u=(x.base.toNat,x.st ++ u.b):=by unfold sturn;rw [if_neg h0,if_neg h1]
        rw [e1] at v3
        rw [e2,List.length_append] at hs
        rw [f3 (by omega),f1,if_pos rfl]
        have e3:x.turn ⟨u.at_,u.b.take y,u.trim,u.to⟩=⟨x.pg,x.base,x.st ++ u.b.take y⟩:=by unfold Dk.turn;rw [if_neg h0,if_neg h1]
        refine⟨fun _=>⟨by omega,by omega,by show (u.b.take y).length≤_;rw [List.length_take];have:=hu.b;omega,(fun z=>absurd z h0),(fun _ z=>absurd z h1),Zmk hu.to⟩,?_⟩
        rw [e3]
        by_cases hy:y<u.b.length
        · rw [if_pos (by omega)]
          exact ZhF bs r _ _ _ (Int.le_refl _) hp' hl hn (by show (x.st ++ u.b.take y).length≤_;rw [List.length_append,List.length_take];omega)
        · rw [if_neg (by omega),List.take_of_length_le (by omega)]
          exact Zgq bs r _ _ _ hp' hl hn hb (by show (x.st ++ u.b).length+_≤_;rw [List.length_append];omega) v3
theorem Rel.crash (h:Rel D A)(g:Good n tot m A)(ht:tot≤40000)(hm:m≤1000)(h1:1≤n)(h2:n≤64)(bs:List Bool)(u:Int) :
    D.Fit (D.count u) (tin A.done (D.count u))∧Zbj bs A.done A.kept 0 u∧Rel (D.crash bs (D.count u) (tin A.done (D.count u))) ⟨Zar bs A.done A.kept 0 u,Zar bs A.done A.kept 0 u,[],false,-1⟩ ∧
    Good n tot 0 ⟨Zar bs A.done A.kept 0 u,Zar bs A.done A.kept 0 u,[],false,-1⟩:=by
  (have ah:D.units=pendB A.done:=by unfold Ds.units;rw [h.ap,h.tr,ZdN]);have ae:D.count u≤D.units:=by
   unfold Ds.count;split
   · omega
   · split <;> omega
  have af:Zar bs A.done A.kept 0 u=Zar bs A.done A.kept 0 ((D.count u:Nat):Int):=by
   unfold Ds.count;split
   · exact Zdb bs _ _ _ u (by omega)
   · split
     · rw [Int.toNat_of_nonneg (by omega)]
     · rw [ah];exact Zdz bs _ _ _ u (by omega)
  obtain⟨k1,k2,k3,k4,k5⟩:=ZjP h g ht bs (D.count u) ae;have ai:=g.kt;have ag:Zbj bs A.done A.kept 0 u:=Zgq bs A.done A.kept 0 u g.parts g.kp h2 g.kb0 (by omega) g.valid;rw [← af] at k2 k3 k4;have ad:=h.sane g ht hm h1 h2;have ac:(Zar bs A.done A.kept 0 u).pg.length=512*n:=by
   rw [← k2];have:(D.keep bs (D.count u) (tin A.done (D.count u))).kp=keepW bs 0 D.wr D.kp:=by
    unfold Ds.keep Ds.keepU;split <;> rfl
   rw [this];exact ZaG bs (512*n) D.wr 0 D.kp ad.wr ad.kp
  (have aa:0≤(Zar bs A.done A.kept 0 u).base:=by rw [← k3];omega);(have ab:(Zar bs A.done A.kept 0 u).base.toNat+(Zar bs A.done A.kept 0 u).st.length≤tot:=by rw [← k3,← k4];omega);refine⟨k1,ag,?_,?_⟩
  · exact⟨k2,by show (D.keep bs (D.count u) (tin A.done (D.count u))).kb=(Zar bs A.done A.kept 0 u).base.toNat;omega,k4,k2,by show (D.keep bs (D.count u) (tin A.done (D.count u))).kb=(Zar bs A.done A.kept 0 u).base.toNat;omega,k4,rfl,rfl,rfl,⟨rfl,fun _=>rfl,fun _ z=>absurd z neg1,fun z=>by cases z⟩⟩
  · exact⟨ac,ac,aa,aa,ab,ab,trivial,fun _=>rfl,fun _=>rfl,(fun u hu=>by cases hu),Nat.le_refl _,by show (-1:Int)≤_;decide⟩
theorem Own.typ {e:TypeId}{z:Nat}{w:World}{s:Sl}{vs:List Value}(h:Own e z w s vs){k:Nat}(hk:s.blk=some k):∃C,w.heap[k]? = some (.cells C e (0,0)):=by
 rcases h.2 with ⟨hs,_⟩ | ⟨g,off,cur,ha,hg,_⟩
 · rw [hs] at hk;cases hk
 · unfold Sl.blk at hk;rw [ha] at hk;obtain rfl:g=k:=Option.some.inj hk;exact⟨cur,hg⟩
end Go.Proofs.YtpnlebpnhmibfaaGreat
