/-
  Lemmas.
-/
import Derived.Test.YtiecfcjlhldhdaaGreatKeao
import Derived.Test.YtiecfcjlhldhdaaGreatKebe
import Derived.Test.YtiecfcjlhldhdaaGreatKebb
import Derived.Deep.CutBlock
import Derived.Sort.WalkA
import Derived.Sort.LotD3
import Derived.Test.YtiecfcjlhldhdaaGreatKeab
namespace Go.Proofs.YtiecfcjlhldhdaaGreat
open Go.RowKit
set_option linter.unusedVariables false
set_option linter.unusedSimpArgs false
set_option maxRecDepth 100000
set_option maxHeartbeats 4000000
variable {w0 W:World}{blk off m:Nat}{d:Array Int}{xs:List Nat}
theorem Zdd (n:Int)(b:Bool)(w:World)(hb:b=decide (1≤n∧n≤2147483647)):Calls Tryz.prog 71 #[.int .i64 n] w fun e w'=>e=.returned (.bool b)∧w'=w:=by
 by_cases h1:1≤n
 · by_cases h2:n≤2147483647
   · have h:b=true:=hb.trans (decide_eq_true ⟨h1,h2⟩);clear hb;subst h;go_enter Tryz.func71,Tryz.ntmps71;go_wp2_with fail;go_ret;exact⟨rfl,rfl⟩
   · have h:b=false:=hb.trans (decide_eq_false (fun k=>h2 k.2));clear hb;subst h;go_enter Tryz.func71,Tryz.ntmps71;go_wp2_with fail;go_ret;exact⟨rfl,rfl⟩
 · have h:b=false:=hb.trans (decide_eq_false (fun k=>h1 k.1));clear hb;subst h;go_enter Tryz.func71,Tryz.ntmps71;go_wp2_with fail;go_ret;exact⟨rfl,rfl⟩
def Stand (t:Tbl) (x:En):Prop:=(x.st=0∧x=En.zero)∨((x.st=1∨x.st=2)∧(1≤x.tx∧x.tx<t.nx)∧(0≤x.last∧x.last≤65535)∧(x.st=1→x.com=0)∧(x.st=2→1≤x.com∧x.com≤t.cm))
instance (t:Tbl) (x:En):Decidable (Stand t x):=by unfold Stand;infer_instance
def clashB (x y:En):Bool:=(x.tx != 0 && x.tx == y.tx) || (x.com != 0 && x.com == y.com)
theorem Zlx (t:Tbl)(i:Nat):EntOk t i↔Stand t (t.en i)∧∀k,k<i→clashB (t.en i) (t.en k)=false:=by
 constructor
 · intro h;have hs:=h.st;constructor
   · by_cases h0:(t.en i).st=0
     · exact .inl ⟨h0,h.free h0⟩
     · exact .inr ⟨by omega,h.tx h0,h.last h0,h.act,h.done⟩
   · intro k hk;by_cases h0:(t.en i).st=0
     · rw [h.free h0];rfl
     · have h1:=h.one h0 k hk;have h2:=h.tx h0;have h3:(t.en i).com=0∨0<(t.en i).com:=by
        by_cases h1:(t.en i).st=1
        · exact .inl (h.act h1)
        · have:=h.done (by omega);exact .inr (by omega)
       unfold clashB;rw [show ((t.en i).tx == (t.en k).tx)=false from beq_eq_false_iff_ne.2 (fun e=>h1.1 e.symm),Bool.and_false,Bool.false_or];rcases h3 with h3 | h3
       · rw [h3];rfl
       · rw [show ((t.en i).com == (t.en k).com)=false from beq_eq_false_iff_ne.2 (fun e=>h1.2 h3 e.symm),Bool.and_false]
 · rintro ⟨h,hc⟩;rcases h with ⟨h0,he⟩ | ⟨hs,ad,ac,aa,ab⟩
   · have z0:En.zero.st=0:=rfl;constructor <;> rw [he]
     · decide
     · exact fun _=>rfl
     · exact fun h=>absurd z0 h
     · exact fun h=>absurd z0 h
     · exact fun _=>rfl
     · exact fun h=>by cases h
     · exact fun h=>absurd z0 h
   · refine⟨by omega,fun h=>by omega,fun _=>ad,fun _=>ac,aa,ab,fun _ k hk=>?_⟩;have h1:=hc k hk;unfold clashB at h1;simp only [Bool.or_eq_false_iff,Bool.and_eq_false_iff,bne_eq_false_iff_eq,beq_eq_false_iff_ne] at h1;refine⟨fun e=>?_,fun h0 e=>?_⟩
     · rcases h1.1 with k1 | k1
       · omega
       · exact k1 e.symm
     · rcases h1.2 with k1 | k1
       · omega
       · exact k1 e.symm
theorem Zng (w:World)(t:Tbl)(v:Sl)(x:En):Below w.heap.size w ((w.alloc (.cells #[.int .i64 t.nx,.int .i64 t.no,.int .i64 t.cm,.slice v.a v.len v.cap] 24)).alloc (.cells #[.int .i64 x.tx,.int .i64 x.st,.int .i64 x.last,.int .i64 x.com] 127)):=Zac (Zaa _ _) (Zaa _ _)
theorem Znf (w:World)(x y:En):Below w.heap.size w ((w.alloc (.cells #[.int .i64 x.tx,.int .i64 x.st,.int .i64 x.last,.int .i64 x.com] 127)).alloc (.cells #[.int .i64 y.tx,.int .i64 y.st,.int .i64 y.last,.int .i64 y.com] 127)):=Zac (Zaa _ _) (Zaa _ _)
theorem Zoi (t:Tbl)(v:Sl)(xt xs xl xc:Int)(b:Bool)(w:World)(hb:b=decide (Stand t ⟨xt,xs,xl,xc⟩)) :
    Calls Tryz.prog 72 #[.agg #[.int .i64 t.nx,.int .i64 t.no,.int .i64 t.cm,.slice v.a v.len v.cap],.agg #[.int .i64 xt,.int .i64 xs,.int .i64 xl,.int .i64 xc]] w fun e w'=>e=.returned (.bool b)∧Below w.heap.size w w':=by
  have HW:=Zng w t v ⟨xt,xs,xl,xc⟩;simp only at HW;replace HW:=hide HW;by_cases h0:xs=0
  · by_cases h1:xt=0
    · by_cases h2:xl=0
      · by_cases h3:xc=0
        · have h:b=true:=hb.trans (decide_eq_true (.inl ⟨h0,by rw [h0,h1,h2,h3];rfl⟩));clear hb;subst h;subst h0;subst h1;subst h2;subst h3;go_enter Tryz.func72,Tryz.ntmps72;go_wp2_with fail;go_ret;exact⟨by first | rfl | simp [*],HW.out⟩
        · have h:b=false:=hb.trans (decide_eq_false (fun k=>k.elim (fun k=>h3 (congrArg En.com k.2)) (fun k=>by have:=k.1;simp only at this;omega)));clear hb;subst h;subst h0;subst h1;subst h2;go_enter Tryz.func72,Tryz.ntmps72;go_wp2_with fail;go_ret;exact⟨by first | rfl | simp [*],HW.out⟩
      · have h:b=false:=hb.trans (decide_eq_false (fun k=>k.elim (fun k=>h2 (congrArg En.last k.2)) (fun k=>by have:=k.1;simp only at this;omega)));clear hb;subst h;subst h0;subst h1;go_enter Tryz.func72,Tryz.ntmps72;go_wp2_with fail;go_ret;exact⟨by first | rfl | simp [*],HW.out⟩
    · have h:b=false:=hb.trans (decide_eq_false (fun k=>k.elim (fun k=>h1 (congrArg En.tx k.2)) (fun k=>by have:=k.1;simp only at this;omega)));clear hb;subst h;subst h0;go_enter Tryz.func72,Tryz.ntmps72;go_wp2_with fail;go_ret;exact⟨by first | rfl | simp [*],HW.out⟩
  by_cases v0:xt<1
  · have h:b=false:=hb.trans (decide_eq_false (fun k=>k.elim (fun k=>h0 k.1) (fun k=>by have:=k.2.1;simp only at this;omega)));clear hb;subst h;go_enter Tryz.func72,Tryz.ntmps72;go_wp2_with fail;go_ret;exact⟨by first | rfl | simp [*],HW.out⟩
  by_cases v1:t.nx≤xt
  · have h:b=false:=hb.trans (decide_eq_false (fun k=>k.elim (fun k=>h0 k.1) (fun k=>by have:=k.2.1;simp only at this;omega)));clear hb;subst h;go_enter Tryz.func72,Tryz.ntmps72;go_wp2_with fail;go_ret;exact⟨by first | rfl | simp [*],HW.out⟩
  by_cases v2:xl<0
  · have h:b=false:=hb.trans (decide_eq_false (fun k=>k.elim (fun k=>h0 k.1) (fun k=>by have:=k.2.2.1;simp only at this;omega)));clear hb;subst h;go_enter Tryz.func72,Tryz.ntmps72;go_wp2_with fail;go_ret;exact⟨by first | rfl | simp [*],HW.out⟩
  by_cases v3:65535<xl
  · have h:b=false:=hb.trans (decide_eq_false (fun k=>k.elim (fun k=>h0 k.1) (fun k=>by have:=k.2.2.1;simp only at this;omega)));clear hb;subst h;go_enter Tryz.func72,Tryz.ntmps72;go_wp2_with fail;go_ret;exact⟨by first | rfl | simp [*],HW.out⟩
  by_cases s1:xs=1
  · by_cases c0:xc=0
    · have h:b=true:=hb.trans (decide_eq_true (.inr ⟨.inl s1,by simp only;omega,by simp only;omega,fun _=>c0,fun k=>by simp only at k;omega⟩));clear hb;subst h;subst s1;subst c0;go_enter Tryz.func72,Tryz.ntmps72;go_wp2_with fail;go_ret;exact⟨by first | rfl | simp [*],HW.out⟩
    · have h:b=false:=hb.trans (decide_eq_false (fun k=>k.elim (fun k=>h0 k.1) (fun k=>c0 (k.2.2.2.1 s1))));clear hb;subst h;subst s1;go_enter Tryz.func72,Tryz.ntmps72;go_wp2_with fail;go_ret;exact⟨by first | rfl | simp [*],HW.out⟩
  by_cases s2:xs=2
  · by_cases c0:1≤xc
    · by_cases c1:xc≤t.cm
      · have h:b=true:=hb.trans (decide_eq_true (.inr ⟨.inr s2,by simp only;omega,by simp only;omega,fun k=>by simp only at k;omega,fun _=>⟨c0,c1⟩⟩));clear hb;subst h;subst s2;go_enter Tryz.func72,Tryz.ntmps72;go_wp2_with fail;go_ret;exact⟨by first | rfl | simp [*],HW.out⟩
      · have h:b=false:=hb.trans (decide_eq_false (fun k=>k.elim (fun k=>h0 k.1) (fun k=>c1 (k.2.2.2.2 s2).2)));clear hb;subst h;subst s2;go_enter Tryz.func72,Tryz.ntmps72;go_wp2_with fail;go_ret;exact⟨by first | rfl | simp [*],HW.out⟩
    · have h:b=false:=hb.trans (decide_eq_false (fun k=>k.elim (fun k=>h0 k.1) (fun k=>c0 (k.2.2.2.2 s2).1)));clear hb;subst h;subst s2;go_enter Tryz.func72,Tryz.ntmps72;go_wp2_with fail;go_ret;exact⟨by first | rfl | simp [*],HW.out⟩
  have h:b=false:=hb.trans (decide_eq_false (fun k=>k.elim (fun k=>h0 k.1) (fun k=>by have:=k.1;simp only at this;omega)));clear hb;subst h;go_enter Tryz.func72,Tryz.ntmps72;go_wp2_with fail;go_ret;exact⟨by first | rfl | simp [*],HW.out⟩
theorem ZfK (t:Tbl)(v:Sl)(x:En)(w:World) :
    Calls Tryz.prog 72 #[t.val v,x.val] w fun e w'=>e=.returned (.bool (decide (Stand t x)))∧Below w.heap.size w w':=Zoi t v x.tx x.st x.last x.com _ w rfl
theorem Znl (xt xs xl xc yt ys yl yc:Int)(b:Bool)(w:World)(hb:b=((xt != 0 && xt == yt) || (xc != 0 && xc == yc))) :
    Calls Tryz.prog 75 #[.agg #[.int .i64 xt,.int .i64 xs,.int .i64 xl,.int .i64 xc],.agg #[.int .i64 yt,.int .i64 ys,.int .i64 yl,.int .i64 yc]] w fun e w'=>e=.returned (.bool b)∧Below w.heap.size w w':=by
  have HW:=Znf w ⟨xt,xs,xl,xc⟩ ⟨yt,ys,yl,yc⟩;simp only at HW;replace HW:=hide HW;by_cases a0:xt=0
  · by_cases b0:xc=0
    · have h:b=false:=hb.trans (by simp [a0,b0]);clear hb;subst h;subst a0;subst b0;go_enter Tryz.func75,Tryz.ntmps75;go_wp2_with fail;go_ret;exact⟨by first | rfl | simp [*],HW.out⟩
    by_cases b1:xc=yc
    · have h:b=true:=hb.trans (by subst b1;simp [b0]);clear hb;subst h;subst a0;subst b1;go_enter Tryz.func75,Tryz.ntmps75;go_wp2_with fail;go_ret;exact⟨by first | rfl | simp [*],HW.out⟩
    have h:b=false:=hb.trans (by simp [a0,b1]);clear hb;subst h;subst a0;go_enter Tryz.func75,Tryz.ntmps75;go_wp2_with fail;go_ret;exact⟨by first | rfl | simp [*],HW.out⟩
  by_cases a1:xt=yt
  · have h:b=true:=hb.trans (by subst a1;simp [a0]);clear hb;subst h;subst a1;go_enter Tryz.func75,Tryz.ntmps75;go_wp2_with fail;go_ret;exact⟨by first | rfl | simp [*],HW.out⟩
  by_cases b0:xc=0
  · have h:b=false:=hb.trans (by simp [a1,b0]);clear hb;subst h;subst b0;go_enter Tryz.func75,Tryz.ntmps75;go_wp2_with fail;go_ret;exact⟨by first | rfl | simp [*],HW.out⟩
  by_cases b1:xc=yc
  · have h:b=true:=hb.trans (by subst b1;simp [b0]);clear hb;subst h;subst b1;go_enter Tryz.func75,Tryz.ntmps75;go_wp2_with fail;go_ret;exact⟨by first | rfl | simp [*],HW.out⟩
  have h:b=false:=hb.trans (by simp [a1,b1]);clear hb;subst h;go_enter Tryz.func75,Tryz.ntmps75;go_wp2_with fail;go_ret;exact⟨by first | rfl | simp [*],HW.out⟩
theorem ZjO (x y:En)(w:World) :
    Calls Tryz.prog 75 #[x.val,y.val] w fun e w'=>e=.returned (.bool (clashB x y))∧Below w.heap.size w w':=Znl x.tx x.st x.last x.com y.tx y.st y.last y.com _ w rfl
theorem ZjL (x y:En)(b:Nat)(w:World)(hb:EnAt w b 0 x) :
    Calls Tryz.prog 74 #[.agg #[.int .i64 y.tx,.int .i64 y.st,.int .i64 y.last,.int .i64 y.com],.pointer (some ⟨b,0,none⟩)] w fun e w'=>e=.returned (.bool (clashB x y))∧Below w.heap.size w w':=by
  have hA:=Zaa w (.cells #[.int .i64 y.tx,.int .i64 y.st,.int .i64 y.last,.int .i64 y.com] 127);have HC:=hide (ZjO x y (w.alloc (.cells #[.int .i64 y.tx,.int .i64 y.st,.int .i64 y.last,.int .i64 y.com] 127)));have ac:=hide (Zii b 0 x _ (hb.keep hA (Nat.le_refl _)));have ad:=hide (Zii w.heap.size 0 y _ (Zc4.new w y).at);have HA:=hide hA;clear hA hb;go_enter Tryz.func74,Tryz.ntmps74;go_wp2_with (first | refine Zah _ rfl 127 (.tmp 1) rfl (.pointer (some ⟨b,0,none⟩)) x.val rfl ac.out ?_ | refine Zah _ rfl 127 (.tmp 2) rfl (.pointer (some ⟨w.heap.size,0,none⟩)) y.val rfl ad.out ?_);refine HC.out.mono ?_;rintro e w1 ⟨rfl,aa⟩;have ab:=hide (Zac HA.out aa);clear aa;go_wp2_with fail;go_ret;exact⟨rfl,ab.out⟩
theorem Zn6 (w:World)(v:Sl)(l:List En)(h:Es w v l)(b:Nat)(x:En)(hb:EnAt w b 0 x) :
    Calls Tryz.prog 114 #[.slice v.a v.len v.cap,.func (.func 74) #[] #[.pointer (some ⟨b,0,none⟩)]] w fun e w'=>e=.returned (.int .i64 (ixN (l.findIdx? (fun y=>clashB x y))))∧Below w.heap.size w w':=by
  have HE:=hide h;have hl:l.length=v.len:=h.len;have ag:=h.big;have HC:=hide hb;have H0:=hide (Below.refl w.heap.size w);clear h hb;obtain⟨va,vl,vc⟩:=v;simp only at hl ag;have HL:=hide hl;clear hl;simp only;go_enter Tryz.func114,Tryz.ntmps114;go_wp2_with fail;go_loopw [8] (fun iv wr=>∃i:Nat,i≤vl∧iv=.int .i64 (i:Nat)∧Hid (∀j,j<i→(fun y=>clashB x y) (l.getD j En.zero)=false)∧Hid (Below w.heap.size w wr)) (fun iv _=>vl-(intOf iv).toNat)
  case atStart=>exact ⟨0,Nat.zero_le _,rfl,fun j hj=>absurd hj (Nat.not_lt_zero _),H0⟩
  case round =>
   obtain⟨i,hi,rfl,ab,ad⟩:=hrel;rcases Nat.lt_or_ge i vl with ah | ai
   · (have i1:(i:Int)<(vl:Int):=by omega);obtain⟨b1,off,ha,aa⟩:=(HE.out.keep ad.out (Nat.le_refl _)).at' i ah;replace ha:va=some ⟨b1,off,none⟩:=ha;subst ha;obtain⟨y,hy⟩:∃y,y=l.getD i En.zero:=⟨_,rfl⟩;rw [← hy] at aa;have c0:=aa.c0;have c1:=aa.c1;have c2:=aa.c2;have c3:=aa.c3;have HY:=hide hy;have ae:=hide (ZjL x y b wr (HC.out.keep ad.out (Nat.le_refl _)));clear aa hy;cases hon:(clashB x y:Bool) with
     | true =>
      rw [hon] at ae;have HF:Hid (l.findIdx? (fun y=>clashB x y)=some i):=Zqj (by rw [HL.out];exact ah) (by rw [← HY.out];exact hon) ab.out;clear ab HY hon;go_wp2_with fail;refine ae.out.mono ?_;rintro e w1 ⟨rfl,ac⟩;have af:=hide (Zac ad.out ac);clear ac;go_wp2_with fail;go_ret;exact⟨by rw [HF.out];rfl,af.out⟩
     | false =>
      rw [hon] at ae;have HN:Hid (∀j,j<i+1→(fun y=>clashB x y) (l.getD j En.zero)=false):=by
       intro j hj;by_cases e:j=i
       · rw [e,← HY.out];exact hon
       · exact ab.out j (by omega)
      clear ab HY hon;go_wp2_with fail;refine ae.out.mono ?_;rintro e w1 ⟨rfl,ac⟩;have af:=hide (Zac ad.out ac);clear ac;go_wp2_with fail;go_roundw
      case rel=>exact ⟨i+1,by omega,by go_num,HN,af⟩
      case measure=>simp only [intOf];omega
   · (have i1:¬(i:Int)<(vl:Int):=by omega);have HF:Hid (l.findIdx? (fun y=>clashB x y)=none):=Zqk (fun j hj=>ab.out j (by rw [HL.out] at hj;omega));clear ab;go_wp2_with fail;go_ret;exact⟨by rw [HF.out];rfl,ad.out⟩
theorem Zpd (p:En→Bool)(l:List En):decide (0≤ixN (l.findIdx? p))=l.any p:=by
 cases h:l.findIdx? p with
 | none =>
  have:=List.findIdx?_eq_none_iff.1 h;rw [List.any_eq_false.2 (fun x hx=>by rw [this x hx];decide)];rfl
 | some i =>
  obtain⟨hi,h1,_⟩:=List.findIdx?_eq_some_iff_getElem.1 h;rw [List.any_eq_true.2 ⟨_,List.getElem_mem hi,h1⟩];exact decide_eq_true (Int.natCast_nonneg _)
theorem ZgI (w:World)(v:Sl)(l:List En)(h:Es w v l)(b:Nat)(x:En)(hb:EnAt w b 0 x) :
    Calls Tryz.prog 73 #[.slice v.a v.len v.cap,.func (.func 74) #[] #[.pointer (some ⟨b,0,none⟩)]] w fun e w'=>e=.returned (.bool (l.any (clashB x)))∧Below w.heap.size w w':=by
  have HX:=hide (Zn6 w v l h b x hb);have hg:=Zpd (clashB x) l;obtain⟨z,hz⟩:∃z,z=ixN (l.findIdx? (clashB x)):=⟨_,rfl⟩;rw [← hz] at hg;(replace HX:Hid (Calls Tryz.prog 114 #[.slice v.a v.len v.cap,.func (.func 74) #[] #[.pointer (some ⟨b,0,none⟩)]] w fun e w'=>e=.returned (.int .i64 z)∧Below w.heap.size w w'):=by rw [hz];exact HX);rw [← hg];clear h hb hg hz;by_cases hp:0≤z
  · have HR:Hid (decide (0≤z)=true):=decide_eq_true hp;go_enter Tryz.func73,Tryz.ntmps73;go_wp2_with fail;refine HX.out.mono ?_;rintro e w1 ⟨rfl,aa⟩;have ab:=hide aa;clear aa;go_wp2_with fail;go_ret;exact⟨by rw [HR.out];rfl,ab.out⟩
  · have HR:Hid (decide (0≤z)=false):=decide_eq_false hp;go_enter Tryz.func73,Tryz.ntmps73;go_wp2_with fail;refine HX.out.mono ?_;rintro e w1 ⟨rfl,aa⟩;have ab:=hide aa;clear aa;go_wp2_with fail;go_ret;exact⟨by rw [HR.out];rfl,ab.out⟩
section
variable {ops : Array Oper} {rest : List Oper} {o : Oper} {a : Act} {Q : Exit → Act → World → Prop}
theorem Zdv (w:World)(ab:o.guard=none)(t:TypeId)(x:Operand)(lo hi:Option Operand)(ho:o.op=.slice t x lo hi none)(v:Value)(aa:(Instr.sliceAt t (a.eval x) (lo.map a.eval) (hi.map a.eval) none).run Tryz.prog w=.ok v w)(hK:wpList Tryz.prog ops Q rest (a.put o.dst v) w):wpList Tryz.prog ops Q (o :: rest) a w:=by
 refine Zc3 w ab v w ?_ hK;have e:execOp a.eval o=(do pure (.value (← Instr.sliceAt t (a.eval x) (lo.map a.eval) (hi.map a.eval) none))):=by
  unfold execOp;rw [ho];rfl
 rw [e];simp [aa]
end
theorem szEn (w:World):(sizeOf 127).run Tryz.prog w=.ok 4 w:=by
 obtain⟨i,hi,ab,aa,ac⟩:=info_parts Zo3;simp [sizeOf,typeInfo,hi,aa]
theorem ZpW:Tryz.prog.elem 22=127:=by kernel_rfl
theorem Zi7 (b o len cap k:Nat)(hk:k≤cap)(h0:0<cap)(w:World):(Instr.sliceAt 22 (.slice (some ⟨b,o,none⟩) len cap) none (some (.int .i64 (k:Int))) none).run Tryz.prog w=.ok (.slice (some ⟨b,o,none⟩) k cap) w:=by
 (have aa:Tryz.prog.underlying 22=some (.slice (Tryz.prog.elem 22)):=by kernel_rfl);rw [run_sliceAt_slice w 22 _ _ _ _ aa,run_slice_h w 22 (some ⟨b,o,none⟩) len cap aa .i64 (k:Nat) (by omega) (by omega),ZpW,szEn];(have:¬cap=0:=by omega);simp [Result.andThen,sliced,this,Addr.add_lit]
theorem Es.upto {w:World}{a:Option Addr}{n c:Nat}{l:List En}(h:Es w ⟨a,n,c⟩ l)(i:Nat)(hi:i≤n):Es w ⟨a,i,c⟩ (l.take i):=by
 have hl:l.length=n:=h.len;have h1:n≤c:=h.le;have h2:n≤9223372036854775807:=h.big;refine⟨by rw [List.length_take];show min i l.length=i;omega,h.nil,(by show i≤c;omega),(by show i≤_;omega),fun j hj=>?_⟩;have hj':j<i:=hj;obtain⟨b,off,ha,aa⟩:=h.at' j (by show j<n;omega);refine⟨b,off,ha,?_⟩;rw [show (l.take i).getD j En.zero=l.getD j En.zero by simp [List.getD,hj']];exact aa
theorem Znb {t:Tbl}{x:En}{i:Nat}(hi:i≤t.es.length):(t.es.take i).any (clashB x)=false↔∀k,k<i→clashB x (t.en k)=false:=by
 rw [List.any_eq_false];constructor
 · intro h k hk;(have aa:k<t.es.length:=by omega);have hm:t.en k∈t.es.take i:=by
    unfold Tbl.en;rw [ZgP aa];exact List.mem_take_iff_getElem.2 ⟨k,by omega,rfl⟩
   have:=h _ hm;simpa using this
 · intro h y hy;obtain⟨k,hk,e⟩:=List.mem_take_iff_getElem.1 hy;(have aa:k<t.es.length:=by omega);have:=h k (by omega);unfold Tbl.en at this;rw [ZgP aa,e] at this;rw [this];decide
theorem Znk (t:Tbl)(v:Sl)(c:Int)(w:World)(h:Es w v t.es)(hc:c=if mayB t=true then 0 else 1) :
    Calls Tryz.prog 33 #[t.val v] w fun e w'=>e=.returned (.int .i64 c)∧Below w.heap.size w w':=by
  (have ac:¬t.May→c=1:=fun k=>by rw [hc,ZbR k];rfl);(have ab:t.May→c=0:=fun k=>by rw [hc,Zgp k];rfl);clear hc;have hb:=Zg8 w t v;have HW:=hide hb;have HT:=hide (ZaJ.new w t v);have HE:=hide (h.keep hb (Nat.le_refl _));have hl:t.es.length=v.len:=h.len;have ay:=h.big;clear h hb;obtain⟨va,vl,vc⟩:=v;simp only at hl ay;have HL:=hide hl;unfold Tbl.val;by_cases z0:1≤t.nx∧t.nx≤2147483647
  case neg =>
   have hc:=ac (fun k=>z0 k.nx);subst hc;have HN:=hide (fun W=>Zdd t.nx false W (decide_eq_false z0).symm);clear hl HT HE HL ac ab z0;go_enter Tryz.func33,Tryz.ntmps33;go_wp2_with fail;refine(HN.out _).mono ?_;rintro e w1 ⟨rfl,rfl⟩;go_wp2_with fail;go_ret;exact⟨rfl,HW.out⟩
  have HN:=hide (fun W=>Zdd t.nx true W (decide_eq_true z0).symm);by_cases z1:1≤t.no∧t.no≤2147483647
  case neg =>
   have hc:=ac (fun k=>z1 k.no);subst hc;have af:=hide (fun W=>Zdd t.no false W (decide_eq_false z1).symm);clear hl HT HE HL ac ab z0 z1;go_enter Tryz.func33,Tryz.ntmps33;go_wp2_with fail;refine(HN.out _).mono ?_;rintro e w1 ⟨rfl,rfl⟩;go_wp2_with fail;refine(af.out _).mono ?_;rintro e w1 ⟨rfl,rfl⟩;go_wp2_with fail;go_ret;exact⟨rfl,HW.out⟩
  have af:=hide (fun W=>Zdd t.no true W (decide_eq_true z1).symm);by_cases z4:t.cm<0
  · have hc:=ac (fun k=>by have:=k.cm;omega);subst hc;clear hl HT HE HL ac ab z0 z1;go_enter Tryz.func33,Tryz.ntmps33;go_wp2_with fail;refine(HN.out _).mono ?_;rintro e w1 ⟨rfl,rfl⟩;go_wp2_with fail;refine(af.out _).mono ?_;rintro e w1 ⟨rfl,rfl⟩;go_wp2_with fail;go_ret;exact⟨rfl,HW.out⟩
  by_cases z5:2147483647<t.cm
  · have hc:=ac (fun k=>by have:=k.cm;omega);subst hc;clear hl HT HE HL ac ab z0 z1;go_enter Tryz.func33,Tryz.ntmps33;go_wp2_with fail;refine(HN.out _).mono ?_;rintro e w1 ⟨rfl,rfl⟩;go_wp2_with fail;refine(af.out _).mono ?_;rintro e w1 ⟨rfl,rfl⟩;go_wp2_with fail;go_ret;exact⟨rfl,HW.out⟩
  by_cases z6:vl=12
  case neg =>
   have hc:=ac (fun k=>z6 (by rw [← hl];exact k.len));subst hc;(have q6:((vl:Int) != 12)=true:=by simp;omega);(have q7:¬(vl:Int)=12:=by omega);clear hl HT HE HL ac ab z0 z1 z6;go_enter Tryz.func33,Tryz.ntmps33;go_wp2_with fail;refine(HN.out _).mono ?_;rintro e w1 ⟨rfl,rfl⟩;go_wp2_with fail;refine(af.out _).mono ?_;rintro e w1 ⟨rfl,rfl⟩;go_wp2_with fail;go_ret;exact⟨rfl,HW.out⟩
  subst z6;have aq:Hid ((1≤t.nx∧t.nx≤2147483647)∧(1≤t.no∧t.no≤2147483647)∧(0≤t.cm∧t.cm≤2147483647)):=⟨z0,z1,by omega,by omega⟩;have bd:=hide ac;have aw:=hide ab;have bi:12≤vc:=HE.out.le;clear ac ab z0 z1;go_enter Tryz.func33,Tryz.ntmps33;go_wp2_with fail;refine(HN.out _).mono ?_;rintro e w1 ⟨rfl,rfl⟩;go_wp2_with fail;refine(af.out _).mono ?_;rintro e w1 ⟨rfl,rfl⟩;go_wp2_with fail;generalize w.alloc (.cells #[.int .i64 t.nx,.int .i64 t.no,.int .i64 t.cm,.slice va 12 vc] 24)=W at *;clear hl HN af;have H0:=hide (Below.refl W.heap.size W);go_loopw [32] (fun iv wr=>∃i:Nat,i≤12∧iv=.int .i64 (i:Nat)∧Hid (∀j,j<i→EntOk t j)∧Hid (Below W.heap.size W wr)) (fun iv _=>12-(intOf iv).toNat)
  case atStart=>exact ⟨0,Nat.zero_le _,rfl,fun j hj=>absurd hj (Nat.not_lt_zero _),H0⟩
  case round =>
   obtain⟨i,hi,rfl,ai,an⟩:=hrel;rename World=>wo;have bg:=HT.out.keep an.out;rcases Nat.lt_or_ge i 12 with ba | bl
   · (have i1:(i:Int)<12:=by omega);have ax:=HE.out.keep an.out (Nat.le_refl _);obtain⟨b,off,ha,bf⟩:=ax.at' i ba;replace ha:va=some ⟨b,off,none⟩:=ha;subst ha;obtain⟨x,hx⟩:∃x,x=t.en i:=⟨_,rfl⟩;(have ad:EnAt wo b (off+i*4) x:=by rw [hx];exact bf);have c0:=ad.c0;have c1:=ad.c1;have c2:=ad.c2;have c3:=ad.c3;have am:=Zaa wo (.cells #[.int .i64 x.tx,.int .i64 x.st,.int .i64 x.last,.int .i64 x.com] 127);have ap:=hide (Zac an.out am);have az:=bg.keep am;have av:=hide (Zc4.new wo x);have bb:=hide ((ax.keep am (Nat.le_refl _)).upto i (by omega));(have bj:Hid ((wo.alloc (.cells #[.int .i64 x.tx,.int .i64 x.st,.int .i64 x.last,.int .i64 x.com] 127)).heap.size=wo.heap.size+1):=by show _=_;simp);have ag:Hid (EntOk t i↔Stand t x∧(t.es.take i).any (clashB x)=false):=by
      show _↔_;rw [Zlx,hx,Znb (by rw [HL.out];omega)]
     have be:=hide (fun W=>Zi7 b off 12 vc i (by omega) (by omega) W);clear ax bf ad hx am bg;generalize bk:wo.alloc (.cells #[.int .i64 x.tx,.int .i64 x.st,.int .i64 x.last,.int .i64 x.com] 127)=W4 at *;have ar:=hide (Zpl w.heap.size t _ W4 az);have au:=hide (Zii wo.heap.size 0 x W4 av.out.at);have bc:=hide az;have bm:∀(fn:Fn) (first cap:Array Value) (w:World),(Instr.makeFunc fn first cap).run Tryz.prog w=.ok (.func fn first cap) w:=fun _ _ _ _=>rfl;clear az;by_cases hs:Stand t x
     case neg =>
      have hc:=bd.out (fun m=>hs (ag.out.1 (m.ok i ba)).1);subst hc;have ah:=hide (ZfK t ⟨some ⟨b,off,none⟩,12,vc⟩ x W4);rw [decide_eq_false hs] at ah;clear hs ai ag;go_wp2_with (first | refine Zah _ rfl 24 (.tmp 1) rfl (.pointer (some ⟨w.heap.size,0,none⟩)) (t.val ⟨some ⟨b,off,none⟩,12,vc⟩) rfl ar.out ?_ | refine Zah _ rfl 127 (.tmp 4) rfl (.pointer (some ⟨wo.heap.size,0,none⟩)) x.val rfl au.out ?_);refine ah.out.mono ?_;rintro e w5 ⟨rfl,aa⟩;have aj:=hide (Zac ap.out aa);clear aa;go_wp2_with fail;go_ret;exact⟨rfl,Zac HW.out aj.out⟩
     have ah:=hide (ZfK t ⟨some ⟨b,off,none⟩,12,vc⟩ x W4);rw [decide_eq_true hs] at ah;cases hcl:(t.es.take i).any (clashB x) with
     | true =>
      have hc:=bd.out (fun m=>by have:=(ag.out.1 (m.ok i ba)).2;rw [hcl] at this;cases this);subst hc;have ak:Hid (∀w5,Below W4.heap.size W4 w5→Calls Tryz.prog 73 #[.slice (some ⟨b,off,none⟩) i vc,.func (.func 74) #[] #[.pointer (some ⟨wo.heap.size,0,none⟩)]] w5 fun e w'=>e=.returned (.bool true)∧Below w5.heap.size w5 w'):=fun w5 aa=>by
       have:=ZgI w5 ⟨some ⟨b,off,none⟩,i,vc⟩ (t.es.take i) (bb.out.keep aa (Nat.le_refl _)) wo.heap.size x (av.out.at.keep aa (Nat.le_refl _));rw [hcl] at this;exact this
      clear hs ai ag hcl;go_wp2_with (first | refine Zah _ rfl 24 (.tmp 1) rfl (.pointer (some ⟨w.heap.size,0,none⟩)) (t.val ⟨some ⟨b,off,none⟩,12,vc⟩) rfl ar.out ?_ | refine Zah _ rfl 127 (.tmp 4) rfl (.pointer (some ⟨wo.heap.size,0,none⟩)) x.val rfl au.out ?_);refine ah.out.mono ?_;rintro e w5 ⟨rfl,aa⟩;have aj:=hide (Zac ap.out aa);have ae:=hide (ak.out w5 aa);have d3:=(bc.out.keep aa).c3;clear aa ak;go_wp2_with (refine Zdv _ rfl 22 (.tmp 42) none (some (.tmp 43)) rfl (.slice (some ⟨b,off,none⟩) i vc) (be.out _) ?_);refine ae.out.mono ?_;rintro e w6 ⟨rfl,al⟩;have ao:=hide (Zac aj.out al);clear al;go_wp2_with fail;go_ret;exact⟨rfl,Zac HW.out ao.out⟩
     | false =>
      have bh:Hid (∀j,j<i+1→EntOk t j):=by
       intro j hj;by_cases e:j=i
       · subst e;exact ag.out.2 ⟨hs,hcl⟩
       · exact ai.out j (by omega)
      have ak:Hid (∀w5,Below W4.heap.size W4 w5→Calls Tryz.prog 73 #[.slice (some ⟨b,off,none⟩) i vc,.func (.func 74) #[] #[.pointer (some ⟨wo.heap.size,0,none⟩)]] w5 fun e w'=>e=.returned (.bool false)∧Below w5.heap.size w5 w'):=fun w5 aa=>by
       have:=ZgI w5 ⟨some ⟨b,off,none⟩,i,vc⟩ (t.es.take i) (bb.out.keep aa (Nat.le_refl _)) wo.heap.size x (av.out.at.keep aa (Nat.le_refl _));rw [hcl] at this;exact this
      clear hs ai ag hcl;go_wp2_with (first | refine Zah _ rfl 24 (.tmp 1) rfl (.pointer (some ⟨w.heap.size,0,none⟩)) (t.val ⟨some ⟨b,off,none⟩,12,vc⟩) rfl ar.out ?_ | refine Zah _ rfl 127 (.tmp 4) rfl (.pointer (some ⟨wo.heap.size,0,none⟩)) x.val rfl au.out ?_);refine ah.out.mono ?_;rintro e w5 ⟨rfl,aa⟩;have aj:=hide (Zac ap.out aa);have ae:=hide (ak.out w5 aa);have d3:=(bc.out.keep aa).c3;clear aa ak;go_wp2_with (refine Zdv _ rfl 22 (.tmp 42) none (some (.tmp 43)) rfl (.slice (some ⟨b,off,none⟩) i vc) (be.out _) ?_);refine ae.out.mono ?_;rintro e w6 ⟨rfl,al⟩;have ao:=hide (Zac aj.out al);clear al;go_wp2_with fail;go_roundw
      case rel=>exact ⟨i+1,by omega,by go_num,bh,ao⟩
      case measure=>simp only [intOf];omega
   · (have i1:¬(i:Int)<12:=by omega);have hc:=aw.out ⟨aq.out.1,aq.out.2.1,aq.out.2.2,HL.out,fun j hj=>ai.out j (by omega)⟩;subst hc;clear ai;go_wp2_with fail;go_ret;exact⟨rfl,Zac HW.out an.out⟩
theorem ZnC (w:World)(x:Nat):Calls Tryz.prog 169 #[.int .u8 (x:Int)] w fun e w'=>e=.returned (.bool (!(x == 0)))∧w'=w:=by
 by_cases h:x=0
 · subst h;go_enter Tryz.func169,Tryz.ntmps169;go_wp2_with fail;go_ret;exact⟨rfl,rfl⟩
 · (have i1:¬(x:Int)=0:=by omega);(have i2:(x == 0)=false:=by simp [h]);rw [i2];go_enter Tryz.func169,Tryz.ntmps169;go_wp2_with fail;go_ret;exact⟨by simp [h],rfl⟩
theorem ZlG (w:World)(a:Option Addr)(len cap:Nat)(xs:List Nat)(h:Bs w a len xs)(ad:len≤1000000) :
    Calls Tryz.prog 184 #[.slice a len cap,.func (.func 169) #[] #[]] w fun e w'=>(∃z,e=.returned (.int .i64 z)∧decide (0≤z) = !(nul xs))∧w'=w:=by
  have HG:=hide h;have HL:=hide h.1;clear h;go_enter Tryz.func184,Tryz.ntmps184;go_wp2_with fail;go_loopw [8] (fun iv wr=>wr=w∧∃i:Nat,i≤len∧iv=.int .i64 (i:Nat)∧Hid (∀j,j<i→xs.getD j 0=0)) (fun iv _=>len-(intOf iv).toNat)
  case atStart=>exact ⟨rfl,0,Nat.zero_le _,rfl,fun _ h=>absurd h (Nat.not_lt_zero _)⟩
  case round =>
   obtain⟨rfl,i,hi,rfl,aa⟩:=hrel;rcases Nat.lt_or_ge i len with ac | ae
   · (have i1:(i:Int)<(len:Int):=by omega);obtain⟨bb,oo,ha,c0⟩:=HG.out.2.2 i ac;subst ha;obtain⟨x,hx⟩:∃x,x=xs.getD i 0:=⟨_,rfl⟩;rw [← hx] at c0;have HX:=hide hx;have ab:=hide (ZnC wr x);clear hx;by_cases h0:x=0
     · rw [h0] at ab c0;have HE:Hid (∀j,j<i+1→xs.getD j 0=0):=by
        intro j hj;by_cases e:j=i
        · rw [e,← HX.out];exact h0
        · exact aa.out j (by omega)
       clear aa HX h0;go_wp2_with fail;refine ab.out.mono ?_;rintro e w1 ⟨rfl,hw⟩;obtain rfl:=hw.symm;go_wp2_with fail;go_roundw
       case rel=>exact ⟨trivial,i+1,by omega,by go_num,HE⟩
       case measure=>simp only [intOf];omega
     · (have hb:(!(x == 0))=true:=by simp [h0]);rw [hb] at ab;have HE:Hid (decide (0≤(i:Int)) = !(nul xs)):=by
        show _=_;rw [Zq9 (i:=i) (by rw [HL.out];exact ac) (by rw [← HX.out];exact h0)];simp
       clear aa HX h0 hb;go_wp2_with fail;refine ab.out.mono ?_;rintro e w1 ⟨rfl,hw⟩;obtain rfl:=hw.symm;go_wp2_with fail;go_ret;exact⟨⟨_,rfl,HE.out⟩,rfl⟩
   · (have i1:¬(i:Int)<(len:Int):=by omega);have HE:Hid (decide (0≤(-1:Int)) = !(nul xs)):=by
      show _=_;rw [Zps (fun j hj=>aa.out j (by rw [HL.out] at hj;omega))];rfl
     clear aa;go_wp2_with fail;go_ret;exact⟨⟨_,rfl,HE.out⟩,rfl⟩
theorem ZjQ (w:World)(a:Option Addr)(len cap:Nat)(xs:List Nat)(h:Bs w a len xs)(aa:len≤1000000) :
    Calls Tryz.prog 168 #[.slice a len cap,.func (.func 169) #[] #[]] w fun e w'=>e=.returned (.bool (!(nul xs)))∧w'=w:=by
  have HX:=hide (ZlG w a len cap xs h aa);clear h;generalize nul xs=n at *;go_enter Tryz.func168,Tryz.ntmps168;go_wp2_with fail;refine HX.out.mono ?_;rintro e w1 ⟨⟨z,rfl,hz⟩,hw⟩;obtain rfl:=hw.symm;have HZ:=hide hz;clear HX hz;go_wp2_with fail;go_ret;exact⟨by rw [← HZ.out];rfl,rfl⟩
def ZpN (f:Lf) (e:Ending):Prop:=(MayL f∧e=.returned (.bool false))∨(¬MayL f∧e=.returned (.bool true))
theorem Zk0 {D:Nat→Prop}(w:World)(u v:Sl)(t:List Int)(l:List Sb)(hi:Gi D w u t)(hg:Gb D w v l) :
    Calls Tryz.prog 104 #[lfV u v] w fun e w'=>ZpN ⟨t,bss l⟩ e∧Below w.heap.size w w':=by
  have hA:=Zaa w (.cells #[u.val,v.val] 101);have hk:=Za6 w u.val v.val;have c0:=hk.c0;have c1:=hk.c1;have HC:=hide (ZjN _ u v t l (hi.below hA (Nat.le_refl _)) (hg.below hA (Nat.le_refl _)));have HA:=hide hA;clear hi hg hA hk;obtain⟨a,len,cap⟩:=v;obtain⟨ua,ul,uc⟩:=u;unfold lfV Sl.val at *;simp only at *;go_enter Tryz.func104,Tryz.ntmps104;go_wp2_with fail;refine HC.out.mono ?_;rintro e w1 ⟨aa,hb⟩;have HB:=hide (Zac HA.out hb);clear hb HC HA;rcases aa with ⟨hm,rfl⟩ | ⟨hm,rfl⟩
  · have HM:=hide hm;clear hm;go_wp2_with fail;go_ret;exact⟨.inl ⟨HM.out,rfl⟩,HB.out⟩
  · have HM:=hide hm;clear hm;go_wp2_with fail;go_ret;exact⟨.inr ⟨HM.out,rfl⟩,HB.out⟩
def IxNl (l:List Lf) (e:Ending):Prop:=((∀f∈l,MayL f)∧e=.returned (.int .i64 (-1)))∨((¬ ∀f∈l,MayL f)∧∃i:Nat,e=.returned (.int .i64 (i:Nat)))
theorem ZlH (w:World)(s:Sl)(L:List Lb)(h:Gl (fun _=>True) w s L) :
    Calls Tryz.prog 137 #[s.val,.func (.func 104) #[] #[]] w fun e w'=>IxNl (lfs L) e∧Below w.heap.size w w':=by
  obtain⟨a,len,cap⟩:=s;have HE:=hide h;have hl:L.length=len:=h.len;have al:len≤900:=h.big;have H0:=hide (Below.refl w.heap.size w);clear h;have HL:=hide hl;clear hl;unfold Sl.val;simp only;go_enter Tryz.func137,Tryz.ntmps137;go_wp2_with fail;go_loopw [8] (fun iv wr=>∃i:Nat,i≤len∧iv=.int .i64 (i:Nat)∧Hid (∀j,j<i→MayL (lf (lfs L) j))∧Hid (Below w.heap.size w wr)) (fun iv _=>len-(intOf iv).toNat)
  case atStart=>exact ⟨0,Nat.zero_le _,rfl,fun j hj=>absurd hj (Nat.not_lt_zero _),H0⟩
  case round =>
   obtain⟨i,hi,rfl,aa,ae⟩:=hrel;rcases Nat.lt_or_ge i len with ak | an
   · (have i1:(i:Int)<(len:Int):=by omega);have hr:=HE.out.below ae.out (Nat.le_refl _);have ab:i<(Sl.mk a len cap).len:=ak;obtain⟨b1,off,ha,c0,c1⟩:=hr.cell i ab;replace ha:a=some ⟨b1,off,none⟩:=ha;subst ha;have ad:=hr.at ab;have af:=Zf1 L i;obtain⟨x,hx⟩:∃x,x=L.getD i Lb.zero:=⟨_,rfl⟩;rw [← hx] at c0 c1 ad af;have ah:=hide (Zk0 wr x.u x.v x.t x.l ad.1 ad.2);have ai:=hide (ZdC (b:=b1) (o:=off+i*2) c0 c1);have ac:Hid (lf (lfs L) i=⟨x.t,bss x.l⟩):=af;clear c0 c1 ad hr hx af;go_wp2_with (refine Zah _ rfl 101 (.tmp 14) rfl (.pointer (some ⟨b1,off+i*2,none⟩)) (lfV x.u x.v) rfl ai.out ?_);refine ah.out.mono ?_;rintro e w1 ⟨am,aj⟩;have ag:=hide (Zac ae.out aj);clear aj ah ai;rcases am with ⟨hm,rfl⟩ | ⟨hm,rfl⟩
     · have HN:Hid (∀j,j<i+1→MayL (lf (lfs L) j)):=by
        intro j hj;by_cases e:j=i
        · rw [e,ac.out];exact hm
        · exact aa.out j (by omega)
       clear hm aa ac;go_wp2_with fail;go_roundw
       case rel=>exact ⟨i+1,by omega,by go_num,HN,ag⟩
       case measure=>simp only [intOf];omega
     · have HF:Hid (¬ ∀f∈lfs L,MayL f):=fun hh=>hm (by rw [← ac.out];exact hh _ (Zc6 (by rw [Zbe,HL.out];exact ak)));clear hm aa ac;go_wp2_with fail;go_ret;exact⟨.inr ⟨HF.out,i,rfl⟩,ag.out⟩
   · (have i1:¬(i:Int)<(len:Int):=by omega);have HF:Hid (∀f∈lfs L,MayL f):=by
      intro f hf;obtain⟨j,hj,rfl⟩:=List.getElem_of_mem hf;have:=aa.out j (by rw [Zbe,HL.out] at hj;omega);rwa [ZdX hj] at this
     clear aa;go_wp2_with fail;go_ret;exact⟨.inl ⟨HF.out,rfl⟩,ae.out⟩
theorem ZjR (w:World)(s:Sl)(L:List Lb)(h:Gl (fun _=>True) w s L) :
    Calls Tryz.prog 103 #[s.val,.func (.func 104) #[] #[]] w fun e w'=>(((∀f∈lfs L,MayL f)∧e=.returned (.bool false))∨((¬ ∀f∈lfs L,MayL f)∧e=.returned (.bool true)))∧Below w.heap.size w w':=by
  have HX:=hide (ZlH w s L h);clear h;unfold Sl.val at *;go_enter Tryz.func103,Tryz.ntmps103;go_wp2_with fail;refine HX.out.mono ?_;rintro e w1 ⟨hx,hb⟩;have HB:=hide hb;clear hb HX;rcases hx with ⟨hm,rfl⟩ | ⟨hm,i,rfl⟩
  · have HM:=hide hm;clear hm;go_wp2_with fail;go_ret;exact⟨.inl ⟨HM.out,rfl⟩,HB.out⟩
  · have HM:=hide hm;(have aa:(0:Int)≤(i:Int):=by omega);clear hm;go_wp2_with fail;go_ret;exact⟨.inr ⟨HM.out,rfl⟩,HB.out⟩
theorem Zq8 (h:nul xs=true):xs=List.replicate xs.length 0:=by
 rw [List.eq_replicate_iff];refine⟨rfl,fun x hx=>?_⟩;unfold nul at h;have:=List.all_eq_true.1 h x hx;simpa using this
theorem Zk3 (n:Nat):nul (List.replicate n 0)=true:=by
 unfold nul;rw [List.all_eq_true];intro x hx;rw [(List.mem_replicate.1 hx).2];rfl
theorem ZoL (hn:nul (xs.drop (20+8*xs.getD 19 0))=false):decH xs=none:=by
 cases hd:decH xs with
 | none=>rfl
 | some r =>
  obtain⟨h1,h2,h3,h4⟩:=Ze6 hd;have hm:=Zem h3;have aa:=ZlD hm;rw [h4] at aa;have hl:=ZbZ r;have:xs.drop (20+8*xs.getD 19 0)=List.replicate (52-r.bytes.length) 0:=by
   rw [aa,← h4,← hl];unfold hpB;rw [List.drop_left]
  rw [this,Zk3] at hn;cases hn
theorem ZpU (hx:Bytes xs)(h1:xs.length=52)(h4:xs.getD 19 0≤4)(hn:nul (xs.drop (20+8*xs.getD 19 0))=true){r:Rw}(h:decB (xs.take (20+8*xs.getD 19 0))=some r):decH xs=some r:=by
 refine Zjd h1 h4 h ?_;have hc:=ZgO (fun x hh=>hx x (List.mem_of_mem_take hh)) h;have hz:=Zq8 hn;unfold hpB;rw [hc,List.length_take,Nat.min_eq_left (by omega)];rw [List.length_drop,h1] at hz;rw [← hz,List.take_append_drop]
theorem Zm4 (a:Option Addr)(len cap:Nat)(xs:List Nat)(w:World)(h:Came w a len cap xs)(hl:len≠52) :
    Calls Tryz.prog 140 #[.slice a len cap] w (Zba xs w):=by
  have aa:∀(w:World) (a:Addr) (m:Mode) (x:Nat),(store a (.float .f64 x) m).run Tryz.prog w=stored Tryz.prog w a (.float .f64 x) m:=fun w a m x=>run_store Tryz.prog w a _ m rfl;have HZ:=hide (Zai w zeroR (.slice none 0 0));have HW:=hide (Zaa w (.cells #[.float .f64 0,.bool false,.slice none 0 0,.int .i64 0,.int .i64 0,.int .i64 0] 39));have HN:=hide (ZgL (xs:=xs) (by rw [h.bs.1];exact hl));(have i1:¬(len:Int)=52:=by omega);have i2:((len:Int) == 52)=false:=beq_eq_false_iff_ne.2 i1;clear h;go_enter Tryz.func140,Tryz.ntmps140;go_wp2_with fail;refine bodyPost_ret (Zbg rfl HZ.out _ _ rfl rfl ⟨_,_,_,rfl⟩) rfl ?_;exact Zba.no HN.out HW.out
theorem ZkM (a:Option Addr)(cap:Nat)(xs:List Nat)(w:World)(h:Came w a 52 cap xs)(h4:4<xs.getD 19 0) :
    Calls Tryz.prog 140 #[.slice a 52 cap] w (Zba xs w):=by
  have aa:∀(w:World) (a:Addr) (m:Mode) (x:Nat),(store a (.float .f64 x) m).run Tryz.prog w=stored Tryz.prog w a (.float .f64 x) m:=fun w a m x=>run_store Tryz.prog w a _ m rfl;have HZ:=hide (Zai w zeroR (.slice none 0 0));have HW:=hide (Zaa w (.cells #[.float .f64 0,.bool false,.slice none 0 0,.int .i64 0,.int .i64 0,.int .i64 0] 39));have HN:=hide (ZgM (xs:=xs) h4);have hb:xs.getD 19 0<256:=by
   have hl:=h.bs.1;have:=h.bs.2.1 (xs.getD 19 0) (by simp [List.getD,show 19<xs.length by omega]);omega
  obtain⟨b,off,rfl,c19⟩:=(h.bs.keep HW.out (Nat.le_refl _)).2.2 19 (by omega);generalize xs.getD 19 0=n at *;(have i2:(52:Int)<20+8*(n:Int):=by omega);(have ab:IntKind.i64.wrap (8*(n:Int))=8*(n:Int):=by rw [IntKind.wrap_i64];omega);(have ac:IntKind.i64.wrap (20+8*(n:Int))=20+8*(n:Int):=by rw [IntKind.wrap_i64];omega);(have ad:IntKind.i64.wrap (n:Int)=(n:Int):=by rw [IntKind.wrap_i64];omega);clear h;go_enter Tryz.func140,Tryz.ntmps140;go_wp2_with fail;refine bodyPost_ret (Zbg rfl HZ.out _ _ rfl rfl ⟨_,_,_,rfl⟩) rfl ?_;exact Zba.no HN.out HW.out
theorem ZkN (a:Option Addr)(cap:Nat)(xs:List Nat)(w:World)(h:Came w a 52 cap xs)(h4:xs.getD 19 0≤4) :
    Calls Tryz.prog 140 #[.slice a 52 cap] w (Zba xs w):=by
  have bk:∀(w:World) (a:Addr) (m:Mode) (x:Nat),(store a (.float .f64 x) m).run Tryz.prog w=stored Tryz.prog w a (.float .f64 x) m:=fun w a m x=>run_store Tryz.prog w a _ m rfl;have HZ:=hide (Zai w zeroR (.slice none 0 0));have HW:=hide (Zaa w (.cells #[.float .f64 0,.bool false,.slice none 0 0,.int .i64 0,.int .i64 0,.int .i64 0] 39));have bg:Hid (xs.length=52):=h.bs.1;have bf:=hide h.bs.2.1;have HC:=hide h;have am:=hide (Zlv (xs:=xs));have ao:=hide (ZoL (xs:=xs));have ag:Hid (nul (xs.drop (20+8*xs.getD 19 0))=true→∀r,decB (xs.take (20+8*xs.getD 19 0))=some r→decH xs=some r):=fun hn r hr=>ZpU bf.out bg.out h4 hn hr;have au:=h.bs.keep HW.out (Nat.le_refl _);have ad:=au.from (cap:=cap) (k:=20+8*xs.getD 19 0) (by omega) h.le;have af:=hide (ZjQ _ _ _ (cap-(20+8*xs.getD 19 0)) _ ad (by omega));obtain⟨b,off,rfl,c19⟩:=au.2.2 19 (by omega);have HT:=hide ((HC.out.keep HW.out (Nat.le_refl _)).top (k:=20+8*xs.getD 19 0) (by omega));clear au ad;generalize xs.getD 19 0=n at *;(have i2:¬(52:Int)<20+8*(n:Int):=by omega);(have av:fromA (some ⟨b,off,none⟩) cap 0=some ⟨b,off,none⟩:=by unfold fromA;have:=HC.out.le;rw [if_neg (by omega)];rfl);rw [av] at HT;have HD:=hide (ZjT (some ⟨b,off,none⟩) (20+8*n) cap (xs.take (20+8*n)) _ HT.out (by omega));have bh:52≤cap:=HC.out.le;have bl:∀w:World,(Instr.sliceAt 107 (.slice (some ⟨b,off,none⟩) 52 cap) none (some (.int .i64 (20+8*(n:Int)))) none).run Tryz.prog w=.ok (.slice (some ⟨b,off,none⟩) (20+8*n) cap) w:=by
   intro w;have:=ZfJ (some ⟨b,off,none⟩) 52 cap (20+8*n) (by omega) w;rw [av,show ((20+8*n:Nat):Int)=20+8*(n:Int) by omega] at this;exact this
  obtain⟨fa,ax⟩:∃fa,fa=fromA (some ⟨b,off,none⟩) cap (20+8*n):=⟨_,rfl⟩;obtain⟨fl,ay⟩:∃fl,fl=52-(20+8*n):=⟨_,rfl⟩;obtain⟨fc,aw⟩:∃fc,fc=cap-(20+8*n):=⟨_,rfl⟩;have bi:∀w:World,(Instr.sliceAt 107 (.slice (some ⟨b,off,none⟩) 52 cap) (some (.int .i64 (20+8*(n:Int)))) none none).run Tryz.prog w=.ok (.slice fa fl fc) w:=by
   intro w;have:=Zc0 (some ⟨b,off,none⟩) 52 cap (20+8*n) (by omega) w;rw [← ax,← ay,← aw,show ((20+8*n:Nat):Int)=20+8*(n:Int) by omega] at this;exact this
  rw [← ax,← ay,← aw] at af;(have bm:IntKind.i64.wrap (8*(n:Int))=8*(n:Int):=by rw [IntKind.wrap_i64];omega);(have bn:IntKind.i64.wrap (20+8*(n:Int))=20+8*(n:Int):=by rw [IntKind.wrap_i64];omega);(have bo:IntKind.i64.wrap (n:Int)=(n:Int):=by rw [IntKind.wrap_i64];omega);clear h av HT ax ay aw;cases hnu:nul (xs.drop (20+8*n)) with
  | false =>
   rw [hnu] at af;have HN:=hide (ao.out hnu);clear hnu ao ag am HD;go_enter Tryz.func140,Tryz.ntmps140;go_wp2_with fail;refine af.out.mono ?_;rintro e w1 ⟨rfl,hw⟩;obtain rfl:=hw.symm;go_wp2_with fail;refine bodyPost_ret (Zbg rfl HZ.out _ _ rfl rfl ⟨_,_,_,rfl⟩) rfl ?_;exact Zba.no HN.out HW.out
  | true =>
   rw [hnu] at af;have ac:=hide (ag.out hnu);clear hnu ao ag;go_enter Tryz.func140,Tryz.ntmps140;go_wp2_with fail;refine af.out.mono ?_;rintro e w1 ⟨rfl,hw⟩;obtain rfl:=hw.symm;go_wp2_with fail;refine HD.out.mono ?_;intro e w1 hr;have bb:=hide (Zac HW.out hr.1);have bc:=hide (HZ.out.keep hr.1);cases hd:decB (xs.take (20+8*n)) with
   | none =>
    have HN:=hide (am.out hd);have az:=hr.2.1 hd;subst az;have al:=hide (Zaa w1 (.cells #[.float .f64 zeroR.key,.bool zeroR.dead,.slice none 0 0,.int .i64 zeroR.wr,.int .i64 zeroR.cell,.int .i64 zeroR.no] 39));clear hr hd am ac HD c19 af;unfold Zdw;have ae:Hid (Below w.heap.size w (w1.alloc (.cells #[.float .f64 zeroR.key,.bool zeroR.dead,.slice none 0 0,.int .i64 zeroR.wr,.int .i64 zeroR.cell,.int .i64 zeroR.no] 39))):=Zac bb.out al.out;have aa:=hide (bc.out.keep al.out);unfold zeroR at ae aa al;simp only at ae aa al;have ab:=hide (Zai w1 zeroR (.slice none 0 0));unfold zeroR at ab;simp only at ab;generalize ai:w1.alloc (.cells #[.float .f64 0,.bool false,.slice none 0 0,.int .i64 0,.int .i64 0,.int .i64 0] 39)=WX at ae aa ab;have aq:=hide ai;clear ai;have z0:=aa.out.c0;have z1:=aa.out.c1;have z2:=aa.out.c2;have z3:=aa.out.c3;have z4:=aa.out.c4;have z5:=aa.out.c5;have f0:=aa.out.fz;have x0:=ab.out.c0;have x1:=ab.out.c1;have x2:=ab.out.c2;have x3:=ab.out.c3;have x4:=ab.out.c4;have x5:=ab.out.c5;simp only at z0 z1 z3 z4 z5 x0 x1 x3 x4 x5;go_upto_region 7 with fail;rw [aq.out];go_wp2_with fail;show bodyPost Tryz.prog Tryz.f140 _ Exit.ret _ (setRw WX w.heap.size zeroR (.slice none 0 0));refine ZbV rfl aa.out zeroR (.slice none 0 0) (.bool false) ⟨_,_,_,rfl⟩ (by rfl) (by rfl) (by rfl) ?_;exact Zba.no HN.out (Zal ae.out (Nat.le_refl _) _ _)
   | some r =>
    obtain⟨be,ra,rl,rc,az,bd,ak⟩:=hr.2.2 r hd;subst az;have HY:=hide (ac.out r hd);have ah:=hide be;have an:=Zaa w1 (.cells #[.float .f64 r.key,.bool r.dead,.slice ra rl rc,.int .i64 r.wr,.int .i64 r.cell,.int .i64 r.no] 39);have ae:=hide (Zac bb.out an);have aa:=hide (bc.out.keep an);have ab:=hide (Zai w1 r (.slice ra rl rc));have ap:=hide ((ak.lower (b':=w.heap.size) HW.out.size).keep an (Nat.le_refl _));have aj:=Zem hd;have bj:=(Rw.may_parts aj).2.1;have ba:rl=r.xs.length:=(bd.len).symm;(have ar:Hid (r.xs.length≤100):=by show _≤_;omega);unfold Rw.val;generalize ai:w1.alloc (.cells #[.float .f64 r.key,.bool r.dead,.slice ra rl rc,.int .i64 r.wr,.int .i64 r.cell,.int .i64 r.no] 39)=WX at ae aa ab ap;have aq:=hide ai;clear ai hr hd am ac HD c19 af be bd ak an aj bj ba;have z0:=aa.out.c0;have z1:=aa.out.c1;have z2:=aa.out.c2;have z3:=aa.out.c3;have z4:=aa.out.c4;have z5:=aa.out.c5;have f0:=aa.out.fz;simp only [zeroR] at z0 z1 z3 z4 z5;have x0:=ab.out.c0;have x1:=ab.out.c1;have x2:=ab.out.c2;have x3:=ab.out.c3;have x4:=ab.out.c4;have x5:=ab.out.c5;go_upto_region 7 with fail;rw [aq.out];go_wp2_with fail;show bodyPost Tryz.prog Tryz.f140 _ Exit.ret _ (setRw WX w.heap.size r (.slice ra rl rc));refine ZbV rfl aa.out r (.slice ra rl rc) (.bool true) ⟨_,_,_,rfl⟩ (by rfl) (by rfl) (by rfl) ?_;refine⟨Zal ae.out (Nat.le_refl _) _ _,(fun h=>by rw [HY.out] at h;cases h),fun q h=>?_⟩;rw [HY.out] at h;simp only [Option.some.injEq] at h;subst h;exact⟨ah.out,ra,rl,rc,rfl,(ap.out.setRw aa.out _ _).fsAt ah.out.xs (by have:=ar.out;omega),ap.out.setRw aa.out _ _⟩
theorem Zm3 (a:Option Addr)(len cap:Nat)(xs:List Nat)(w:World)(h:Came w a len cap xs) :
    Calls Tryz.prog 140 #[.slice a len cap] w (Zba xs w):=by
  by_cases hl:len=52
  · subst hl;rcases Nat.lt_or_ge 4 (xs.getD 19 0) with h4 | h4
    · exact ZkM a cap xs w h h4
    · exact ZkN a cap xs w h h4
  · exact Zm4 a len cap xs w h hl
open Go.RowKit Go.Sort
def uE (x:Int):Value:=.int .u64 x
structure Sq (w0:World) (blk off m:Nat) (W:World) (d:Array Int):Prop where
  size:d.size=m
  holds:Holds uE W blk off d
  frm:Frm (fun k=>k=blk) w0 W
theorem Sq.cell (h:Sq w0 blk off m W d)(t:Nat)(ht:t<m):W.cell? ⟨blk,off+t,none⟩=some (.int .u64 d[t]!):=(h.holds t (by rw [h.size];exact ht)).1
theorem Sq.fz (h:Sq w0 blk off m W d)(t:Nat)(ht:t<m):W.frozen? ⟨blk,off+t,none⟩=false:=(h.holds t (by rw [h.size];exact ht)).2
theorem Sq.drewN (h:Sq w0 blk off m W d)(q:Nat):Sq w0 blk off m (W.drewN q) d:=
 ⟨h.size,h.holds,⟨h.frm.os,h.frm.tape,h.frm.output,h.frm.size,h.frm.block⟩⟩
theorem Sq.drew1 (h:Sq w0 blk off m W d):Sq w0 blk off m W.drew d:=h.drewN 1
theorem Sq.lt (h:Sq w0 blk off m W d)(hm:0<m):blk<W.heap.size:=World.block_lt_of_cell? W _ (h.cell 0 hm)
theorem Sq.below {W':World}(h:Sq w0 blk off m W d)(hb:Below W.heap.size W W'):Sq w0 blk off m W' d:=by
 refine⟨h.size,fun t ht=>?_,h.frm.trans (G:=fun _=>False) (Frm.ofBelow hb) (fun _ _ h=>h.elim)⟩;have hl:blk<W.heap.size:=World.block_lt_of_cell? W _ (h.holds t ht).1;refine⟨(hb.cell (p:=⟨blk,off+t,none⟩) hl).trans (h.holds t ht).1,?_⟩;rw [← (h.holds t ht).2];simp only [World.frozen?,hb.block blk hl]
theorem Sq.swap (h:Sq w0 blk off m W d)(q i j:Nat)(hi:i<m)(hj:j<m):Sq w0 blk off m (((W.drewN q).setCell ⟨blk,off+i,none⟩ (.int .u64 d[j]!)).setCell ⟨blk,off+j,none⟩ (.int .u64 d[i]!)) (swp d i j):=by
 have hd:=h.drewN q;generalize W.drewN q=V at hd;have hs:=hd.size;have e:(V.setCell ⟨blk,off+i,none⟩ (.int .u64 d[j]!)).setCell ⟨blk,off+j,none⟩ (.int .u64 d[i]!)=putRow uE V blk off (swp d i j):=by
  have:=putRow_swp uE V blk off d i j (by omega) (by omega);rw [putRow_self uE V blk off d hd.holds] at this;exact this
 refine⟨by rw [size_swp];exact hs,?_,(hd.frm.setCell rfl _).setCell rfl _⟩;rw [e];exact holds_putRow uE V blk off d _ hd.holds (by rw [size_swp])
theorem Zaf (x y:Int)(w:World):Calls Tryz.prog 195 #[.int .u64 x,.int .u64 y] w fun e w'=>e=.returned (.bool (ltInt x y))∧w'=w:=by
 have hN:∀(z:Int) (w:World),Calls Tryz.prog 206 #[.int .u64 z] w fun e w'=>e=.returned (.bool false)∧w'=w:=by
  intro z w;go_enter Tryz.func206,Tryz.ntmps206;go_wp2_with fail;go_ret;exact⟨by simp,rfl⟩
 go_enter Tryz.func195,Tryz.ntmps195;go_wp2_with (go_at_call 206;refine (hN _ _).mono ?_;rintro e w' ⟨rfl,rfl⟩);go_ret;exact⟨rfl,rfl⟩
theorem ZlK (w0 W:World)(blk off m cap a b:Nat)(d:Array Int)(h:Sq w0 blk off m W d)(ag:a≤b)(hb:b≤m)(hm:m<1000000) :
    Calls Tryz.prog 189 #[.slice (some ⟨blk,off,none⟩) m cap,.int .i64 (a:Nat),.int .i64 (b:Nat)] W fun e W'=>e=.returned (.tuple #[])∧Sq w0 blk off m W' (insertionSort ltInt d a b):=by
  have HS:=hide h;clear h;go_enter Tryz.func189,Tryz.ntmps189;go_wp2_with fail;go_loopw [6] (fun vi wr=>∃(i:Nat) (dk:Array Int),vi=.int .i64 (i:Nat)∧a<i∧i≤b+1∧Hid (Sq w0 blk off m wr dk)∧Hid (insOuter ltInt a b i dk=insOuter ltInt a b (a+1) d)) (fun vi _=>b+1-(intOf vi).toNat)
  case atStart=>exact ⟨a+1,d,by go_num,by omega,by omega,HS,rfl⟩
  case round =>
   obtain⟨i,dk,rfl,ah,am,ad,hO⟩:=hrel;rcases Nat.lt_or_ge i b with af | al
   · (have j1:(i:Int)<(b:Int):=by omega);go_wp2_with fail;go_loopw [7] (fun vj wr2=>∃(j:Nat) (dj:Array Int),vj=.int .i64 (j:Nat)∧a≤j∧j≤i∧Hid (Sq w0 blk off m wr2 dj)∧Hid (insInner ltInt a j dj=insInner ltInt a i dk)) (fun vj _=>(intOf vj).toNat)
     case atStart=>exact ⟨i,dk,rfl,by omega,Nat.le_refl _,ad,rfl⟩
     case round =>
      rename World=>wr2;obtain⟨j,dj,rfl,ai,an,aa,hI⟩:=hrel;have OUT:(j≤a∨ltInt dj[j]! dj[j-1]! = false)→Hid (insOuter ltInt a b (i+1) dj=insOuter ltInt a b (a+1) d):=fun hs=>by
       show _=_;rw [← hO.out,insOuter_go _ _ _ _ _ af,← hI.out,insInner_stop _ _ _ _ hs]
      by_cases ae:a<j
      · obtain⟨G,hG⟩:∃G:Nat→Int,∀t,G t=dj[t]!:=⟨fun t=>dj[t]!,fun _=>rfl⟩;(have aj:∀t,t<m→wr2.cell? ⟨blk,off+t,none⟩=some (.int .u64 (G t)):=fun t ht=>by rw [hG];exact aa.out.cell t ht);have ak:∀t,t<m→wr2.frozen? ⟨blk,off+t,none⟩=false:=aa.out.fz;have HG:Hid (∀t,G t=dj[t]!):=hG;(have j2:(a:Int)<(j:Int):=by omega);have ab:=hide OUT;clear hG OUT;cases hl:ltInt (G j) (G (j-1)) with
        | true =>
         have HL:Hid (insInner ltInt a (j-1) (swp dj j (j-1))=insInner ltInt a i dk):=by
          show _=_;rw [← hI.out,insInner_go ltInt a j dj ae (by rw [← HG.out,← HG.out];exact hl)]
         have HW:∀q,Hid (Sq w0 blk off m (((wr2.drewN q).setCell ⟨blk,off+j,none⟩ (.int .u64 (G (j-1)))).setCell ⟨blk,off+(j-1),none⟩ (.int .u64 (G j))) (swp dj j (j-1))):=fun q=>by
          rw [HG.out,HG.out];exact aa.out.swap q j (j-1) (by omega) (by omega)
         clear hI aa ab;go_wp2_with fail;go_quiet (first | (go_at_call 195;refine Calls.quiet_of_same (Zaf _ _ _)));go_wp2_with fail;go_region;(all_goals go_wp2_with fail);go_roundw
         case rel=>exact ⟨j-1,swp dj j (j-1),by congr 1;omega,by omega,by omega,HW (nq+1),HL⟩
         case measure=>simp only [intOf];omega
        | false =>
         have ac:Hid (insOuter ltInt a b (i+1) dj=insOuter ltInt a b (a+1) d):=ab.out (.inr (by rw [← HG.out,← HG.out];exact hl));have HW:∀q,Hid (Sq w0 blk off m (wr2.drewN q) dj):=fun q=>aa.out.drewN q;clear hI aa ab;go_wp2_with fail;go_quiet (first | (go_at_call 195;refine Calls.quiet_of_same (Zaf _ _ _)));go_wp2_with fail;go_roundw
         case rel=>exact ⟨i+1,dj,by go_num,by omega,by omega,HW nq,ac⟩
         case measure=>simp only [intOf];omega
      · (have j2:¬(a:Int)<(j:Int):=by omega);have ac:=OUT (.inl (by omega));have HW:∀q,Hid (Sq w0 blk off m (wr2.drewN q) dj):=fun q=>aa.out.drewN q;clear OUT hI aa;go_wp2_with fail;go_quiet (first | (go_at_call 195;refine Calls.quiet_of_same (Zaf _ _ _)));go_wp2_with fail;go_roundw
        case rel=>exact ⟨i+1,dj,by go_num,by omega,by omega,HW nq,ac⟩
        case measure=>simp only [intOf];omega
   · (have j1:¬(i:Int)<(b:Int):=by omega);have HE:Hid (dk=insertionSort ltInt d a b):=by
      show _=_;unfold insertionSort;rw [← hO.out,insOuter_stop _ _ _ _ _ (by omega)]
     go_wp2_with fail;go_end0;exact⟨rfl,by rw [← HE.out];exact ad.out⟩
end Go.Proofs.YtiecfcjlhldhdaaGreat
