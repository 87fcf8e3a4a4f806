/-
  Lemmas.
-/
import Derived.Test.YtdojdcncncgncaaGreatKtba
import Derived.Test.YtdojdcncncgncaaGreatKtaw
import Derived.Laws.MakeOwn
import Derived.Lib.SmallJoins
import Derived.Laws.Cover2
import Derived.Deep.Slices
namespace Go.Proofs.YtdojdcncncgncaaGreat
open Go.RowKit
set_option linter.unusedVariables false
set_option maxRecDepth 100000
set_option maxHeartbeats 4000000
variable {n len cap:Nat}{a:Option Addr}
structure Znd (w:World) (s:Sl) (l:List Rx):Prop where
  rz:Rz w s.a s.len l
  le:s.len≤s.cap
  nil:s.a=none→s.cap=0
  flt:∀x∈l,ColF w x
def posK (k:Nat):List Rw→Nat
  | []=>0
  | x :: l=>if Fl.less x.key k=true then posK k l+1 else 0
def insK (l:List Rw) (r:Rw):List Rw:=l.take (posK r.key l) ++ [r] ++ l.drop (posK r.key l)
def Zg8 (lo hi:Nat) (o:List Rw) (h:Hr):List Rw:=if (Fl.less h.r.key lo || !(Fl.less h.r.key hi))=true then o else insK o h.r
def Zek (lo hi:Nat) (l:List Hr):List Rw:=l.foldl (Zg8 lo hi) []
def Zer (w:World) (rs:List Rw) (e:Ending) (w':World):Prop:=Below w.heap.size w w'∧∃(s:Sl) (l:List Rx),e=.returned (.slice s.a s.len s.cap)∧Znd w' s l∧rws l=rs
theorem ZjI (n:Nat):madeCells (Value.int .u8 0).cells (n*1)=(vals (List.replicate n 0)).toArray:=by
 apply Array.ext
 · simp [size_madeCells,vals]
 · intro i h1 h2;simp [madeCells,vals,Value.cells,Nat.mod_one]
theorem ZjJ (n:Nat)(hn:n≤10000000)(w:World):(Instr.makeSlice 56 (.int .i64 (n:Nat)) (.int .i64 (n:Nat))).run Tryz.prog w=.ok (.slice (some ⟨w.heap.size,0,none⟩) n n) (w.alloc (.cells (vals (List.replicate n 0)).toArray 5)):=by
 obtain⟨i0,hi,ab,aa,ac⟩:=info_parts info5;have h:=run_makeSlice (P:=Tryz.prog) w 56 5 i0 (.int .u8 0) Tryz.underlying56 hi ab .i64 .i64 (n:Nat) (n:Nat) (by omega) (by omega) (by rw [aa];simp;omega) (by rw [ac];simp;omega) (by omega);rw [aa,show (n:Int).toNat=n by omega,ZjI] at h;exact h
theorem Zll (n:Nat):madeCells (Value.int .i64 0).cells (n*1)=(Zax (List.replicate n 0)).toArray:=by
 apply Array.ext
 · simp [size_madeCells,Zax]
 · intro i h1 h2;simp [madeCells,Zax,Value.cells,Nat.mod_one]
theorem Zln (n:Nat)(hn:n≤1000000)(w:World):(Instr.makeSlice 46 (.int .i64 (n:Nat)) (.int .i64 (n:Nat))).run Tryz.prog w=.ok (.slice (some ⟨w.heap.size,0,none⟩) n n) (w.alloc (.cells (Zax (List.replicate n 0)).toArray 3)):=by
 obtain⟨i0,hi,ab,aa,ac⟩:=info_parts ZeG;have h:=run_makeSlice (P:=Tryz.prog) w 46 3 i0 (.int .i64 0) Tryz.underlying46 hi ab .i64 .i64 (n:Nat) (n:Nat) (by omega) (by omega) (by rw [aa];simp;omega) (by rw [ac];simp;omega) (by omega);rw [aa,show (n:Int).toNat=n by omega,Zll] at h;exact h
section
variable {ops : Array Oper} {rest : List Oper} {o : Oper} {a : Act} {Q : Exit → Act → World → Prop}
theorem Zff (w:World)(ab:o.guard=none)(t:TypeId)(x y:Operand)(ho:o.op=.makeSlice t x y)(u u' v:Value)(hu:a.eval x=u)(hu':a.eval y=u')(w':World)(aa:(Instr.makeSlice t u u').run Tryz.prog w=.ok v w')(hK:wpList Tryz.prog ops Q rest (a.put o.dst v) w'):wpList Tryz.prog ops Q (o :: rest) a w:=by
 refine ZcU w ab v w' ?_ hK;have e:execOp a.eval o=(do pure (.value (← Instr.makeSlice t (a.eval x) (a.eval y)))):=by
  unfold execOp;rw [ho]
 rw [e,hu,hu'];simp [aa]
end
open Go.ChangeShapes Go.WideShapes Go.ChangeAt Go.RowKit
structure InI (w:World) (s:Sl) (t:List Int):Prop where
  len:t.length=s.len
  nil:s.a=none→s.cap=0
  le:s.len≤s.cap
  big:s.len≤9223372036854775807
  cell:∀i,i<s.len→∃b off,s.a=some ⟨b,off,none⟩∧w.cell? ⟨b,off+i,none⟩=some (.int .i64 (t.getD i 0))
theorem InI.gi {w:World}{s:Sl}{t:List Int}(h:InI w s t)(hl:s.len≤1000000):Gi (fun _=>True) w s t:=⟨h.len,h.nil,h.le,hl,fun _ _ _=>trivial,h.cell⟩
structure InS (w:World) (s:Sl) (l:List Sb):Prop where
  len:l.length=s.len
  nil:s.a=none→s.cap=0
  le:s.len≤s.cap
  big:s.len≤9223372036854775807
  cell:∀i,i<s.len→∃b off,s.a=some ⟨b,off,none⟩∧w.cell? ⟨b,off+i,none⟩=some (l.getD i Sb.zero).s.val
  bs:∀x∈l,Came w x.s.a x.s.len x.s.cap x.bs
theorem InS.gb {w:World}{s:Sl}{l:List Sb}(h:InS w s l)(hl:s.len≤1000)(hb:∀x∈l,x.s.len≤1000):Gb (fun _=>True) w s l:=
 ⟨h.len,h.nil,h.le,hl,fun _ _ _=>trivial,h.cell,fun x hx=>⟨⟨h.bs x hx,fun _ _ _=>trivial⟩,by have:=(h.bs x hx).bs.1;have:=hb x hx;omega⟩⟩
section
variable {H : Type} {enc : TypeId × Value → H} {w : World} {base : Nat} {spare : Nat → Bool} {held : Bool}
theorem ZjP {y:DataW H × List MemPlace}(h:DataW.trod enc Tryz.prog w base spare held n 46 [.slice a len cap]=some y):∃t,InI w ⟨a,len,cap⟩ t:=by
 (have hC:Tryz.prog.cellsOf 3=1:=by kernel_rfl);rcases Go.Deep.open_slice1 Tryz.underlying46 hC h with ⟨aa,_⟩ | ⟨x,l,c,m,k,V,D,Pl,aa,hb,hl,hm,ac,_,hx⟩
 · simp only [List.cons.injEq,Value.slice.injEq,and_true] at aa;obtain⟨rfl,rfl,rfl⟩:=aa;exact⟨[],⟨rfl,fun _=>rfl,Nat.le_refl _,Nat.zero_le _,fun j hj=>absurd hj (Nat.not_lt_zero _)⟩⟩
 · simp only [List.cons.injEq,Value.slice.injEq,and_true] at aa;obtain⟨rfl,rfl,rfl⟩:=aa;(have ae:len≤m:=by rw [ac];split <;> omega);have ad:0<len→x.spot=none:=by
    intro h0;have:=World.cell?_spot (hx 0 (by omega)).1;simpa [Addr.add] using this
   have each:∀i,i<len→∃b:Int,V i=.int .i64 b:=by
    intro i hi;obtain⟨k3,e3,_,w3⟩:=DataW.trod_int Tryz.underlying3 (hx i (by omega)).2;exact⟨k3,by simpa using e3⟩
   obtain⟨f,hf⟩:=@Go.Deep.choose_lt Int ⟨0⟩ len _ each;refine⟨(List.range len).map f,⟨by simp,(fun e=>by cases e),hl,by show len≤_;unfold maxLen at hm;omega,?_⟩⟩;intro j hj;replace hj:j<len:=hj;have hc:=(hx j (by omega)).1;obtain⟨b,off,spot⟩:=x;have ab:spot=none:=ad (by omega);subst ab;refine⟨b,off,rfl,?_⟩;rw [Addr.add_lit] at hc;rw [hc,hf j hj];simp [List.getD,hj]
theorem ZmB {y:DataW H × List MemPlace}(h:DataW.trod enc Tryz.prog w base spare held n 56 [.slice a len cap]=some y) :
    ∃xs,Came w a len cap xs:=by
  (have hC:Tryz.prog.cellsOf 5=1:=by kernel_rfl);rcases Go.Deep.open_slice1 Tryz.underlying56 hC h with ⟨aa,_⟩ | ⟨x,l,c,m,k,V,D,Pl,aa,hb,hl,hm,ac,_,hx⟩
  · simp only [List.cons.injEq,Value.slice.injEq,and_true] at aa;obtain⟨rfl,rfl,rfl⟩:=aa;exact⟨[],⟨⟨rfl,(fun u hu=>by cases hu),fun j hj=>by omega⟩,fun _=>rfl,Nat.le_refl _,by omega⟩⟩
  · simp only [List.cons.injEq,Value.slice.injEq,and_true] at aa;obtain⟨rfl,rfl,rfl⟩:=aa;(have ae:len≤m:=by rw [ac];split <;> omega);have ad:0<len→x.spot=none:=by
     intro h0;have:=World.cell?_spot (hx 0 (by omega)).1;simpa [Addr.add] using this
    have each:∀i,i<len→∃b:Nat,V i=.int .u8 (b:Int)∧b<256:=by
     intro i hi;obtain⟨k3,e3,_,w3⟩:=DataW.trod_int Tryz.underlying5 (hx i (by omega)).2;have hb:=bounds_u8 w3;refine⟨k3.toNat,?_,by omega⟩;rw [Int.toNat_of_nonneg hb.1];simpa using e3
    obtain⟨f,hf⟩:=@Go.Deep.choose_lt Nat ⟨0⟩ len _ each;refine⟨(List.range len).map f,⟨⟨by simp,?_,?_⟩,(fun e=>by cases e),hl,by unfold maxLen at hm;omega⟩⟩
    · intro z hz;obtain⟨j,hj,rfl⟩:=List.mem_map.1 hz;exact(hf j (by simpa using hj)).2
    · intro j hj;have hc:=(hx j (by omega)).1;obtain⟨b,off,spot⟩:=x;have ab:spot=none:=ad (by omega);subst ab;refine⟨b,off,rfl,?_⟩;rw [Addr.add_lit] at hc;rw [hc,(hf j hj).1];simp [List.getD,hj]
theorem ZjQ {y:DataW H × List MemPlace}(h:DataW.trod enc Tryz.prog w base spare held n 65 [.slice a len cap]=some y):∃l,InS w ⟨a,len,cap⟩ l:=by
 (have hC:Tryz.prog.cellsOf 56=1:=by kernel_rfl);rcases Go.Deep.open_slice1 Tryz.underlying65 hC h with ⟨aa,_⟩ | ⟨x,l,c,m,k,V,D,Pl,aa,hb,hl,hm,ad,_,hx⟩
 · simp only [List.cons.injEq,Value.slice.injEq,and_true] at aa;obtain⟨rfl,rfl,rfl⟩:=aa;exact⟨[],⟨rfl,fun _=>rfl,Nat.le_refl _,Nat.zero_le _,fun j hj=>absurd hj (Nat.not_lt_zero _),fun x hx=>(by cases hx)⟩⟩
 · simp only [List.cons.injEq,Value.slice.injEq,and_true] at aa;obtain⟨rfl,rfl,rfl⟩:=aa;(have af:len≤m:=by rw [ad];split <;> omega);have ae:0<len→x.spot=none:=by
    intro h0;have:=World.cell?_spot (hx 0 (by omega)).1;simpa [Addr.add] using this
   have each:∀i,i<len→∃t:Sb,V i=t.s.val∧Came w t.s.a t.s.len t.s.cap t.bs:=by
    intro i hi;have t2:=(hx i (by omega)).2;obtain⟨a',len',cap',e4⟩:=Go.Joins.slice_form Tryz.underlying56 t2;simp only [List.cons.injEq,and_true] at e4;rw [e4] at t2;obtain⟨bs,ac⟩:=ZmB t2;exact⟨⟨⟨a',len',cap'⟩,bs⟩,e4,ac⟩
   obtain⟨f,hf⟩:=@Go.Deep.choose_lt Sb ⟨Sb.zero⟩ len _ each;refine⟨(List.range len).map f,⟨by simp,(fun e=>by cases e),hl,by show len≤_;unfold maxLen at hm;omega,?_,?_⟩⟩
   · intro j hj;replace hj:j<len:=hj;have hc:=(hx j (by omega)).1;obtain⟨b,off,spot⟩:=x;have ab:spot=none:=ae (by omega);subst ab;refine⟨b,off,rfl,?_⟩;rw [Addr.add_lit] at hc;rw [hc,(hf j hj).1];simp [List.getD,hj]
   · intro t ht;obtain⟨j,hj,rfl⟩:=List.mem_map.1 ht;exact(hf j (by simpa using hj)).2
end
def Ze4 (u v:Sl) (l:List Sb):Prop:=v.len≤80∧u.len≤20∧∀x∈l,x.s.len≤600
def Zkp (u v:Sl) (l:List Sb) (e:Ending):Prop:=e=.returned (.bool false)∨(Ze4 u v l∧e=.returned (.bool true))
theorem Zli (w:World)(u v:Sl)(l:List Sb)(hg:InS w v l)(hu:u.len≤9223372036854775807) :
    Calls Tryz.prog 32 #[lfV u v] w fun e w'=>Zkp u v l e∧Below w.heap.size w w':=by
  obtain⟨a,len,cap⟩:=v;obtain⟨ua,ul,uc⟩:=u;have hl:l.length=len:=hg.len;have ag:len≤9223372036854775807:=hg.big;have hA:=Zaa w (.cells #[.slice ua ul uc,.slice a len cap] 67);have HG:Hid (∀i,i<len→∃b off,a=some ⟨b,off,none⟩∧(w.alloc (.cells #[.slice ua ul uc,.slice a len cap] 67)).cell? ⟨b,off+i,none⟩=some (l.getD i Sb.zero).s.val):=by
   intro i hi;obtain⟨b,off,ha,hc⟩:=hg.cell i hi;exact⟨b,off,ha,Zaf hc hA⟩
  have HM:Hid (∀i,i<len→(l.getD i Sb.zero).s.len≤9223372036854775807):=fun i hi=>(hg.bs _ (ZbL (by omega))).big;have HA:=hide hA;have HL:=hide hl;clear hg hl hA;unfold lfV Sl.val;simp only at *;go_enter Tryz.func32,Tryz.ntmps32;go_wp2_with fail;go_loopw [3] (fun iv wr=>wr=w.alloc (.cells #[.slice ua ul uc,.slice a len cap] 67)∧∃i:Nat,i≤len∧i≤80∧iv=.int .i64 (i:Nat)∧Hid (∀j,j<i→(l.getD j Sb.zero).s.len≤600)) (fun iv _=>80-(intOf iv).toNat)
  case atStart=>exact ⟨rfl,0,Nat.zero_le _,Nat.zero_le _,rfl,fun _ h=>absurd h (Nat.not_lt_zero _)⟩
  case round =>
   obtain⟨rfl,i,hi,ai,rfl,ab⟩:=hrel;have aa:Hid (len≤80→i=len→ul≤20→Ze4 ⟨ua,ul,uc⟩ ⟨a,len,cap⟩ l):=by
    intro h1 h2 h3;refine⟨h1,h3,fun x hx=>?_⟩;obtain⟨j,hj,rfl⟩:=Zls hx;exact ab.out j (by rw [HL.out] at hj;omega)
   rcases Nat.lt_or_ge i len with ae | ah
   · (have i1:(i:Int)<(len:Int):=by omega);rcases Nat.lt_or_ge i 80 with h8 | h8
     · (have i8:(i:Int)<80:=by omega);obtain⟨bb,oo,ha,c0⟩:=HG.out i ae;subst ha;have af:=HM.out i ae;obtain⟨⟨sa,sn,sc⟩,ad⟩:∃s,s=(l.getD i Sb.zero).s:=⟨_,rfl⟩;rw [← ad] at c0 af;(have ac:Hid ((l.getD i Sb.zero).s.len=sn):=by show _=_;rw [← ad]);unfold Sl.val at c0;simp only at c0 af;clear ad;by_cases h6:600<sn
       · (have i6:(600:Int)<(sn:Int):=by omega);clear ab aa ac;go_wp2_with fail;go_ret;exact⟨.inl rfl,HA.out⟩
       · (have i6:¬(600:Int)<(sn:Int):=by omega);have HS:Hid (∀j,j<i+1→(l.getD j Sb.zero).s.len≤600):=by
          intro j hj;by_cases e:j=i
          · rw [e,ac.out];omega
          · exact ab.out j (by omega)
         clear ab aa ac;go_wp2_with fail;go_roundw
         case rel=>exact ⟨trivial,i+1,by omega,by omega,by go_num,HS⟩
         case measure=>simp only [intOf];omega
     · (have i8:¬(i:Int)<80:=by omega);(have i9:¬(len:Int)≤80:=by omega);clear ab aa;go_wp2_with fail;go_ret;exact⟨.inl rfl,HA.out⟩
   · (have i1:¬(i:Int)<(len:Int):=by omega);(have i9:(len:Int)≤80:=by omega);by_cases h2:ul≤20
     · (have i2:(ul:Int)≤20:=by omega);have HP:=hide (aa.out (by omega) (by omega) h2);clear ab aa;go_wp2_with fail;go_ret;exact⟨.inr ⟨HP.out,rfl⟩,HA.out⟩
     · (have i2:¬(ul:Int)≤20:=by omega);clear ab aa;go_wp2_with fail;go_ret;exact⟨.inl rfl,HA.out⟩
end Go.Proofs.YtdojdcncncgncaaGreat
