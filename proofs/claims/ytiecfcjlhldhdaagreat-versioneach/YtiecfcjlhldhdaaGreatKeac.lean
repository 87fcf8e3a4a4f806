/-
  Lemmas.
-/
import Derived.Test.YtiecfcjlhldhdaaGreatKeab
namespace Go.Proofs.YtiecfcjlhldhdaaGreat
open Go.RowKit
set_option linter.unusedVariables false
set_option linter.unusedSimpArgs false
set_option maxRecDepth 100000
set_option maxHeartbeats 4000000
variable {w w':World}{i p B:Nat}{s:List (List Nat)}{t:List Int}{u:Value}{v:Sl}{r xs:List Nat}
structure Lf where
  itl:List Int
  slots:List (List Nat)
def Lf.zero:Lf:=⟨[],[]⟩
def sl (s:List (List Nat)) (i:Nat):List Nat:=s.getD i []
theorem Zee (h:i<s.length):sl s i=s[i]:=by simp [sl,List.getD,h]
theorem ZmG (h:s.length≤i):sl s i=[]:=by simp [sl,List.getD,h]
theorem ZcL (h:i<s.length)(r:List Nat):sl (s.set i r) i=r:=by simp [sl,List.getD,h]
theorem Zck {j:Nat}(h:i≠j)(r:List Nat):sl (s.set i r) j=sl s j:=by simp [sl,List.getD,h]
theorem ZeW (h:i<s.length)(r:List Nat):sl (s ++ [r]) i=sl s i:=by
 unfold sl;rw [List.getD,List.getElem?_append_left h,List.getD]
theorem ZcM (s:List (List Nat))(r:List Nat):sl (s ++ [r]) s.length=r:=by simp [sl,List.getD]
theorem ZqM (h:sl s i ≠ []):i<s.length:=by
 rcases Nat.lt_or_ge i s.length with h1 | h1
 · exact h1
 · exact absurd (ZmG h1) h
def needS:List (List Nat)→Nat
  | []=>0
  | x :: r=>1+x.length+needS r
def need (s:List (List Nat)):Nat:=18+needS s
theorem ZdY:∀(s t:List (List Nat)),needS (s ++ t)=needS s+needS t
 | [],t=>by simp [needS]
 | x :: r,t=>by
  have:=ZdY r t
  simp only [List.cons_append,needS,this]
  omega
theorem Zkz (s:List (List Nat))(r:List Nat):needS (s ++ [r])=needS s+1+r.length:=by
 rw [ZdY];simp only [needS];omega
theorem Zbt {k:Nat}(h:k<s.length):needS (s.take (k+1))=needS (s.take k)+1+(sl s k).length:=by
 rw [List.take_succ_eq_append_getElem h,Zkz,← Zee h]
def ItlOk (t:List Int):Prop:=t.length=4∧(∀i,i<4→0≤t.getD i 0∧t.getD i 0≤2147483647)∧∀i,i<4→∀k,k<i→t.getD k 0≠0→t.getD k 0≠t.getD i 0
def Za3 (s:List (List Nat)):Prop:=s.length≤64∧(∀i,i<s.length→(sl s i).length≤255)∧(s ≠ []→sl s (s.length-1) ≠ [])
structure MayL (l:Lf):Prop where
  itl:ItlOk l.itl
  slots:Za3 l.slots
  need:need l.slots≤508
theorem Za3.set (h:Za3 s)(hi:i<s.length)(h1:1≤r.length)(h2:r.length≤255):Za3 (s.set i r):=by
 refine⟨by rw [List.length_set];exact h.1,fun j hj=>?_,fun _=>?_⟩
 · rw [List.length_set] at hj;by_cases e:i=j
   · subst e;rw [ZcL hi];exact h2
   · rw [Zck e];exact h.2.1 j hj
 · rw [List.length_set];by_cases e:i=s.length-1
   · rw [← e,ZcL hi];intro x;rw [x] at h1;simp at h1
   · rw [Zck e];exact h.2.2 (fun x=>by rw [x] at hi;simp at hi)
theorem Za3.snoc (h:Za3 s)(hl:s.length<64)(h1:1≤r.length)(h2:r.length≤255):Za3 (s ++ [r]):=by
 refine⟨by simp;omega,fun j hj=>?_,fun _=>?_⟩
 · rw [List.length_append] at hj;by_cases e:j=s.length
   · rw [e,ZcM];exact h2
   · rw [ZeW (by simp at hj;omega)];exact h.2.1 j (by simp at hj;omega)
 · rw [List.length_append];show sl _ (s.length+1-1)≠_;rw [Nat.add_sub_cancel,ZcM];intro x;rw [x] at h1;simp at h1
def ZdU (s:List (List Nat)):List (List Nat)→Nat→Nat
  | [],k=>k
  | x :: r,k=>if x.length=0 then k else ZdU s r (k+1)
def atE (s:List (List Nat)):Nat:=ZdU s s 0
theorem ZdV (o:List (List Nat)):∀(s:List (List Nat))(k:Nat),(ZdU o s k=k+s.length∧∀x∈s,x.length≠0)∨∃i,i<s.length∧ZdU o s k=k+i∧(sl s i).length=0∧∀j,j<i→(sl s j).length≠0
 | [],k=>.inl ⟨by simp [ZdU],fun _ h=>by cases h⟩
 | x :: r,k=>by
  by_cases hx:x.length=0
  · exact .inr ⟨0,by simp,by rw [ZdU,if_pos hx];rfl,hx,fun j hj=>absurd hj (Nat.not_lt_zero _)⟩
  · rcases ZdV o r (k+1) with ⟨h1,h2⟩ | ⟨i,hi,h1,h2,h3⟩
    · refine .inl ⟨by rw [ZdU,if_neg hx,h1,List.length_cons];omega,fun t ht=>?_⟩
      rcases List.mem_cons.1 ht with rfl | ht
      · exact hx
      · exact h2 t ht
    · refine .inr ⟨i+1,by simpa using hi,by rw [ZdU,if_neg hx,h1];omega,h2,fun j hj=>?_⟩
      cases j with
      | zero=>exact hx
      | succ j=>exact h3 j (by omega)
theorem Ze1 (s:List (List Nat)):(atE s=s.length∧∀i,i<s.length→(sl s i).length≠0)∨(atE s<s.length∧(sl s (atE s)).length=0∧∀j,j<atE s→(sl s j).length≠0):=by
 rcases ZdV s s 0 with ⟨h1,h2⟩ | ⟨i,hi,h1,h2,h3⟩
 · refine .inl ⟨by unfold atE;omega,fun i hi=>?_⟩;rw [Zee hi];exact h2 _ (List.getElem_mem hi)
 · (have e:atE s=i:=by unfold atE;omega);rw [e];exact .inr ⟨hi,h2,h3⟩
def insS (s:List (List Nat)) (r:List Nat):List (List Nat):=if atE s=s.length then s ++ [r] else s.set (atE s) r
theorem Zie (s:List (List Nat))(r:List Nat):(insS s r).length=if atE s=s.length then s.length+1 else s.length:=by
 unfold insS;split <;> simp
theorem Zpa (h:Za3 s)(h1:1≤r.length)(h2:r.length≤255)(hl:(insS s r).length≤64):Za3 (insS s r):=by
 rw [Zie] at hl;unfold insS;rcases Ze1 s with ⟨e,_⟩ | ⟨e,_⟩
 · rw [if_pos e] at hl ⊢;exact h.snoc (by omega) h1 h2
 · rw [if_neg (by omega)];exact h.set e h1 h2
def ixI (f:Int→Bool):List Int→Nat→Int
  | [],_=>-1
  | x :: r,k=>if f x=true then ((k:Nat):Int) else ixI f r (k+1)
theorem ZbB (f:Int→Bool):∀(t:List Int)(k:Nat),(ixI f t k = -1∧∀x∈t,f x=false)∨∃i,i<t.length∧ixI f t k=((k+i:Nat):Int)∧f (t.getD i 0)=true∧∀j,j<i→f (t.getD j 0)=false
 | [],_=>.inl ⟨rfl,fun _ h=>by cases h⟩
 | s :: r,k=>by
  by_cases hs:f s=true
  · exact .inr ⟨0,by simp,by rw [ixI,if_pos hs];rfl,hs,fun j hj=>absurd hj (Nat.not_lt_zero _)⟩
  · have hs':f s=false:=by simpa using hs
    rcases ZbB f r (k+1) with ⟨h1,h2⟩ | ⟨i,hi,h1,h2,h3⟩
    · refine .inl ⟨by rw [ixI,if_neg hs];exact h1,fun t ht=>?_⟩
      rcases List.mem_cons.1 ht with rfl | ht
      · exact hs'
      · exact h2 t ht
    · refine .inr ⟨i+1,by simpa using hi,by rw [ixI,if_neg hs,h1];congr 1;omega,h2,fun j hj=>?_⟩
      cases j with
      | zero=>exact hs'
      | succ j=>exact h3 j (by omega)
def freeI (t:List Int) (live:List Int):Int:=if 0≤ixI (fun x=>x == 0) t 0 then ixI (fun x=>x == 0) t 0 else ixI (fun x=>!(live.contains x)) t 0
structure Js where
  t:List Int
  e:Int
def joinI (t:List Int) (w:Int) (live:List Int):Js:=
  if w<1∨2147483647<w then ⟨t,1⟩ else if t.contains w=true then ⟨t,0⟩ else if freeI t live<0 then ⟨t,8⟩ else ⟨t.set (freeI t live).toNat w,0⟩
theorem ZbP (h:i<t.length)(w:Int):(t.set i w).getD i 0=w:=by simp [List.getD,h]
theorem Zbh {j:Nat}(h:i≠j)(w:Int):(t.set i w).getD j 0=t.getD j 0:=by simp [List.getD,h]
theorem Zdj (h:i<t.length):t.getD i 0∈t:=by simp [List.getD,h]
theorem ItlOk.set (h:ItlOk t){w:Int}(h1:1≤w)(h2:w≤2147483647)(hn:¬w∈t)(hi:i<4):ItlOk (t.set i w):=by
 have hl:=h.1;refine⟨by rw [List.length_set];exact hl,fun j hj=>?_,fun j hj k hk=>?_⟩
 · by_cases e:i=j
   · subst e;rw [ZbP (by omega)];omega
   · rw [Zbh e];exact h.2.1 j hj
 · by_cases e:i=j
   · subst e;rw [ZbP (by omega),Zbh (by omega)];intro _ x;exact hn (by rw [← x];exact Zdj (by omega))
   · rw [Zbh e];by_cases e2:i=k
     · subst e2;rw [ZbP (by omega)];intro _ x;exact hn (by rw [x];exact Zdj (by omega))
     · rw [Zbh e2];exact h.2.2 j hj k hk
theorem Zjm (live:List Int):freeI t live<t.length ∧ -1≤freeI t live:=by
 unfold freeI;split
 · rcases ZbB (fun x=>x == 0) t 0 with ⟨h1,_⟩ | ⟨i,hi,h1,_⟩ <;> omega
 · rcases ZbB (fun x=>!(live.contains x)) t 0 with ⟨h1,_⟩ | ⟨i,hi,h1,_⟩ <;> omega
theorem ZnG (h:ItlOk t)(w:Int)(live:List Int):ItlOk (joinI t w live).t:=by
 have hf:=Zjm (t:=t) live;have hl:=h.1;unfold joinI;split
 · exact h
 · split
   · exact h
   · rename_i hc;split
     · exact h
     · exact h.set (by omega) (by omega) (fun x=>hc (by simpa using x)) (by omega)
theorem Zkb {live:List Int}{x:Int}(hx:x∈t)(h:x=0∨¬x∈live):0≤freeI t live:=by
 unfold freeI;split
 · assumption
 · rename_i hc;rcases ZbB (fun x=>!(live.contains x)) t 0 with ⟨_,h2⟩ | ⟨i,_,h1,_⟩
   · have hl:=h2 x hx;rcases ZbB (fun x=>x == 0) t 0 with ⟨_,h4⟩ | ⟨j,_,h3,_⟩
     · have h0:=h4 x hx;rcases h with h | h
       · simp [h] at h0
       · simp at hl;exact absurd hl h
     · omega
   · omega
theorem Zq2 {x:Int}(h:x∈t):∃i,i<t.length∧t.getD i 0=x:=by
 obtain⟨i,hi,e⟩:=List.mem_iff_getElem.1 h;exact⟨i,hi,by simp [List.getD,hi,e]⟩
def Kept (D:Nat→Prop) (w w':World):Prop:=∀k,D k→k<w.heap.size→w'.heap[k]? = w.heap[k]?
theorem Kept.all {D:Nat→Prop}(h:Below B w w')(hB:w.heap.size≤B):Kept D w w':=fun k _ hl=>h.block k (by omega)
theorem Kept.frm {D F:Nat→Prop}(h:Frm F w w')(hD:∀k,D k→¬F k):Kept D w w':=fun k hk hl=>h.block k hl (hD k hk)
theorem Kept.cell {D:Nat→Prop}(h:Kept D w w'){a:Addr}(hc:w.cell? a=some u)(hD:D a.block):w'.cell? a=some u:=by
 have:=h a.block hD (World.block_lt_of_cell? w _ hc);simp only [World.cell?] at hc ⊢;rw [this];exact hc
structure Cm (D:Nat→Prop) (w:World) (s:Sl) (xs:List Nat):Prop where
  came:Came w s.a s.len s.cap xs
  home:∀ad,s.a=some ad→0<s.len→D ad.block
theorem Cm.len {D:Nat→Prop}{s:Sl}(h:Cm D w s xs):xs.length=s.len:=h.came.bs.1
theorem Cm.keep {D:Nat→Prop}{s:Sl}(h:Cm D w s xs)(hk:Kept D w w'):Cm D w' s xs:=by
 refine⟨⟨⟨h.came.bs.1,h.came.bs.2.1,fun i hi=>?_⟩,h.came.nil,h.came.le,h.came.big⟩,h.home⟩;obtain⟨b,off,ha,hc⟩:=h.came.bs.2.2 i hi;exact⟨b,off,ha,hk.cell hc (h.home ⟨b,off,none⟩ ha (by omega))⟩
theorem Cm.mono {D E:Nat→Prop}{s:Sl}(h:Cm D w s xs)(hE:∀k,D k→k<w.heap.size→E k):Cm E w s xs:=by
 refine⟨h.came,fun ad ha hl=>hE _ (h.home ad ha hl) ?_⟩;obtain⟨b,off,ha',hc⟩:=h.came.bs.2.2 0 hl;rw [ha'] at ha;cases ha;exact World.block_lt_of_cell? w _ hc
structure Sb where
  s:Sl
  bs:List Nat
def Sb.zero:Sb:=⟨Sl.nil,[]⟩
def bss (l:List Sb):List (List Nat):=l.map Sb.bs
theorem Zaj (l:List Sb):(bss l).length=l.length:=by simp [bss]
theorem ZpQ (l:List Sb)(i:Nat):sl (bss l) i=(l.getD i Sb.zero).bs:=by
 unfold sl bss;simp only [List.getD,List.getElem?_map];cases l[i]? <;> rfl
structure Gi (D:Nat→Prop) (w:World) (v:Sl) (t:List Int):Prop where
  len:t.length=v.len
  nil:v.a=none→v.cap=0
  le:v.len≤v.cap
  big:v.len≤1000000
  home:∀ad,v.a=some ad→0<v.len→D ad.block
  cell:∀i,i<v.len→∃b off,v.a=some ⟨b,off,none⟩∧w.cell? ⟨b,off+i,none⟩=some (.int .i64 (t.getD i 0))
theorem Gi.keep {D:Nat→Prop}(h:Gi D w v t)(hk:Kept D w w'):Gi D w' v t:=by
 refine⟨h.len,h.nil,h.le,h.big,h.home,fun i hi=>?_⟩;obtain⟨b,off,ha,c0⟩:=h.cell i hi;exact⟨b,off,ha,hk.cell c0 (h.home ⟨b,off,none⟩ ha (by omega))⟩
theorem Gi.below {D:Nat→Prop}(h:Gi D w v t)(hb:Below B w w')(hB:w.heap.size≤B):Gi D w' v t:=h.keep (Kept.all hb hB)
structure Gb (D:Nat→Prop) (w:World) (v:Sl) (l:List Sb):Prop where
  len:l.length=v.len
  nil:v.a=none→v.cap=0
  le:v.len≤v.cap
  big:v.len≤1000
  home:∀ad,v.a=some ad→0<v.len→D ad.block
  cell:∀i,i<v.len→∃b off,v.a=some ⟨b,off,none⟩∧w.cell? ⟨b,off+i,none⟩=some (l.getD i Sb.zero).s.val
  bs:∀x∈l,Cm D w x.s x.bs∧x.bs.length≤1000
theorem Gb.keep {D:Nat→Prop}{l:List Sb}(h:Gb D w v l)(hk:Kept D w w'):Gb D w' v l:=by
 refine⟨h.len,h.nil,h.le,h.big,h.home,fun i hi=>?_,fun x hx=>⟨(h.bs x hx).1.keep hk,(h.bs x hx).2⟩⟩;obtain⟨b,off,ha,c0⟩:=h.cell i hi;exact⟨b,off,ha,hk.cell c0 (h.home ⟨b,off,none⟩ ha (by omega))⟩
theorem Gb.below {D:Nat→Prop}{l:List Sb}(h:Gb D w v l)(hb:Below B w w')(hB:w.heap.size≤B):Gb D w' v l:=h.keep (Kept.all hb hB)
theorem ZgW {l:List Sb}(h:i<l.length):l.getD i Sb.zero∈l:=by simp [List.getD,h]
theorem Gb.at {D:Nat→Prop}{l:List Sb}(h:Gb D w v l)(hi:i<v.len):Cm D w (l.getD i Sb.zero).s (sl (bss l) i)∧(l.getD i Sb.zero).s.len=(sl (bss l) i).length∧(sl (bss l) i).length≤1000:=by
 have hm:=h.bs _ (ZgW (l:=l) (i:=i) (by rw [h.len];exact hi));rw [ZpQ];exact⟨hm.1,hm.1.len.symm,hm.2⟩
def lfV (u v:Sl):Value:=.agg #[u.val,v.val]
def LfBlk (w:World) (p:Nat) (u v:Value):Prop:=w.heap[p]? = some (Obj.cells #[u,v] 101 (0,0))
theorem LfBlk.c0 {v:Value}(k:LfBlk w p u v):w.cell? ⟨p,0,none⟩=some u:=by unfold LfBlk at k;simp [World.cell?,k]
theorem LfBlk.c1 {v:Value}(k:LfBlk w p u v):w.cell? ⟨p,1,none⟩=some v:=by unfold LfBlk at k;simp [World.cell?,k]
theorem LfBlk.fz {v:Value}(k:LfBlk w p u v)(o:Nat):w.frozen? ⟨p,o,none⟩=false:=frozen_of_row w p _ _ 101 k
theorem LfBlk.lt {v:Value}(k:LfBlk w p u v):p<w.heap.size:=(Array.getElem?_eq_some_iff.1 k).1
theorem Za6 (w:World)(u v:Value):LfBlk (w.alloc (.cells #[u,v] 101)) w.heap.size u v:=heap_alloc_new w _
theorem LfBlk.below {v:Value}(k:LfBlk w p u v)(hb:Below w.heap.size w w'):LfBlk w' p u v:=(hb.block p k.lt).trans k
theorem Zae (w:World)(o:Obj):(w.alloc o).heap.size=w.heap.size+1:=by
 show (w.heap.push o).size=_;simp
theorem Zgr (s:List (List Nat))(h:∀i,i<s.length→(sl s i).length≤1000):∀n,n≤s.length→needS (s.take n)≤n*1001
 | 0,_=>by simp [needS]
 | n+1,hn=>by
  rw [Zbt (by omega)]
  have h1:=Zgr s h n (by omega)
  have h2:=h n (by omega)
  omega
theorem Zh4 {D:Nat→Prop}(w:World)(u v:Sl)(l:List Sb)(hg:Gb D w v l) :
    Calls Tryz.prog 100 #[lfV u v] w fun e w'=>e=.returned (.int .i64 ((need (bss l):Nat):Int))∧Below w.heap.size w w':=by
  obtain⟨a,len,cap⟩:=v;obtain⟨ua,ul,uc⟩:=u;have hl:l.length=len:=hg.len;have ah:len≤1000:=hg.big;have hA:=Zaa w (.cells #[.slice ua ul uc,.slice a len cap] 101);have HG:=hide (hg.below hA (Nat.le_refl _));have HA:=hide hA;(have HL:Hid ((bss l).length=len):=by show _=_;rw [Zaj];exact hl);have HN:Hid (∀n,n≤len→needS ((bss l).take n)≤n*1001):=by
   intro n hn;refine Zgr (bss l) (fun i hi=>?_) n (by rw [Zaj,hl];exact hn);exact(hg.at (by rw [Zaj] at hi;show i<len;omega)).2.2
  have H0:Hid (((18:Nat):Int)=((18+needS ((bss l).take 0):Nat):Int)):=rfl;clear hg hl hA;unfold lfV Sl.val;simp only;go_enter Tryz.func100,Tryz.ntmps100;go_wp2_with fail;go_loopw [4,3] (fun iv nv wr=>wr=w.alloc (.cells #[.slice ua ul uc,.slice a len cap] 101)∧∃i:Nat,i≤len∧iv=.int .i64 (i:Nat)∧nv=.int .i64 ((18+needS ((bss l).take i):Nat):Int)) (fun iv _ _=>len-(intOf iv).toNat)
  case atStart=>exact ⟨rfl,0,Nat.zero_le _,rfl,rfl⟩
  case round =>
   obtain⟨rfl,i,hi,rfl,rfl⟩:=hrel;rcases Nat.lt_or_ge i len with ad | ai
   · (have i1:(i:Int)<(len:Int):=by omega);obtain⟨bb,oo,ha,c0⟩:=HG.out.cell i ad;replace ha:a=some ⟨bb,oo,none⟩:=ha;subst ha;obtain⟨_,ac,ab⟩:=HG.out.at ad;have aa:=Zbt (s:=bss l) (k:=i) (by rw [HL.out];exact ad);have ae:=HN.out i hi;obtain⟨⟨sa,sn,sc⟩,af⟩:∃s,s=(l.getD i Sb.zero).s:=⟨_,rfl⟩;rw [← af] at c0 ac;unfold Sl.val at c0;simp only at c0 ac;obtain⟨q,hq⟩:∃q,q=needS ((bss l).take i):=⟨_,rfl⟩;(have ag:Hid (needS ((bss l).take (i+1))=q+1+sn):=by show _=_;rw [aa,hq,ac]);rw [← hq] at ae ⊢;(have aj:q≤1001000:=by omega);(have ak:sn≤1000:=by omega);clear aa af hq ac ab ae;go_wp2_with fail;go_roundw
     case rel=>exact ⟨trivial,i+1,by omega,by go_num,by rw [ag.out];go_num⟩
     case measure=>simp only [intOf];omega
   · (have i1:¬(i:Int)<(len:Int):=by omega);have HE:Hid (need (bss l)=18+needS ((bss l).take i)):=by
      show _=_;rw [List.take_of_length_le (by rw [HL.out];exact ai)];rfl
     go_wp2_with fail;go_ret;exact⟨by rw [HE.out];rfl,HA.out⟩
end Go.Proofs.YtiecfcjlhldhdaaGreat
