/-
  Lemmas.
-/
import Derived.Test.YtiecfcjlhldhdaaGreatKnae
import Derived.Test.YtiecfcjlhldhdaaGreatKnaa
import Derived.Laws.CopyOwn
namespace Go.Proofs.YtiecfcjlhldhdaaGreat
open Go.RowKit Go.Proofs.Tryz
set_option linter.unusedVariables false
set_option linter.unusedSimpArgs false
set_option maxRecDepth 100000
set_option maxHeartbeats 4000000
variable {xs:List Nat}{w W:World}{n g base cap i p j len B q:Nat}{l m:List Int}{r r0:Rw}{t x:Int}{A:Act}{v c0 c:Value}{a:Option Addr}
structure Vw where
  self:Int
  next:Int
  act:List Int
abbrev MayV (v:Vw):Prop:=(0≤v.self∧v.self≤2147483647)∧(0≤v.next∧v.next≤2147483647)∧v.act.length≤64∧(∀i,i<v.act.length→1≤v.act.getD i 0∧v.act.getD i 0<v.next∧v.act.getD i 0≠v.self)∧∀i,i<v.act.length→0<i→v.act.getD (i-1) 0<v.act.getD i 0
def seesV (v:Vw) (x:Int):Bool:=(x == 0) || ((decide (0<x) && (x == v.self)) || (decide (0<x) && (decide (x<v.next) && !(v.act.contains x))))
def seesA (v:Vw) (x:Int):Bool:=decide (MayV v) && seesV v x
def atV:List Int→Int→Nat
  | [],_=>0
  | x :: r,t=>if x<t then atV r t+1 else 0
theorem ZoM:∀(l:List Int)(t:Int),atV l t≤l.length
 | [],_=>Nat.le_refl _
 | x :: r,t=>by
  unfold atV
  have:=ZoM r t
  split
  · simpa using this
  · exact Nat.zero_le _
theorem ZoN : ∀ {l : List Int} {t : Int} {i : Nat}, i < atV l t → l.getD i 0 < t
 | [], _, i, h => absurd h (Nat.not_lt_zero _)
 | x :: r, t, i, h => by
  unfold atV at h
  split at h
  · rename_i hx
    cases i with
    | zero => exact hx
    | succ i =>
     have := ZoN (l := r) (t := t) (i := i) (by omega)
     simpa using this
  · exact absurd h (Nat.not_lt_zero _)
theorem ZoK : ∀ {l : List Int} {t : Int}, atV l t < l.length → ¬ l.getD (atV l t) 0 < t
 | [], _, h => absurd h (Nat.not_lt_zero _)
 | x :: r, t, h => by
  unfold atV at h ⊢
  split
  · rename_i hx
    rw [if_pos hx] at h
    have := ZoK (l := r) (t := t) (by simpa using h)
    simpa using this
  · rename_i hx
    simpa using hx
def insV (l:List Int) (t:Int):List Int:=l.take (atV l t) ++ t :: l.drop (atV l t)
theorem Zj3 :x∈insV l t↔x=t∨x∈l:=by
 unfold insV;constructor
 · intro h;rcases List.mem_append.1 h with h | h
   · exact .inr (List.mem_of_mem_take h)
   · rcases List.mem_cons.1 h with h | h
     · exact .inl h
     · exact .inr (List.mem_of_mem_drop h)
 · intro h;rcases h with h | h
   · exact List.mem_append.2 (.inr (List.mem_cons.2 (.inl h)))
   · rw [← List.take_append_drop (atV l t) l] at h;rcases List.mem_append.1 h with h | h
     · exact List.mem_append.2 (.inl h)
     · exact List.mem_append.2 (.inr (List.mem_cons.2 (.inr h)))
def Up (l:List Int):Prop:=l.Pairwise (· < ·)
theorem Zhr {r:List Int}(h:x<t):insV (x :: r) t=x :: insV r t:=by
 unfold insV;simp [atV,h]
theorem Zhq {r:List Int}(h:¬x<t):insV (x :: r) t=t :: x :: r:=by
 unfold insV;simp [atV,h]
theorem Zmf : ∀ {l : List Int} {t : Int}, Up l → ¬ t ∈ l → Up (insV l t)
 | [], t, _, _ => by simp [insV, atV, Up]
 | x :: r, t, h, hn => by
  have h1 := List.pairwise_cons.1 h
  by_cases hx : x < t
  · rw [Zhr hx]
    refine List.pairwise_cons.2 ⟨fun y hy => ?_, Zmf h1.2 (fun e => hn (List.mem_cons.2 (.inr e)))⟩
    rcases Zj3.1 hy with rfl | hy
    · exact hx
    · exact h1.1 y hy
  · rw [Zhq hx]
    have hne : t ≠ x := fun e => hn (List.mem_cons.2 (.inl e))
    refine List.pairwise_cons.2 ⟨fun y hy => ?_, h⟩
    rcases List.mem_cons.1 hy with rfl | hy
    · omega
    · have := h1.1 y hy
      omega
theorem ZjP : ∀ {l m : List Int}, Up l → Up m → (∀ x, x ∈ l ↔ x ∈ m) → l = m
 | [], [], _, _, _ => rfl
 | [], y :: m, _, _, h => absurd ((h y).2 (List.mem_cons.2 (.inl rfl))) (by simp)
 | x :: l, [], _, _, h => absurd ((h x).1 (List.mem_cons.2 (.inl rfl))) (by simp)
 | x :: l, y :: m, hl, hm, h => by
  have h1 := List.pairwise_cons.1 hl
  have h2 := List.pairwise_cons.1 hm
  have e : x = y := by
   rcases List.mem_cons.1 ((h x).1 (List.mem_cons.2 (.inl rfl))) with e | e
   · exact e
   · rcases List.mem_cons.1 ((h y).2 (List.mem_cons.2 (.inl rfl))) with e2 | e2
     · exact e2.symm
     · have a := h1.1 y e2
       have b := h2.1 x e
       omega
  subst e
  congr 1
  refine ZjP h1.2 h2.2 (fun z => ?_)
  constructor
  · intro hz
    rcases List.mem_cons.1 ((h z).1 (List.mem_cons.2 (.inr hz))) with e | e
    · have := h1.1 z hz
      omega
    · exact e
  · intro hz
    rcases List.mem_cons.1 ((h z).2 (List.mem_cons.2 (.inr hz))) with e | e
    · have := h2.1 z hz
      omega
    · exact e
theorem Zl4 (h:Up l):t∈l↔atV l t<l.length∧l.getD (atV l t) 0=t:=by
 induction l with
 | nil=>simp [atV]
 | cons x r ih =>
  have h1:=List.pairwise_cons.1 h;by_cases hx:x<t
  · (have e:atV (x :: r) t=atV r t+1:=by simp [atV,hx]);rw [e,List.mem_cons,ih h1.2];constructor
    · rintro (e2 | ⟨a,b⟩)
      · omega
      · exact⟨by simpa using a,by simpa using b⟩
    · rintro ⟨a,b⟩;exact .inr ⟨by simpa using a,by simpa using b⟩
  · (have e:atV (x :: r) t=0:=by simp [atV,hx]);rw [e,List.mem_cons];constructor
    · rintro (e2 | e2)
      · exact⟨by simp,by simp [e2]⟩
      · have:=h1.1 t e2;exact absurd this hx
    · rintro ⟨_,b⟩;exact .inl (by simpa using b.symm)
def addN (l:List Int) (t:Int):List Int:=if t∈l then l else insV l t
theorem Znu :x∈addN l t↔x=t∨x∈l:=by
 unfold addN;split
 · rename_i h;constructor
   · exact .inr
   · rintro (rfl | e)
     · exact h
     · exact e
 · exact Zj3
theorem Zpl (h : Up l) (t : Int) : Up (addN l t) := by
 unfold addN
 split
 · exact h
 · rename_i hn
   exact Zmf h hn
theorem ZeA :∀(m l:List Int),x∈m.foldl addN l↔x∈m∨x∈l
 | [],l=>by simp
 | t :: m,l=>by
  rw [List.foldl_cons,ZeA m,Znu,List.mem_cons]
  constructor
  · rintro (e | e | e)
    · exact .inl (.inr e)
    · exact .inl (.inl e)
    · exact .inr e
  · rintro ((e | e) | e)
    · exact .inr (.inl e)
    · exact .inl e
    · exact .inr (.inr e)
theorem Zgg : ∀ (m : List Int) {l : List Int}, Up l → Up (m.foldl addN l)
 | [], _, h => h
 | t :: m, l, h => by rw [List.foldl_cons]; exact Zgg m (Zpl h t)
def allN (m:List Int):List Int:=m.foldl addN []
theorem Zes :x∈allN m↔x∈m:=by unfold allN;rw [ZeA];simp
theorem Zgh (m:List Int):Up (allN m):=Zgg m List.Pairwise.nil
theorem Zl1 {m l : List Int} (hu : Up l) (h : ∀ x, x ∈ l ↔ x ∈ m) : l = allN m := ZjP hu (Zgh m) (fun x => by rw [h x, Zes])
theorem Znv (m k:List Int):allN (m ++ k)=k.foldl addN (allN m):=List.foldl_append
section
variable {α : Type}
theorem Vn.look_code (V:Vn α):∀(n:Nat)(r:α),(V.look n r).2.2=0∨(V.look n r).2.2=13
 | n,r=>by
  cases hs:V.see r with
  | true=>rw [V.look_seen n hs];exact .inl rfl
  | false =>
   cases n with
   | zero=>rw [V.look_end hs];exact .inr rfl
   | succ n =>
    cases hn:V.nx r with
    | none=>rw [V.look_old (n+1) hs hn];exact .inr rfl
    | some o =>
     cases o with
     | none=>rw [V.look_new n hs hn];exact .inl rfl
     | some q=>rw [V.look_next n hs hn];exact V.look_code n q
theorem Vn.look_some (V:Vn α):∀(n:Nat)(r:α){q:α},(V.look n r).1=some q→(V.look n r).2.2=0
 | n,r,q,h=>by
  cases hs:V.see r with
  | true=>rw [V.look_seen n hs]
  | false =>
   cases n with
   | zero=>rw [V.look_end hs] at h;cases h
   | succ n =>
    cases hn:V.nx r with
    | none=>rw [V.look_old (n+1) hs hn] at h;cases h
    | some o =>
     cases o with
     | none=>rw [V.look_new n hs hn] at h;cases h
     | some q'=>rw [V.look_next n hs hn] at h ⊢;exact V.look_some n q' h
def Vn.rows (V:Vn α) (l:List α):List α:=l.filterMap fun r=>(V.look 400 r).1
def Vn.whos (V:Vn α) (l:List α):List Int:=l.flatMap fun r=>(V.look 400 r).2.1
def Vn.code (V:Vn α) (l:List α):Int:=if l.all (fun r=>(V.look 400 r).2.2 == 0)=true then 0 else 13
def Vn.scan (V:Vn α) (l:List α):List α × List Int × Int:=(if V.code l=0 then V.rows l else [],allN (V.whos l),V.code l)
theorem Vn.rows_take (V:Vn α){l:List α}(h:i<l.length):V.rows (l.take (i+1))=V.rows (l.take i) ++ (V.look 400 l[i]).1.toList:=by
 unfold Vn.rows;rw [List.take_succ_eq_append_getElem h,List.filterMap_append];cases e:(V.look 400 l[i]).1 <;> simp [e]
theorem Vn.whos_take (V:Vn α){l:List α}(h:i<l.length):V.whos (l.take (i+1))=V.whos (l.take i) ++ (V.look 400 l[i]).2.1:=by
 unfold Vn.whos;rw [List.take_succ_eq_append_getElem h,List.flatMap_append];simp
theorem Vn.code_take (V:Vn α){l:List α}(h:i<l.length):V.code (l.take (i+1))=if (V.look 400 l[i]).2.2=0 then V.code (l.take i) else 13:=by
 unfold Vn.code;rw [List.take_succ_eq_append_getElem h,List.all_append];by_cases e:(V.look 400 l[i]).2.2=0
 · simp [e]
 · simp [e]
theorem Vn.code_two (V:Vn α)(l:List α):V.code l=0∨V.code l=13:=by
 unfold Vn.code;split
 · exact .inl rfl
 · exact .inr rfl
end
def headK:List Int:=[1,4,3,2,3,1]
def numI (x:Nat):It:=⟨4,0,x,noS⟩
def Rw.head (r:Rw):List It:=[⟨1,if r.dead then 1 else 0,0,noS⟩,⟨4,0,r.key,noS⟩,⟨3,r.wr,0,noS⟩,⟨2,r.cell,0,noS⟩,⟨3,r.no,0,noS⟩,⟨1,r.xs.length,0,noS⟩]
def Rw.items (r:Rw):List It:=r.head ++ r.xs.map numI
theorem ZqR {ks:List Int}{fr:Nat × Nat}(h:w.heap[p]? = some (Obj.cells (kVals ks).toArray 3 fr)):Ks w (some ⟨p,0,none⟩) ks.length ks:=by
 refine⟨rfl,fun j hj=>⟨p,0,rfl,?_⟩⟩;rw [Nat.zero_add];simp only [World.cell?,h];simp [kVals,List.getD,hj]
theorem Zgw (w:World):Calls prog 186 #[] w fun e w'=>e=.returned (.slice (some ⟨w.heap.size,0,none⟩) 6 6)∧w'.heap[w.heap.size]? = some (Obj.cells (kVals headK).toArray 3 (0,0))∧Bl w w':=by
 have HK:=Zh (heap_alloc_new w (.cells (kVals headK).toArray 3));have HW:=Zh (Zab w (.cells #[.int .i64 1,.int .i64 4,.int .i64 3,.int .i64 2,.int .i64 3,.int .i64 1] 3));go_enter func186,ntmps186;go_wp2;go_ret;exact⟨rfl,HK.o,HW.o⟩
theorem RwBlk.stayI {w':World}(h:RwBlk w p r c)(hs:Ze9 w w'):RwBlk w' p r c:=(hs p _ _ _ h (by decide)).trans h
theorem Zg9 (x:Nat)(hx:x<18446744073709551616):(numI x).fits:=⟨ZaI (n:=4) (by decide) (by decide),ZaI (n:=0) (by decide) (by decide),hx,Nat.zero_le _⟩
def Rw.bytes (r:Rw):List Nat:=putB r.items
theorem Rw.may_parts (h:r.may=true):r.key=Fl.key r.key∧r.xs.length≤4∧(r.dead=true→r.xs=[])∧(∀x∈r.xs,x=Fl.val x)∧(0≤r.wr∧r.wr<2147483648)∧(0≤r.cell∧r.cell<65536)∧(0≤r.no∧r.no<2147483648)∧(0<r.cell∨r.no=0):=by
 rw [Zmu] at h;unfold haveB at h;simp at h;obtain⟨⟨h1,⟨h2,h3⟩,h4⟩,⟨⟨⟨⟨⟨h5,h6⟩,h7⟩,h8⟩,h9⟩,aa⟩,ab⟩:=h;refine⟨h1,h2,fun hd=>?_,h4,⟨h5,h6⟩,⟨h7,h8⟩,⟨h9,aa⟩,ab⟩;rcases h3 with h3 | h3
 · rw [h3] at hd;cases hd
 · exact h3
theorem ZpN (x:Nat):(numI x).may=true:=by simp [numI,It.may,Zez]
theorem Zdj (h:r.may=true):r.items.all It.may=true:=by
 obtain⟨_,h2,_,_,h5,h7,h9,_⟩:=Rw.may_parts h;unfold Rw.items Rw.head;rw [List.all_append];have e:(r.xs.map numI).all It.may=true:=by
  rw [List.all_eq_true];intro i hi;obtain⟨x,_,rfl⟩:=List.mem_map.1 hi;exact ZpN x
 rw [e];simp [It.may,Zez,h5.1,h5.2,h7.1,h7.2,h9.1,h9.2];refine⟨?_,by omega⟩;cases r.dead <;> simp
theorem ZdE (hf:r.fits)(h4:r.xs.length≤4):∀i∈r.items,i.fits:=by
 have f0:(Lit.int .i64 0).wf=true:=ZaI (n:=0) (by decide) (by decide);have f1:(Lit.int .i64 1).wf=true:=ZaI (n:=1) (by decide) (by decide);have f2:(Lit.int .i64 2).wf=true:=ZaI (n:=2) (by decide) (by decide);have f3:(Lit.int .i64 3).wf=true:=ZaI (n:=3) (by decide) (by decide);have f4:(Lit.int .i64 4).wf=true:=ZaI (n:=4) (by decide) (by decide);(have g0:(0:Nat)<18446744073709551616:=by decide);have s0:noS.size≤maxLen:=Nat.zero_le _;intro i hi;unfold Rw.items Rw.head at hi;simp only [List.mem_append,List.mem_cons,List.not_mem_nil,or_false] at hi;rcases hi with (rfl | rfl | rfl | rfl | rfl | rfl) | hi
 · refine⟨f1,?_,g0,s0⟩;cases r.dead
   · exact f0
   · exact f1
 · exact⟨f4,f0,hf.key,s0⟩
 · exact⟨f3,hf.wr,g0,s0⟩
 · exact⟨f2,hf.cell,g0,s0⟩
 · exact⟨f3,hf.no,g0,s0⟩
 · exact⟨f1,ZaI (n:=(r.xs.length:Nat)) (by omega) (by omega),g0,s0⟩
 · obtain⟨x,hx,rfl⟩:=List.mem_map.1 hi;exact Zg9 x (hf.xs x hx)
theorem Zhs (r:Rw):r.items.length=6+r.xs.length:=by simp [Rw.items,Rw.head];omega
theorem ZjA:∀xs:List Nat,(putB (xs.map numI)).length=8*xs.length
 | []=>rfl
 | x :: r=>by
  have:=ZjA r
  simp only [putB,List.map_cons,List.flatMap_cons,List.length_append,List.length_cons] at *
  rw [this]
  simp [numI,It.bytes,Zak]
  omega
theorem Zcg (r:Rw):r.bytes.length=20+8*r.xs.length:=by
 unfold Rw.bytes Rw.items;(have e:putB (r.head ++ r.xs.map numI)=putB r.head ++ putB (r.xs.map numI):=by simp [putB]);rw [e,List.length_append,ZjA];simp [putB,Rw.head,It.bytes,Zak]
theorem OwnsI.lit (w:World)(base:Nat)(l:List It)(hb:base≤w.heap.size)(hm:l.length≤1000000):OwnsI (w.alloc (.cells (ZaQ l).toArray 182)) base (.slice (some ⟨w.heap.size,0,none⟩) l.length l.length) l:=by
 have:=World.ownsRow_lit (base:=base) (e:=182) (size:=4) w (ZaQ l).toArray l.length hb (by unfold maxLen;omega) (by simp [Zbp]);simpa [OwnsI] using this
theorem ZbN (h:r.may=true):Bytes r.bytes:=(ZjG (List.all_eq_true.1 (Zdj h))).2
theorem Zck (r:Rw)(a:Option Addr)(len cap:Nat)(w:World)(h:Fs w a len cap r.xs)(hf:r.fits)(hm:r.may=true) :
    Calls prog 102 #[r.val (.slice a len cap)] w fun e w'=>∃v,e=.returned v∧Owns w' w.heap.size v r.bytes∧Bl w w':=by
  (have h4:len≤4:=by have:=(Rw.may_parts hm).2.1;rw [h.len] at this;exact this);have HM:=Zh hm;have HF:=Zh hf;obtain⟨key,dead,xs,wt,cell,no⟩:=r;have H:=Zh h;have HL:=Zh h.len;have HX:=Zh (Zai w ⟨key,dead,xs,wt,cell,no⟩ (.slice a len cap));clear h hf hm;simp only at HX HL H;unfold Rw.val;simp only;cases dead
  · have ag:=Zh (OwnsI.lit (w.alloc (.cells #[.float .f64 key,.bool false,.slice a len cap,.int .i64 wt,.int .i64 cell,.int .i64 no] 39)) w.heap.size [⟨1,0,0,noS⟩,⟨4,0,key,noS⟩,⟨3,wt,0,noS⟩,⟨2,cell,0,noS⟩,⟨3,no,0,noS⟩,⟨1,(len:Nat),0,noS⟩] (by simp) (by simp));have bd:=Zh (ZaA w (.cells #[.float .f64 key,.bool false,.slice a len cap,.int .i64 wt,.int .i64 cell,.int .i64 no] 39) (.cells (ZaQ [⟨1,0,0,noS⟩,⟨4,0,key,noS⟩,⟨3,wt,0,noS⟩,⟨2,cell,0,noS⟩,⟨3,no,0,noS⟩,⟨1,(len:Nat),0,noS⟩]).toArray 182));have bg:=Zh (HX.o.keep (Zab (w.alloc (.cells #[.float .f64 key,.bool false,.slice a len cap,.int .i64 wt,.int .i64 cell,.int .i64 no] 39)) (.cells (ZaQ [⟨1,0,0,noS⟩,⟨4,0,key,noS⟩,⟨3,wt,0,noS⟩,⟨2,cell,0,noS⟩,⟨3,no,0,noS⟩,⟨1,(len:Nat),0,noS⟩]).toArray 182)));(have aw:(w.alloc (.cells #[.float .f64 key,.bool false,.slice a len cap,.int .i64 wt,.int .i64 cell,.int .i64 no] 39)).heap.size=w.heap.size+1:=by simp);rw [aw] at ag;clear aw HX;go_enter func102,ntmps102;go_wp2_with fail;go_loopw [4,5] (fun v i wr'=>∃k:Nat,k≤len∧i=.int .i64 k∧Hi (OwnsI wr' w.heap.size v ([⟨1,0,0,noS⟩,⟨4,0,key,noS⟩,⟨3,wt,0,noS⟩,⟨2,cell,0,noS⟩,⟨3,no,0,noS⟩,⟨1,(len:Nat),0,noS⟩] ++ (xs.map numI).take k))∧Hi (Bl w wr')∧Hi (RwBlk wr' w.heap.size ⟨key,false,xs,wt,cell,no⟩ (.slice a len cap))) (fun _ i _=>len-(intOf i).toNat)
    case atStart=>exact ⟨0,by omega,rfl,ag,bd,bg⟩
    case round =>
     obtain⟨k,hk,rfl,aa,ad,al⟩:=hrel;have x2:=al.o.c2;rcases Nat.lt_or_ge k len with ao | bh
     · obtain⟨b,off,rfl,hc,ac,hx⟩:=(H.o.keep ad.o (Nat.le_refl _)).at k ao;obtain⟨x,af⟩:∃x,x=xs.getD k 0:=⟨_,rfl⟩;rw [← af] at hc ac hx;have bf:=Zh af;have ah:=Zh (aa.o.keep (Zab wr (.cells #[.int .i64 4,.int .i64 0,.float .f64 x,.string ⟨#[]⟩] 182)) (Nat.le_refl _));have aj:=Zh (Zac ad.o (Zab wr (.cells #[.int .i64 4,.int .i64 0,.float .f64 x,.string ⟨#[]⟩] 182)));have ak:=Zh (al.o.keep (Zab wr (.cells #[.int .i64 4,.int .i64 0,.float .f64 x,.string ⟨#[]⟩] 182)));have HI:=Zh (Zdi wr (numI x) (Zg9 x hx));unfold numI noS at HI;simp only at HI;(have ab:Hi ((([⟨1,0,0,noS⟩,⟨4,0,key,noS⟩,⟨3,wt,0,noS⟩,⟨2,cell,0,noS⟩,⟨3,no,0,noS⟩,⟨1,(len:Nat),0,noS⟩]:List It) ++ (xs.map numI).take k).length+1≤1000000):=by show _≤_;simp;omega);clear af ac hx;go_wp2_with (at_builtin;refine Zaw _ rfl (.tmp 38) (.tmp 45) rfl w.heap.size _ _ rfl ah.o _ _ _ _ rfl HI.o (fun h=>by cases h) ab.o aj.o.size ?_);intro v7 w7 aq am av;have az:=Zh aq;have bb:=Zh (aj.o.trans am);have be:=Zh (ak.o.stayI av);clear aq am av ah HI ab ak x2;go_wp2;go_roundw
       case rel =>
        (have hk':k<xs.length:=by rw [HL.o];exact ao);refine⟨k+1,by omega,by go_num,?_,bb,be⟩;have e:(xs.map numI).take (k+1)=(xs.map numI).take k ++ [⟨4,0,x,⟨#[]⟩⟩]:=by
         rw [List.take_succ_eq_append_getElem (by simpa using hk'),bf.o];simp [numI,noS,List.getD,hk']
        rw [e,← List.append_assoc];exact az
       case measure=>simp only [intOf];omega
     · have ax:(xs.map numI).take k=xs.map numI:=List.take_of_length_le (by rw [List.length_map,HL.o];omega);rw [ax] at aa;have au:OwnsI wr w.heap.size u4 (Rw.items ⟨key,false,xs,wt,cell,no⟩):=by
        have e:Rw.items ⟨key,false,xs,wt,cell,no⟩=[⟨1,0,0,noS⟩,⟨4,0,key,noS⟩,⟨3,wt,0,noS⟩,⟨2,cell,0,noS⟩,⟨3,no,0,noS⟩,⟨1,(len:Nat),0,noS⟩] ++ xs.map numI:=by
         unfold Rw.items Rw.head;simp only [HL.o];rfl
        rw [e];exact aa.o
       obtain⟨a2,c2,ay,is2,_⟩:=au.is (ZdE HF.o (by show xs.length≤4;rw [HL.o];exact h4));have ae:(Rw.items ⟨key,false,xs,wt,cell,no⟩).length=6+xs.length:=Zhs _;obtain⟨n2,ap⟩:∃n,(Rw.items ⟨key,false,xs,wt,cell,no⟩).length=n:=⟨_,rfl⟩;rw [ap] at ay is2 ae;subst ay;have ai:=Zh (ZfR a2 n2 c2 _ wr is2 (by rw [HL.o] at ae;omega));rw [Zdj HM.o] at ai;clear ax aa au is2 ae ap;go_wp2_with fail;refine ai.o.mono ?_;rintro e w8 ⟨v8,rfl,an,ar,_⟩;have bc:=Zh (Zac ad.o an);have ba:=Zh ((ar (by trivial)).lower ad.o.size);clear an ar x2;go_wp2;go_ret;exact⟨_,rfl,ba.o,bc.o⟩
  · have ag:=Zh (OwnsI.lit (w.alloc (.cells #[.float .f64 key,.bool true,.slice a len cap,.int .i64 wt,.int .i64 cell,.int .i64 no] 39)) w.heap.size [⟨1,1,0,noS⟩,⟨4,0,key,noS⟩,⟨3,wt,0,noS⟩,⟨2,cell,0,noS⟩,⟨3,no,0,noS⟩,⟨1,(len:Nat),0,noS⟩] (by simp) (by simp));have bd:=Zh (ZaA w (.cells #[.float .f64 key,.bool true,.slice a len cap,.int .i64 wt,.int .i64 cell,.int .i64 no] 39) (.cells (ZaQ [⟨1,1,0,noS⟩,⟨4,0,key,noS⟩,⟨3,wt,0,noS⟩,⟨2,cell,0,noS⟩,⟨3,no,0,noS⟩,⟨1,(len:Nat),0,noS⟩]).toArray 182));have bg:=Zh (HX.o.keep (Zab (w.alloc (.cells #[.float .f64 key,.bool true,.slice a len cap,.int .i64 wt,.int .i64 cell,.int .i64 no] 39)) (.cells (ZaQ [⟨1,1,0,noS⟩,⟨4,0,key,noS⟩,⟨3,wt,0,noS⟩,⟨2,cell,0,noS⟩,⟨3,no,0,noS⟩,⟨1,(len:Nat),0,noS⟩]).toArray 182)));(have aw:(w.alloc (.cells #[.float .f64 key,.bool true,.slice a len cap,.int .i64 wt,.int .i64 cell,.int .i64 no] 39)).heap.size=w.heap.size+1:=by simp);rw [aw] at ag;clear aw HX;go_enter func102,ntmps102;go_wp2_with fail;go_loopw [4,5] (fun v i wr'=>∃k:Nat,k≤len∧i=.int .i64 k∧Hi (OwnsI wr' w.heap.size v ([⟨1,1,0,noS⟩,⟨4,0,key,noS⟩,⟨3,wt,0,noS⟩,⟨2,cell,0,noS⟩,⟨3,no,0,noS⟩,⟨1,(len:Nat),0,noS⟩] ++ (xs.map numI).take k))∧Hi (Bl w wr')∧Hi (RwBlk wr' w.heap.size ⟨key,true,xs,wt,cell,no⟩ (.slice a len cap))) (fun _ i _=>len-(intOf i).toNat)
    case atStart=>exact ⟨0,by omega,rfl,ag,bd,bg⟩
    case round =>
     obtain⟨k,hk,rfl,aa,ad,al⟩:=hrel;have x2:=al.o.c2;rcases Nat.lt_or_ge k len with ao | bh
     · obtain⟨b,off,rfl,hc,ac,hx⟩:=(H.o.keep ad.o (Nat.le_refl _)).at k ao;obtain⟨x,af⟩:∃x,x=xs.getD k 0:=⟨_,rfl⟩;rw [← af] at hc ac hx;have bf:=Zh af;have ah:=Zh (aa.o.keep (Zab wr (.cells #[.int .i64 4,.int .i64 0,.float .f64 x,.string ⟨#[]⟩] 182)) (Nat.le_refl _));have aj:=Zh (Zac ad.o (Zab wr (.cells #[.int .i64 4,.int .i64 0,.float .f64 x,.string ⟨#[]⟩] 182)));have ak:=Zh (al.o.keep (Zab wr (.cells #[.int .i64 4,.int .i64 0,.float .f64 x,.string ⟨#[]⟩] 182)));have HI:=Zh (Zdi wr (numI x) (Zg9 x hx));unfold numI noS at HI;simp only at HI;(have ab:Hi ((([⟨1,1,0,noS⟩,⟨4,0,key,noS⟩,⟨3,wt,0,noS⟩,⟨2,cell,0,noS⟩,⟨3,no,0,noS⟩,⟨1,(len:Nat),0,noS⟩]:List It) ++ (xs.map numI).take k).length+1≤1000000):=by show _≤_;simp;omega);clear af ac hx;go_wp2_with (at_builtin;refine Zaw _ rfl (.tmp 38) (.tmp 45) rfl w.heap.size _ _ rfl ah.o _ _ _ _ rfl HI.o (fun h=>by cases h) ab.o aj.o.size ?_);intro v7 w7 aq am av;have az:=Zh aq;have bb:=Zh (aj.o.trans am);have be:=Zh (ak.o.stayI av);clear aq am av ah HI ab ak x2;go_wp2;go_roundw
       case rel =>
        (have hk':k<xs.length:=by rw [HL.o];exact ao);refine⟨k+1,by omega,by go_num,?_,bb,be⟩;have e:(xs.map numI).take (k+1)=(xs.map numI).take k ++ [⟨4,0,x,⟨#[]⟩⟩]:=by
         rw [List.take_succ_eq_append_getElem (by simpa using hk'),bf.o];simp [numI,noS,List.getD,hk']
        rw [e,← List.append_assoc];exact az
       case measure=>simp only [intOf];omega
     · have ax:(xs.map numI).take k=xs.map numI:=List.take_of_length_le (by rw [List.length_map,HL.o];omega);rw [ax] at aa;have au:OwnsI wr w.heap.size u4 (Rw.items ⟨key,true,xs,wt,cell,no⟩):=by
        have e:Rw.items ⟨key,true,xs,wt,cell,no⟩=[⟨1,1,0,noS⟩,⟨4,0,key,noS⟩,⟨3,wt,0,noS⟩,⟨2,cell,0,noS⟩,⟨3,no,0,noS⟩,⟨1,(len:Nat),0,noS⟩] ++ xs.map numI:=by
         unfold Rw.items Rw.head;simp only [HL.o];rfl
        rw [e];exact aa.o
       obtain⟨a2,c2,ay,is2,_⟩:=au.is (ZdE HF.o (by show xs.length≤4;rw [HL.o];exact h4));have ae:(Rw.items ⟨key,true,xs,wt,cell,no⟩).length=6+xs.length:=Zhs _;obtain⟨n2,ap⟩:∃n,(Rw.items ⟨key,true,xs,wt,cell,no⟩).length=n:=⟨_,rfl⟩;rw [ap] at ay is2 ae;subst ay;have ai:=Zh (ZfR a2 n2 c2 _ wr is2 (by rw [HL.o] at ae;omega));rw [Zdj HM.o] at ai;clear ax aa au is2 ae ap;go_wp2_with fail;refine ai.o.mono ?_;rintro e w8 ⟨v8,rfl,an,ar,_⟩;have bc:=Zh (Zac ad.o an);have ba:=Zh ((ar (by trivial)).lower ad.o.size);clear an ar x2;go_wp2;go_ret;exact⟨_,rfl,ba.o,bc.o⟩
theorem Pl.copyV {P:Program}{ops:Array Oper}{f:Nat→Value}(i:Nat)(t:TypeId)(x y:Operand)(v:Value)(w':World)(h:(Pl.op ops i).op=.call { callee:=.builtin .copy,args:=#[x,y],argTypes:=#[t,t] })(hx:Pl.inB n x=true)(hy:Pl.inB n y=true)
    (hv:∀ty,(Builtin.copy_ #[t,t] ty #[Pl.ev f x,Pl.ev f y]).run P w=.ok v w') :
    ∀A,Pl.At n A f→(execOp A.eval (Pl.op ops i)).run P w=.ok (.value v) w':=by
  intro A hA;unfold execOp;rw [h];simp [resolve,invoke,builtin,hA.ev x hx,hA.ev y hy,hv]
theorem szI (w:World):(sizeOf 3).run prog w=.ok 1 w:=by
 obtain⟨i0,hi,ab,aa,ac⟩:=info_parts ZjD.info;simp [sizeOf,typeInfo,hi,aa]
theorem ZqA:prog.elem 29=3:=by kernel_rfl
theorem ZiM (a:Option Addr)(len cap k:Nat)(hk:k≤len)(w:World):(Instr.sliceAt 29 (.slice a len cap) (some (.int .i64 (k:Nat))) none none).run prog w=.ok (.slice (fromA a cap k) (len-k) (cap-k)) w:=by
 (have aa:prog.underlying 29=some (.slice (prog.elem 29)):=by kernel_rfl);rw [run_sliceAt_slice w 29 _ _ _ _ aa,run_slice_l w 29 a len cap aa .i64 (k:Nat) (by omega) (by omega),ZqA,szI];simp [Result.andThen,sliced,fromA]
theorem ZiQ (a:Option Addr)(len cap k:Nat)(hk:k≤cap)(w:World):(Instr.sliceAt 29 (.slice a len cap) none (some (.int .i64 (k:Nat))) none).run prog w=.ok (.slice (fromA a cap 0) k cap) w:=by
 (have aa:prog.underlying 29=some (.slice (prog.elem 29)):=by kernel_rfl);rw [run_sliceAt_slice w 29 _ _ _ _ aa,run_slice_h w 29 a len cap aa .i64 (k:Nat) (by omega) (by omega),ZqA,szI];simp [Result.andThen,sliced,fromA]
theorem Zpm:∀n:Fin 256,bits .and .u64 (n.val:Int) 4294967295=(n.val:Int):=by decide +kernel
theorem Zmv (n:Nat)(hn:n≤255)(w:World):Calls prog 216 #[.int .u64 1,.int .u64 (n:Nat)] w fun e w'=>e=.returned (.tuple #[.int .u64 0,.int .u64 (n:Nat)])∧w'=w:=by
 (have ab:bits .and .u64 1 4294967295=1:=by decide +kernel);(have aa:bits .and .u64 0 4294967295=0:=by decide +kernel);have ac:bits .and .u64 (n:Int) 4294967295=(n:Int):=Zpm ⟨n,by omega⟩;(have hd:(n:Int) / 4294967296=0:=by omega);(have hw:IntKind.u64.wrap (n:Int)=(n:Int):=by rw [IntKind.wrap_u64];omega);(have h0:IntKind.u64.wrap 0=0:=by decide);clear hn;go_enter func216,ntmps216;go_wp2;go_ret2;exact⟨by simp,rfl⟩
theorem mul_one (n:Nat)(hn:n≤255)(w:World):Calls prog 211 #[.int .u64 1,.int .u64 (n:Nat)] w fun e w'=>e=.returned (.tuple #[.int .u64 0,.int .u64 (n:Nat)])∧w'=w:=by
 have H:=Zh (Zmv n hn);go_enter func211,ntmps211;go_wp2_with fail;refine(H.o _).mono ?_;rintro e w' ⟨rfl,hw⟩;obtain rfl:=hw.symm;go_wp2;go_ret2;exact⟨rfl,rfl⟩
def fours (n:Nat):List Value:=kVals (List.replicate n 4)
def noughts (n:Nat):List Value:=kVals (List.replicate n 0)
theorem Zap (n:Nat):(fours n).length=n:=by simp [fours,kVals]
theorem Zi6 (n:Nat):(noughts n).length=n:=by simp [noughts,kVals]
theorem ZeL (n:Nat):∀u∈fours n,u.oneCell'=true:=Zhv _
theorem Zhk (h:(fours n)[j]? = some v):j<n∧v=.int .i64 4:=by
 have hl:=(List.getElem?_eq_some_iff.1 h).1;rw [Zap] at hl;simp [fours,kVals,hl] at h;exact⟨hl,h.symm⟩
def partly (n m:Nat):List Value:=fours m ++ noughts (n-m)
theorem ZfK {m:Nat}(h:m≤n):(partly n m).length=n:=by
 simp [partly,Zap,Zi6];omega
theorem ZkS {m:Nat}(h:j<m):(partly n m)[j]? = some (.int .i64 4):=by
 unfold partly;rw [List.getElem?_append_left (by rw [Zap];exact h)];simp [fours,kVals,h]
theorem ZeY (n m c:Nat):(partly n m).take m ++ fours c ++ (partly n m).drop (m+c)=partly n (m+c):=by
 have e1:(partly n m).take m=fours m:=by
  unfold partly;rw [List.take_append_of_le_length (by rw [Zap];exact Nat.le_refl _),List.take_of_length_le (by rw [Zap];exact Nat.le_refl _)]
 have e2:(partly n m).drop (m+c)=noughts (n-(m+c)):=by
  unfold partly;rw [List.drop_append,Zap,List.drop_eq_nil_of_le (by rw [Zap];omega)];(have e3:m+c-m=c:=by omega);rw [e3,List.nil_append];unfold noughts kVals;rw [← List.map_drop,List.drop_replicate];congr 2;omega
 rw [e1,e2];unfold partly fours kVals;rw [← List.map_append,List.replicate_append_replicate]
theorem ZiA {m:Nat}(h:w.heap[g]? = some (Obj.cells (partly n m).toArray 3 (0,0)))(hj:j<m):w.cell? ⟨g,j,none⟩=some (.int .i64 4):=by
 simp only [World.cell?,h];simpa using ZkS (n:=n) hj
theorem ZiL (g n m:Nat)(h:m<n)(w:World):(Instr.sliceAt 29 (.slice (some ⟨g,0,none⟩) n n) (some (.int .i64 (m:Nat))) none none).run prog w=.ok (.slice (some ⟨g,m,none⟩) (n-m) (n-m)) w:=by
 rw [ZiM _ n n m (by omega)];unfold fromA;rw [if_neg (by omega)];simp [Addr.add_lit]
theorem ZiP (g n m:Nat)(h:m<n)(w:World):(Instr.sliceAt 29 (.slice (some ⟨g,0,none⟩) n n) none (some (.int .i64 (m:Nat))) none).run prog w=.ok (.slice (some ⟨g,0,none⟩) m n) w:=by
 rw [ZiQ _ n n m (by omega)];unfold fromA;rw [if_neg (by omega)];simp [Addr.add_lit]
theorem ZlD (g n m:Nat)(hm:m<n)(w:World)(hg:w.heap[g]? = some (Obj.cells (partly n m).toArray 3 (0,0)))(ty:TypeId) :
    (Builtin.copy_ #[29,29] ty #[.slice (some ⟨g,m,none⟩) (n-m) (n-m),.slice (some ⟨g,0,none⟩) m n]).run prog w=.ok (.int .i64 ((Nat.min m (n-m):Nat):Int)) (w.setRow g (partly n (m+Nat.min m (n-m))).toArray):=by
  have hc:Nat.min m (n-m)≤m∧Nat.min m (n-m)≤n-m:=⟨Nat.min_le_left _ _,Nat.min_le_right _ _⟩;generalize aa:Nat.min m (n-m)=c at *;have h:=run_copy_row (P:=prog) w 29 29 ty 3 g m (n-m) (n-m) ⟨g,0,none⟩ m n (partly n m).toArray 3 (fours c) underlying29 (by kernel_rfl) hg (by rw [Zap,aa])
   (fun j v hj=>by
    obtain⟨h1,rfl⟩:=Zhk hj;rw [Addr.add_lit,Nat.zero_add];exact ZiA hg (by omega)) (by rw [Zap];simp [ZfK (Nat.le_of_lt hm)];omega) (ZeL c)
  rw [h,Zap];rw [ZeY n m c];rfl
theorem ZmP {cur:Array Value}{t:TypeId}(h:w.heap[g]? = some (Obj.cells cur t (0,0)))(new:Array Value):(w.setRow g new).heap[g]? = some (Obj.cells new t (0,0)):=setRow_heap w g _ _ t _ h
theorem rep9 (w0 w:World)(g n m:Nat)(hm:m<n)(hn:n≤1000000)(hB:w0.heap.size≤g)(hg:w.heap[g]? = some (Obj.cells (partly n m).toArray 3 (0,0)))(hW:Bl w0 w)
    {Q:Exit→Act→World→Prop}(hsz:A.tmps.size=48)(hdf:A.defers=[])(s7:A.tmps.getD 7 undef=.slice (some ⟨g,0,none⟩) n n)(s8:A.tmps.getD 8 undef=.int .i64 (m:Nat))
    (hend:∀(u:Nat→Value) w',(Bl w0 w'∧w'.heap[g]? = some (Obj.cells (partly n (m+Nat.min m (n-m))).toArray 3 (0,0)))→Q .normal ((Pl.pu A u [38,39,40,41,42,43,44,45,46]).put (some 8) (.int .i64 ((m+Nat.min m (n-m):Nat):Int))) w') :
    (Code.region 9 (Pl.find 9 ((f202.body).getD .skip)) true).wp prog Q A w:=by
  have hS0:Bl w0 w.drew:=hW.drew
  have hA:=Pl.At.same (v:=.int .i64 (m:Nat)) (d:=8) (Pl.At.same (v:=.slice (some ⟨g,0,none⟩) n n) (d:=7) (Pl.At.here hsz hdf) s7) s8
  refine Pl.qb (S:=fun w'=>Bl w0 w') hA hS0 ?_
  rw [show (Pl.find 9 ((f202.body).getD .skip)).size=10 by kernel_rfl]
  refine Pl.q0 0 38 (.int .i64 (m:Nat)) (Pl.q1) (Pl.q2 (.tmp 8)) hS0 ?_
  refine Pl.q0 1 39 (.slice (some ⟨g,0,none⟩) n n) (Pl.q1) (Pl.q2 (.tmp 7)) hS0 ?_
  refine Pl.q0 2 40 (.int .i64 (m:Nat)) (Pl.q1) (Pl.q2 (.tmp 8)) hS0 ?_
  refine Pl.q0 3 41 (.slice (some ⟨g,m,none⟩) (n-m) (n-m)) (Pl.q1) (Pl.qt 29 (.tmp 39) (some (.tmp 40)) none (fun w=>ZiL g n m hm w)) hS0 ?_
  refine Pl.q0 4 42 (.slice (some ⟨g,0,none⟩) n n) (Pl.q1) (Pl.q2 (.tmp 7)) hS0 ?_
  refine Pl.q0 5 43 (.int .i64 (m:Nat)) (Pl.q1) (Pl.q2 (.tmp 8)) hS0 ?_
  refine Pl.q0 6 44 (.slice (some ⟨g,0,none⟩) m n) (Pl.q1) (Pl.qt 29 (.tmp 42) none (some (.tmp 43)) (fun w=>ZiP g n m hm w)) hS0 ?_
  have hg1:=ZmP (w:=w.drew) hg (partly n (m+Nat.min m (n-m))).toArray
  have hS1:Bl w0 (w.drew.setRow g (partly n (m+Nat.min m (n-m))).toArray):=below_setRow hS0 hB _
  refine Pl.qf 7 45 (.int .i64 ((Nat.min m (n-m):Nat):Int)) (w.drew.setRow g (partly n (m+Nat.min m (n-m))).toArray) (Pl.q1) (Pl.copyV 7 29 (.tmp 41) (.tmp 44) _ _ (by kernel_rfl) (by decide) (by decide) (fun ty=>ZlD g n m hm w.drew hg ty)) hS1 ?_
  refine Pl.q0 8 46 (.int .i64 ((m+Nat.min m (n-m):Nat):Int)) (Pl.q1) (Pl.qc .add 3 3 (.tmp 38) (.tmp 45) (.int .i64 (m:Nat)) (.int .i64 ((Nat.min m (n-m):Nat):Int)) (fun w=>Zl0 m (Nat.min m (n-m)) _ _ (by have h1:Nat.min m (n-m)≤m:=Nat.min_le_left _ _;omega) w)) hS1 ?_
  refine Pl.q0 9 8 (.int .i64 ((m+Nat.min m (n-m):Nat):Int)) (Pl.q1) (Pl.qd (.tmp 46)) hS1 ?_
  refine Pl.q8 (fun A' hA'=>?_)
  rw [Pl.At.ext hA' ((((((((((hA.put 38 _).put 39 _).put 40 _).put 41 _).put 42 _).put 43 _).put 44 _).put 45 _).put 46 _).put 8 _)]
  exact hend hA'.fn _ ⟨hS1,hg1⟩
theorem Zh2 (h:w.ownsRow base 3 1 (.slice (some ⟨g,0,none⟩) n cap) n (madeCells #[Value.int .i64 0] n).toList)(hc:cap=n):w.heap[g]? = some (Obj.cells (partly n 0).toArray 3 (0,0)):=by
 have e:(madeCells #[Value.int .i64 0] n).toList=partly n 0:=by
  rw [toList_madeCells_one];simp [partly,fours,noughts,kVals]
 rw [e] at h;rcases h.2 with ⟨hv,_⟩ | ⟨g',cap',cur,hv,_,hg,_,_,aa,ab⟩
 · cases hv
 · simp only [Value.slice.injEq,Option.some.injEq,Addr.mk.injEq,and_true,true_and] at hv;obtain⟨rfl,rfl⟩:=hv;have:cur.toList=partly n 0:=by
    rw [← ab,List.take_of_length_le];rw [Array.length_toList,aa,hc];exact Nat.le_refl _
   rw [hg];congr 2;apply Array.toList_inj.1;simpa using this
theorem ZiB (hb:base≤g)(hn:n≤1000000)(h:w.heap[g]? = some (Obj.cells (partly n n).toArray 3 (0,0))):OwnsV 3 w base (.slice (some ⟨g,0,none⟩) n n) (fours n):=by
 (have e:partly n n=fours n:=by simp [partly,noughts,kVals]);rw [e] at h;unfold OwnsV;rw [Zap];refine⟨by rw [Zap,Nat.mul_one],.inr ⟨g,n,_,rfl,hb,h,Nat.le_refl _,by unfold maxLen;omega,?_,?_⟩⟩
 · simp [Zap]
 · rw [List.take_of_length_le (by simp [Zap])]
theorem Zki (g b n:Nat)(w:World)(hg:w.heap[g]? = some (Obj.cells (partly n 0).toArray 3 (0,0)))(hb:w.cell? ⟨b,0,none⟩=some (.int .i64 4))(ty:TypeId) :
    (Builtin.copy_ #[29,29] ty #[.slice (some ⟨g,0,none⟩) n n,.slice (some ⟨b,0,none⟩) 1 1]).run prog w=.ok (.int .i64 ((Nat.min 1 n:Nat):Int)) (w.setRow g (partly n (Nat.min 1 n)).toArray):=by
  have hc:Nat.min 1 n≤1∧Nat.min 1 n≤n:=⟨Nat.min_le_left _ _,Nat.min_le_right _ _⟩;generalize aa:Nat.min 1 n=c at *;have h:=run_copy_row (P:=prog) w 29 29 ty 3 g 0 n n ⟨b,0,none⟩ 1 1 (partly n 0).toArray 3 (fours c) underlying29 (by kernel_rfl) hg (by rw [Zap,aa])
   (fun j v hj=>by
    obtain⟨h1,rfl⟩:=Zhk hj;(obtain rfl:j=0:=by omega);simpa [Addr.add] using hb) (by rw [Zap];simp [ZfK (Nat.zero_le n)];omega) (ZeL c)
  rw [h,Zap];have e:=ZeY n 0 c;rw [e,Nat.zero_add];rfl
theorem ZkX (b n:Nat)(w:World)(hx:w.cell? ⟨b,0,none⟩=some (.int .i64 4))(hn:n≤255) :
    Calls prog 202 #[.slice (some ⟨b,0,none⟩) 1 1,.int .i64 (n:Nat)] w fun e w'=>∃v,e=.returned v∧OwnsV 3 w' w.heap.size v (fours n)∧Bl w w':=by
  obtain⟨i0,hi,ai,aj,ak⟩:=info_parts ZjD.info;have HM:=Zh (mul_one n hn);have HX:=Zh hx;(have av:IntKind.u64.wrap (n:Int)=(n:Int):=by rw [IntKind.wrap_u64];omega);(have aw:IntKind.i64.wrap (n:Int)=(n:Int):=by rw [IntKind.wrap_i64];omega);clear hx;go_enter func202,ntmps202;go_wp2_with fail;refine(HM.o _).mono ?_;rintro e w' ⟨rfl,hw⟩;obtain rfl:=hw.symm;go_wp2_with (at_make;refine wpList_make_full _ rfl _ _ 29 rfl w.heap.size 3 i0 (.int .i64 0) 1 underlying29 hi ai aj _ _ _ _ n rfl rfl (by omega) (by omega) ?b2 ?b3 (Nat.le_refl _) ?_)
  case b2=>rw [ak];omega
  case b3=>unfold maxLen;omega
  intro w0 ab aa;have HG:=Zh (Zh2 ab rfl);have HW:Hi (Bl w w0):=(Below.refl w.heap.size w).grown aa (Nat.le_refl _) (fun k hk=>by cases hk);have HC:Hi (w0.cell? ⟨b,0,none⟩=some (.int .i64 4)):=(HW.o.cell (World.block_lt_of_cell? w _ HX.o)).trans HX.o;have ac:Hi (Nat.min 1 n≤n∧(0<n→0<Nat.min 1 n)):=⟨Nat.min_le_right _ _,fun h=>by rw [Nat.lt_min];omega⟩;have af:=Zki w.heap.size b n w0 HG.o HC.o;have am:=Zh (ZmP HG.o (partly n (Nat.min 1 n)).toArray);have ao:=Zh (below_setRow HW.o (Nat.le_refl w.heap.size) (partly n (Nat.min 1 n)).toArray);generalize Nat.min 1 n=c at *;generalize w0.setRow w.heap.size (partly n c).toArray=w1 at *;clear ab aa hi ai aj ak HW HG;go_wp2_with fail;go_loopw [8] (fun i wr'=>∃m:Nat,m≤n∧(0<n→0<m)∧i=.int .i64 m∧Hi (wr'.heap[w.heap.size]? = some (Obj.cells (partly n m).toArray 3 (0,0)))∧Hi (Bl w wr')) (fun i _=>n-(intOf i).toNat)
  case atStart=>exact ⟨c,ac.o.1,ac.o.2,rfl,am,ao⟩
  case round =>
   obtain⟨m,hm,aq,rfl,hg,ad⟩:=hrel;rcases Nat.lt_or_ge m n with ap | au
   · have HL:=Zh ap;go_wp2_with fail;refine Pl.q9 (ops:=Pl.fd 9 f202) ?_;refine rep9 w wr w.heap.size n m HL.o (by omega) (Nat.le_refl _) hg.o ad.o (by rfl) (by rfl) (by rfl) (by rfl) ?_;intro u w2 ⟨ae,ag⟩;simp only [Pl.pu,List.foldl,Act.put,List.setIfInBounds_toArray,List.set];have al:=Zh ae;have an:=Zh ag;have ar:Nat.min m (n-m)≤n-m∧0<Nat.min m (n-m):=⟨Nat.min_le_right _ _,by rw [Nat.lt_min];omega⟩;clear ae ag;generalize Nat.min m (n-m)=c2 at *;go_wp2;go_roundw;exact ⟨m+c2,by omega,by omega,by go_num,an,al⟩;simp only [intOf];omega
   · (have ah:m=n:=by omega);have HO:Hi (OwnsV 3 wr w.heap.size (.slice (some ⟨w.heap.size,0,none⟩) n n) (fours n)):=ZiB (Nat.le_refl _) (by omega) (by have:=hg.o;rw [ah] at this;exact this);clear ah;go_wp2;go_ret;exact⟨_,rfl,HO.o,ad.o⟩
theorem ZjN (hx:Bytes xs)(hl:xs.length≤1000000):∀(ks:List Int)(l:List It)(q:Nat)(r:List It × Nat),(∀k∈ks,1≤k∧k≤5)→q≤xs.length→tks xs ks l q=some r→r.2≤xs.length
 | [],l,q,r,_,hq,h=>by
  simp only [tks,Option.some.injEq] at h
  rw [← h]
  exact hq
 | k :: ks,l,q,r,hk,hq,h=>by
  simp only [tks] at h
  split at h
  · cases h
  · rename_i i n hi
    have hb:Bytes (xs.drop q):=fun x hh=>hx x (List.mem_of_mem_drop hh)
    have:=(ZdR hb (by rw [List.length_drop];omega) (hk k (by simp)) hi).2
    rw [List.length_drop] at this
    exact ZjN hx hl ks _ _ r (fun k' h'=>hk k' (by simp [h'])) (by omega) h
theorem Ze5 (hx:Bytes xs)(hl:xs.length≤1000000):∀(ks:List Int)(l:List It)(q:Nat)(r:List It × Nat),(∀k∈ks,1≤k∧k≤5)→q≤xs.length→(∀i∈l,i.fits)→tks xs ks l q=some r→∀i∈r.1,i.fits
 | [],l,q,r,_,_,hf,h=>by
  simp only [tks,Option.some.injEq] at h
  rw [← h]
  exact hf
 | k :: ks,l,q,r,hk,hq,hf,h=>by
  simp only [tks] at h
  split at h
  · cases h
  · rename_i i n hi
    have hb:Bytes (xs.drop q):=fun x hh=>hx x (List.mem_of_mem_drop hh)
    have:=ZdR hb (by rw [List.length_drop];omega) (hk k (by simp)) hi
    rw [List.length_drop] at this
    refine Ze5 hx hl ks _ _ r (fun k' h'=>hk k' (by simp [h'])) (by omega) ?_ h
    intro j hj
    rcases List.mem_append.1 hj with h1 | h1
    · exact hf j h1
    · simp at h1
      rw [h1]
      exact this.1
theorem Zcr (xs:List Nat):∀(ks:List Int)(l:List It)(q:Nat)(r:List It × Nat),tks xs ks l q=some r→r.1.length=l.length+ks.length
 | [],l,q,r,h=>by
  simp only [tks,Option.some.injEq] at h
  rw [← h]
  simp
 | k :: ks,l,q,r,h=>by
  simp only [tks] at h
  split at h
  · cases h
  · have:=Zcr xs ks _ _ r h
    rw [this]
    simp
    omega
theorem ZmE (n:Nat):∀t,t<(List.replicate n (4:Int)).length→1≤(List.replicate n (4:Int)).getD t 0∧(List.replicate n (4:Int)).getD t 0≤5:=by
 intro t ht;rw [List.length_replicate] at ht;simp [List.getD,ht]
theorem Zj5 {ks:List Int}(h:Vs w a len (kVals ks)):Ks w a len ks:=by
 (have hl:ks.length=len:=by have:=h.1;simpa [kVals] using this);refine⟨hl,fun j hj=>?_⟩;obtain⟨b,off,ha,hc⟩:=h.2.2 j hj;refine⟨b,off,ha,?_⟩;(have hj':j<ks.length:=by omega);rw [hc];simp [kVals,List.getD,hj']
theorem Zq6 (w0 w:World)(v:Value)(a:Option Addr)(len cap q:Nat)(hq:q≤len)(hW:Bl w0 w)
    {Q:Exit→Act→World→Prop}(ac:A.tmps.size=42)(ab:A.defers=[])(s0:A.tmps.getD 0 undef=.slice a len cap)(s8:A.tmps.getD 8 undef=.int .i64 (q:Nat))(s10:A.tmps.getD 10 undef=v)
    (hend:∀(u:Nat→Value) w',(w'=w.drew)→Q .normal ((((Pl.pu A u [38,39,40,41]).put (some 4) (v)).put (some 5) (.slice (fromA a cap q) (len-q) (cap-q))).put (some 6) (.int .i64 0)) w') :
    Pl.rg prog 10 f187 Q A w:=by
  have aa:Bl w0 w.drew:=hW.drew;have hA:=Pl.At.same (v:=v) (d:=10) (Pl.At.same (v:=.int .i64 (q:Nat)) (d:=8) (Pl.At.same (v:=.slice a len cap) (d:=0) (Pl.At.here ac ab) s0) s8) s10;refine Pl.qb (S:=fun w'=>Bl w0 w') hA aa ?_;rw [show (Pl.fd 10 f187).size=7 by kernel_rfl];refine Pl.q0 0 38 (v) (Pl.q1) (Pl.q2 (.tmp 10)) aa ?_;refine Pl.q0 1 39 (.slice a len cap) (Pl.q1) (Pl.q2 (.tmp 0)) aa ?_;refine Pl.q0 2 40 (.int .i64 (q:Nat)) (Pl.q1) (Pl.q2 (.tmp 8)) aa ?_;refine Pl.q0 3 41 (.slice (fromA a cap q) (len-q) (cap-q)) (Pl.q1) (Pl.qt 107 (.tmp 39) (some (.tmp 40)) none (fun w=>Zc3 a len cap q hq w)) aa ?_;refine Pl.q0 4 4 (v) (Pl.q1) (Pl.qd (.tmp 38)) aa ?_;refine Pl.q0 5 5 (.slice (fromA a cap q) (len-q) (cap-q)) (Pl.q1) (Pl.qd (.tmp 41)) aa ?_;refine Pl.q0 6 6 (.int .i64 0) (Pl.q1) (Pl.qd (.const (.int .i64 0))) aa ?_;refine Pl.q8 (fun A' hA'=>?_);exact Pl.en hA' hA [38,39,40,41,4,5,6] (hend hA'.fn _ rfl)
theorem Zel (a:Option Addr)(len cap n:Nat)(xs:List Nat)(w:World)(h:Came w a len cap xs)(hl:len≤100000)(hn:n≤255) :
    Calls prog 187 #[.slice a len cap,.int .i64 (n:Nat)] w fun e w'=>Bl w w' ∧
     (tks xs (List.replicate n 4) [] 0=none→e=.returned (.tuple #[.slice none 0 0,.slice none 0 0,.int .i64 4])) ∧
     (∀l q,tks xs (List.replicate n 4) [] 0=some (l,q)→q≤len∧(∀i∈l,i.fits)∧∃v,e=.returned (.tuple #[v,.slice (fromA a cap q) (len-q) (cap-q),.int .i64 0])∧OwnsV 32 w' w.heap.size v (fVals (l.map It.x))):=by
 have H:=Zh h;have HR:=Zh (ZkX w.heap.size n (w.alloc (.cells #[.int .i64 4] 3)) (by
  have:=heap_alloc_new w (.cells #[.int .i64 4] 3);simp only [World.cell?,this];rfl) hn)
 have HW:=Zh (Zab w (.cells #[.int .i64 4] 3));have an:=Zh hl;have ar:=Zh h.bs.1;have bp:=Zh h.bs.2.1;clear h hl;go_enter func187,ntmps187;go_wp2_with fail;refine HR.o.mono ?_;rintro e w1 ⟨v1,rfl,ay,au⟩;have ah:=Zh (Zac HW.o au);obtain⟨ka,kc,aw,al,_⟩:=ay.vs (ZeL n);rw [Zap] at aw al;subst aw;have HT:=Zh (ZjL a len cap xs ka n kc (List.replicate n 4) w1 ⟨H.o.bs.keep ah.o (Nat.le_refl _),H.o.nil,H.o.le,H.o.big⟩ (Zj5 al) an.o (by omega));unfold ZaS at HT;rw [ZbZ (ZmE n)] at HT;clear ay au al HR;cases hT:tks xs (List.replicate n 4) [] 0 with
 | none =>
  rw [hT] at HT;simp only at HT;have bm:=Zh hT;clear hT;go_wp2_with fail;refine HT.o.mono ?_;rintro e w2 ⟨v2,rfl,ad,_,_⟩;have ac:=Zh (Zac ah.o ad);clear ad;go_wp2;go_ret3;exact⟨ac.o,fun _=>rfl,fun l q h=>by rw [bm.o] at h;cases h⟩
 | some lq =>
  obtain⟨l,q⟩:=lq;rw [hT] at HT;simp only at HT;have hq:q≤len:=by
   have:=ZjN bp.o (by rw [ar.o];have:=an.o;omega) _ _ _ _ (fun k hk=>by rw [(List.mem_replicate.1 hk).2];decide) (Nat.zero_le _) hT;rw [ar.o] at this;exact this
  have HQ:=Zh hq;have ag:=Zh hT;clear hT hq;go_wp2_with fail;refine HT.o.mono ?_;rintro e w2 ⟨v2,rfl,ad,az,aj⟩;have ac:=Zh (Zac ah.o ad);obtain⟨p2,q2,bc,is2,_⟩:=az.is aj;obtain⟨nl,ak⟩:∃nl,l.length=nl:=⟨_,rfl⟩;rw [ak] at bc is2;subst bc;have bj:=Zh is2;have bi:=Zh aj;have af:=Zh ak;have bn:Hi (OwnsV 32 (w2.alloc (.cells #[] 32)) w2.heap.size (.slice (some ⟨w2.heap.size,0,none⟩) 0 0) (fVals [])):=OwnsV.lit 32 w2 _ [] (Nat.le_refl _) (by simp);have bg:=Zh (Zab w2 (.cells #[] 32));clear ad az aj is2 ak HT;have bv:∀(w:World) (a:Addr) (m:Mode) (x:Nat),(store a (.float .f64 x) m).run prog w=stored prog w a (.float .f64 x) m:=fun w a m x=>run_store prog w a _ m rfl;go_wp2_with fail;go_loopw [10,28] (fun v i wr'=>∃k:Nat,k≤nl∧i=.int .i64 k∧Hi (OwnsV 32 wr' w2.heap.size v (fVals ((l.map It.x).take k)))∧Hi (Bl w2 wr')) (fun _ i _=>nl-(intOf i).toNat)
  case atStart=>exact ⟨0,by omega,rfl,bn,bg⟩
  case round =>
   obtain⟨k,hk,rfl,aa,ai⟩:=hrel;have ab:Hi (nl≤255):=by
    have:=Zcr _ _ _ _ _ ag.o;show nl≤255;rw [← af.o];simp at this;omega
   have br:nl≤255:=ab.o;rcases Nat.lt_or_ge k nl with ax | bu
   · obtain⟨b,off,rfl,c0,c1,c2,c3⟩:=(bj.o.keep ai.o (Nat.le_refl _)).2.2 k ax;obtain⟨x,hx⟩:∃x,x=l.getD k itD:=⟨_,rfl⟩;rw [← hx] at c0 c1 c2 c3;have HX:=Zh hx;obtain⟨xk,bd⟩:∃n,n=x.kind:=⟨_,rfl⟩;obtain⟨xn,be⟩:∃n,n=x.n:=⟨_,rfl⟩;obtain⟨xx,am⟩:∃n,n=x.x:=⟨_,rfl⟩;obtain⟨xs',bf⟩:∃n,n=x.s:=⟨_,rfl⟩;rw [← bd] at c0;rw [← be] at c1;rw [← am] at c2;rw [← bf] at c3;have bq:=Zh am;have ao:=Zh ((aa.o.keep (Zab wr (.cells #[.int .i64 xk,.int .i64 xn,.float .f64 xx,.string xs'] 182)) (Nat.le_refl _)).keep (Zab _ (.cells #[.float .f64 xx] 32)) (Nat.le_refl _));have aq:=Zh (Zac ai.o (ZaA wr (.cells #[.int .i64 xk,.int .i64 xn,.float .f64 xx,.string xs'] 182) (.cells #[.float .f64 xx] 32)));have ap:Hi (Vs ((wr.alloc (.cells #[.int .i64 xk,.int .i64 xn,.float .f64 xx,.string xs'] 182)).alloc (.cells #[.float .f64 xx] 32)) (some ⟨wr.heap.size+1,0,none⟩) 1 [.float .f64 xx]):=by
      have:=ZjQ 32 (wr.alloc (.cells #[.int .i64 xk,.int .i64 xn,.float .f64 xx,.string xs'] 182)) (.float .f64 xx) rfl;exact Zh (by simpa using this)
     have ae:Hi ((fVals ((l.map It.x).take k)).length+1≤1000000):=by
      show _≤_;have:=ab.o;simp [fVals];omega
     clear hx bd be am bf;go_wp2_with (at_builtin;refine ZaJ Zm0 _ rfl (.tmp 32) (.tmp 35) rfl w2.heap.size _ _ rfl ao.o _ _ _ [.float .f64 xx] rfl ap.o (fun h=>by cases h) ae.o aq.o.size ?_);intro v6 w6 ba av _;have bk:=Zh ba;have bh:=Zh (aq.o.trans av);clear ba av ao ap;go_wp2;go_roundw
     case rel =>
      (have hk':k<l.length:=by rw [af.o];exact ax);refine⟨k+1,by omega,by go_num,?_,bh⟩;have e:fVals ((l.map It.x).take (k+1))=fVals ((l.map It.x).take k) ++ [.float .f64 xx]:=by
       rw [List.take_succ_eq_append_getElem (by simpa using hk'),bq.o,HX.o];simp [fVals,List.getD,hk']
      rw [e];exact bk
     case measure=>simp only [intOf];omega
   · have bb:(l.map It.x).take k=l.map It.x:=List.take_of_length_le (by rw [List.length_map,af.o];omega);rw [bb] at aa;have bo:=Zh (ac.o.trans (ai.o.mono ac.o.size));have bl:=Zh ((aa.o.keep (Below.refl wr.heap.size wr).drew (Nat.le_refl _)).lower ac.o.size);clear bb;go_wp2_with fail;refine Pl.q9 (ops:=Pl.fd 10 f187) ?_;refine Zq6 wr wr _ a len cap q HQ.o (Below.refl _ _) (by rfl) (by rfl) (by rfl) (by rfl) (by rfl) ?_;intro u w5 bt;subst bt;simp only [Pl.pu,List.foldl,Act.put,List.setIfInBounds_toArray,List.set];go_wp2;go_ret3;refine⟨bo.o.drew,(fun h=>by rw [ag.o] at h;cases h),fun l' q' h=>?_⟩;rw [ag.o] at h;simp only [Option.some.injEq,Prod.mk.injEq] at h;obtain⟨rfl,rfl⟩:=h;exact⟨HQ.o,bi.o,_,rfl,bl.o⟩
theorem Zit (a b c:Value)(w:World):(Instr.extract (.tuple #[a,b,c]) 0).run prog w=.ok a w∧(Instr.extract (.tuple #[a,b,c]) 1).run prog w=.ok b w∧(Instr.extract (.tuple #[a,b,c]) 2).run prog w=.ok c w:=by
 refine⟨?_,?_,?_⟩ <;> simp [go_sem,Instr.extract]
theorem Zfz (c n:Int)(w:World):(Instr.build 37 #[(0,.int .i64 c),(1,.int .i64 n)]).run prog w=.ok (.agg #[.int .i64 c,.int .i64 n]) w:=by
 simp [go_sem,Instr.build]
theorem Zl9 (k:Nat)(d:Bool)(a:Option Addr)(len cap:Nat)(t c n:Int)(w:World):(Instr.build 39 #[(0,.float .f64 k),(1,.bool d),(2,.slice a len cap),(3,.int .i64 t),(4,.agg #[.int .i64 c,.int .i64 n])]).run prog w=.ok (.agg #[.float .f64 k,.bool d,.slice a len cap,.int .i64 t,.int .i64 c,.int .i64 n]) w:=by
 simp [go_sem,Instr.build]
theorem ZgN (w:World):(Instr.alloc 39 true (.tuple #[])).run prog w=.ok (.pointer (some ⟨w.heap.size,0,none⟩)) (w.alloc (.cells #[.float .f64 0,.bool false,.slice none 0 0,.int .i64 0,.int .i64 0,.int .i64 0] 39)):=by
 simp [go_sem,Instr.alloc]
theorem Zcq (k:Nat)(d:Bool)(a:Option Addr)(len cap:Nat)(t c n:Int)(w:World):(Instr.storeAt 39 (.pointer (some ⟨w.heap.size,0,none⟩)) (.agg #[.float .f64 k,.bool d,.slice a len cap,.int .i64 t,.int .i64 c,.int .i64 n])).run prog (w.alloc (.cells #[.float .f64 0,.bool false,.slice none 0 0,.int .i64 0,.int .i64 0,.int .i64 0] 39))
    = .ok () (w.alloc (.cells #[.float .f64 k,.bool d,.slice a len cap,.int .i64 t,.int .i64 c,.int .i64 n] 39)):=by
  have aa:∀(w:World) (a:Addr) (m:Mode) (x:Nat),(store a (.float .f64 x) m).run prog w=stored prog w a (.float .f64 x) m:=fun w a m x=>run_store prog w a _ m rfl;simp [go_sem,Instr.storeAt,aa]
theorem Za4 (b o k:Nat)(hk:k<4)(w:World):(Instr.fieldAt 182 (.pointer (some ⟨b,o,none⟩)) k).run prog w=.ok (.pointer (some ⟨b,o+k,none⟩)) w:=by
 (have:k=0∨k=1∨k=2∨k=3:=by omega);rcases this with rfl | rfl | rfl | rfl <;> simp [go_sem]
theorem Zhh:∀args w,(callFunc 187 args).run prog w=.ok (.enter 187 args) w:=Pl.qi func187
theorem Came.keep {w':World}(h:Came w a len cap xs)(hb:Below B w w')(hB:w.heap.size≤B):Came w' a len cap xs:=⟨h.bs.keep hb hB,h.nil,h.le,h.big⟩
theorem Came.from (h:Came w a len cap xs)(hq:q≤len):Came w (fromA a cap q) (len-q) (cap-q) (xs.drop q):=by
 refine⟨h.bs.from hq h.le,?_,by have:=h.le;omega,by have:=h.big;omega⟩;intro e;unfold fromA at e;split at e
 · omega
 · cases a with
   | none=>have:=h.nil rfl;omega
   | some x=>simp at e
def rowOf (l m:List It):Rw:=⟨(l.getD 1 itD).x,(l.getD 0 itD).n != 0,m.map It.x,(l.getD 2 itD).n,(l.getD 3 itD).n,(l.getD 4 itD).n⟩
def decB (xs:List Nat):Option Rw:=match tks xs headK [] 0 with
  | none=>none
  | some (l,q)=>match tks (xs.drop q) (List.replicate (l.getD 5 itD).n.toNat 4) [] 0 with
    | none=>none
    | some (m,q2)=>if q+q2<xs.length∨1<(l.getD 0 itD).n∨(rowOf l m).may=false then none else some (rowOf l m)
theorem ZrF (w0 w:World)(a:Option Addr)(len cap q:Nat)(xs:List Nat)(b off c2 n:Nat)(y:It)(hc:Came w0 a len cap xs)(hl:len≤100000)(hq:q≤len)(hx:ItAt w0 b (off+5*4) y)(hy:y.n=(n:Nat))(hn:n≤255)(hT:tks (xs.drop q) (List.replicate n 4) [] 0=none)(hW:Bl w0 w)
    {Q:Exit→Act→World→Prop}(ae:A.tmps.size=78)(ad:A.defers=[])(s0:A.tmps.getD 0 undef=.slice a len cap)(s4:A.tmps.getD 4 undef=.slice (some ⟨b,off,none⟩) 6 c2)(s5:A.tmps.getD 5 undef=.int .i64 (q:Nat))
    (hend:∀(u:Nat→Value) w',Bl w0 w'→Q .normal ((((Pl.pu A u [22,23,24,25,26,27,28,29,21,30,31,32]).put (some 7) (.slice none 0 0)).put (some 8) (.slice none 0 0)).put (some 6) (.int .i64 4)) w') :
    Pl.rg prog 4 f170 Q A w:=by
  have aa:Bl w0 w.drew:=hW.drew;have hA:=Pl.At.same (v:=.int .i64 (q:Nat)) (d:=5) (Pl.At.same (v:=.slice (some ⟨b,off,none⟩) 6 c2) (d:=4) (Pl.At.same (v:=.slice a len cap) (d:=0) (Pl.At.here ae ad) s0) s4) s5;refine Pl.qb (S:=fun w'=>Bl w0 w') hA aa ?_;rw [show (Pl.fd 4 f170).size=15 by kernel_rfl];refine Pl.q0 0 22 (.slice a len cap) (Pl.q1) (Pl.q2 (.tmp 0)) aa ?_;refine Pl.q0 1 23 (.int .i64 (q:Nat)) (Pl.q1) (Pl.q2 (.tmp 5)) aa ?_;refine Pl.q0 2 24 (.slice (fromA a cap q) (len-q) (cap-q)) (Pl.q1) (Pl.qt 107 (.tmp 22) (some (.tmp 23)) none (fun w=>Zc3 a len cap q hq w)) aa ?_;refine Pl.q0 3 25 (.slice (some ⟨b,off,none⟩) 6 c2) (Pl.q1) (Pl.q2 (.tmp 4)) aa ?_;refine Pl.q0 4 26 (.pointer (some ⟨b,off+5*4,none⟩)) (Pl.q1) (Pl.qa 183 (.tmp 25) (.const (.int .i64 5)) (Zau b off 6 c2 5 (by decide))) aa ?_;refine Pl.q0 5 27 (.pointer (some ⟨b,off+5*4+1,none⟩)) (Pl.q1) (Pl.q6 182 (.tmp 26) 1 (Za4 b (off+5*4) 1 (by decide))) aa ?_;refine Pl.q0 6 28 (.int .i64 (n:Nat)) (Pl.q1) (Pl.q4 3 (.tmp 27) (fun w' hS=>Za8 b (off+5*4+1) _ w' (by rw [← hy];exact (Zao hx hS).2.1))) aa ?_;refine Pl.qe 7 29 187 [(.tmp 24),(.tmp 28)] #[107,3] (Pl.q1) Zhh (Calls.mono (Zel (fromA a cap q) (len-q) (cap-q) n (xs.drop q) w.drew ((hc.keep aa (Nat.le_refl _)).from hq) (by omega) hn) ?_);rintro e w1 ⟨ac,h1,_⟩;have he:=h1 hT;subst he;have ab:=aa.trans (ac.mono aa.size);refine⟨.tuple #[.slice none 0 0,.slice none 0 0,.int .i64 4],rfl,ab,?_⟩;refine Pl.q0 8 21 (.tuple #[.slice none 0 0,.slice none 0 0,.int .i64 4]) (Pl.q1) (Pl.q2 (.tmp 29)) ab ?_;refine Pl.q0 9 30 (.slice none 0 0) (Pl.q1) (Pl.qh (.tmp 21) 0 (fun w=>(Zit _ _ _ w).1)) ab ?_;refine Pl.q0 10 31 (.slice none 0 0) (Pl.q1) (Pl.qh (.tmp 21) 1 (fun w=>(Zit _ _ _ w).2.1)) ab ?_;refine Pl.q0 11 32 (.int .i64 4) (Pl.q1) (Pl.qh (.tmp 21) 2 (fun w=>(Zit _ _ _ w).2.2)) ab ?_;refine Pl.q0 12 7 (.slice none 0 0) (Pl.q1) (Pl.qd (.tmp 30)) ab ?_;refine Pl.q0 13 8 (.slice none 0 0) (Pl.q1) (Pl.qd (.tmp 31)) ab ?_;refine Pl.q0 14 6 (.int .i64 4) (Pl.q1) (Pl.qd (.tmp 32)) ab ?_;refine Pl.q8 (fun A' hA'=>?_);exact Pl.en hA' hA [22,23,24,25,26,27,28,29,21,30,31,32,7,8,6] (hend hA'.fn _ ab)
theorem ZrG (w0 w:World)(a:Option Addr)(len cap q:Nat)(xs:List Nat)(b off c2 n:Nat)(y:It)(hc:Came w0 a len cap xs)(hl:len≤100000)(hq:q≤len)(hx:ItAt w0 b (off+5*4) y)(hy:y.n=(n:Nat))(hn:n≤255)(l:List It)(q2:Nat)(hT:tks (xs.drop q) (List.replicate n 4) [] 0=some (l,q2))(hW:Bl w0 w)
    {Q:Exit→Act→World→Prop}(ag:A.tmps.size=78)(ad:A.defers=[])(s0:A.tmps.getD 0 undef=.slice a len cap)(s4:A.tmps.getD 4 undef=.slice (some ⟨b,off,none⟩) 6 c2)(s5:A.tmps.getD 5 undef=.int .i64 (q:Nat))
    (hend:∀(u:Nat→Value) w' v,(Bl w0 w'∧OwnsV 32 w' w0.heap.size v (fVals (l.map It.x)))→Q .normal ((((Pl.pu A u [22,23,24,25,26,27,28,29,21,30,31,32]).put (some 7) (v)).put (some 8) (.slice (fromA (fromA a cap q) (cap-q) q2) (len-q-q2) (cap-q-q2))).put (some 6) (.int .i64 0)) w') :
    Pl.rg prog 4 f170 Q A w:=by
  have aa:Bl w0 w.drew:=hW.drew;have hA:=Pl.At.same (v:=.int .i64 (q:Nat)) (d:=5) (Pl.At.same (v:=.slice (some ⟨b,off,none⟩) 6 c2) (d:=4) (Pl.At.same (v:=.slice a len cap) (d:=0) (Pl.At.here ag ad) s0) s4) s5;refine Pl.qb (S:=fun w'=>Bl w0 w') hA aa ?_;rw [show (Pl.fd 4 f170).size=15 by kernel_rfl];refine Pl.q0 0 22 (.slice a len cap) (Pl.q1) (Pl.q2 (.tmp 0)) aa ?_;refine Pl.q0 1 23 (.int .i64 (q:Nat)) (Pl.q1) (Pl.q2 (.tmp 5)) aa ?_;refine Pl.q0 2 24 (.slice (fromA a cap q) (len-q) (cap-q)) (Pl.q1) (Pl.qt 107 (.tmp 22) (some (.tmp 23)) none (fun w=>Zc3 a len cap q hq w)) aa ?_;refine Pl.q0 3 25 (.slice (some ⟨b,off,none⟩) 6 c2) (Pl.q1) (Pl.q2 (.tmp 4)) aa ?_;refine Pl.q0 4 26 (.pointer (some ⟨b,off+5*4,none⟩)) (Pl.q1) (Pl.qa 183 (.tmp 25) (.const (.int .i64 5)) (Zau b off 6 c2 5 (by decide))) aa ?_;refine Pl.q0 5 27 (.pointer (some ⟨b,off+5*4+1,none⟩)) (Pl.q1) (Pl.q6 182 (.tmp 26) 1 (Za4 b (off+5*4) 1 (by decide))) aa ?_;refine Pl.q0 6 28 (.int .i64 (n:Nat)) (Pl.q1) (Pl.q4 3 (.tmp 27) (fun w' hS=>Za8 b (off+5*4+1) _ w' (by rw [← hy];exact (Zao hx hS).2.1))) aa ?_;refine Pl.qe 7 29 187 [(.tmp 24),(.tmp 28)] #[107,3] (Pl.q1) Zhh (Calls.mono (Zel (fromA a cap q) (len-q) (cap-q) n (xs.drop q) w.drew ((hc.keep aa (Nat.le_refl _)).from hq) (by omega) hn) ?_);rintro e w1 ⟨ac,_,h1⟩;obtain⟨_,_,v,he,ae⟩:=h1 l q2 hT;subst he;have ab:=aa.trans (ac.mono aa.size);have af:=ae.lower aa.size;refine⟨.tuple #[v,.slice (fromA (fromA a cap q) (cap-q) q2) (len-q-q2) (cap-q-q2),.int .i64 0],rfl,ab,?_⟩;refine Pl.q0 8 21 (.tuple #[v,.slice (fromA (fromA a cap q) (cap-q) q2) (len-q-q2) (cap-q-q2),.int .i64 0]) (Pl.q1) (Pl.q2 (.tmp 29)) ab ?_;refine Pl.q0 9 30 (v) (Pl.q1) (Pl.qh (.tmp 21) 0 (fun w=>(Zit _ _ _ w).1)) ab ?_;refine Pl.q0 10 31 (.slice (fromA (fromA a cap q) (cap-q) q2) (len-q-q2) (cap-q-q2)) (Pl.q1) (Pl.qh (.tmp 21) 1 (fun w=>(Zit _ _ _ w).2.1)) ab ?_;refine Pl.q0 11 32 (.int .i64 0) (Pl.q1) (Pl.qh (.tmp 21) 2 (fun w=>(Zit _ _ _ w).2.2)) ab ?_;refine Pl.q0 12 7 (v) (Pl.q1) (Pl.qd (.tmp 30)) ab ?_;refine Pl.q0 13 8 (.slice (fromA (fromA a cap q) (cap-q) q2) (len-q-q2) (cap-q-q2)) (Pl.q1) (Pl.qd (.tmp 31)) ab ?_;refine Pl.q0 14 6 (.int .i64 0) (Pl.q1) (Pl.qd (.tmp 32)) ab ?_;refine Pl.q8 (fun A' hA'=>?_);exact Pl.en hA' hA [22,23,24,25,26,27,28,29,21,30,31,32,7,8,6] (hend hA'.fn _ v ⟨ab,af⟩)
theorem dec7 (w0 w:World)(b off c2:Nat)(ca:Option Addr)(cl cc:Nat)(y0 y1 y2 y3 y4:It)(af:ItAt w0 b (off+0*4) y0)(ag:ItAt w0 b (off+1*4) y1)(ah:ItAt w0 b (off+2*4) y2)(ai:ItAt w0 b (off+3*4) y3)(aj:ItAt w0 b (off+4*4) y4)(hW:Bl w0 w)
    {Q:Exit→Act→World→Prop}(ae:A.tmps.size=78)(ad:A.defers=[])(s4:A.tmps.getD 4 undef=.slice (some ⟨b,off,none⟩) 6 c2)(s7:A.tmps.getD 7 undef=.slice ca cl cc)
    (hend:∀(u:Nat→Value) w',w'=w.drew.alloc (.cells #[.float .f64 y1.x,.bool (y0.n != 0),.slice ca cl cc,.int .i64 y2.n,.int .i64 y3.n,.int .i64 y4.n] 39)→Q .normal ((Pl.pu A u [37,38,39,40,41,42,43,44,45,46,47,48,49,50,51,52,53,54,55,56,57,58,59,60]).put (some 9) (.pointer (some ⟨w.drew.heap.size,0,none⟩))) w') :
    Pl.rg prog 7 f170 Q A w:=by
  have aa:Bl w0 w.drew:=hW.drew;have hA:=Pl.At.same (v:=.slice ca cl cc) (d:=7) (Pl.At.same (v:=.slice (some ⟨b,off,none⟩) 6 c2) (d:=4) (Pl.At.here ae ad) s4) s7;refine Pl.qb (S:=fun w'=>Bl w0 w') hA aa ?_;rw [show (Pl.fd 7 f170).size=26 by kernel_rfl];refine Pl.q0 0 37 (.slice (some ⟨b,off,none⟩) 6 c2) (Pl.q1) (Pl.q2 (.tmp 4)) aa ?_;refine Pl.q0 1 38 (.pointer (some ⟨b,off+1*4,none⟩)) (Pl.q1) (Pl.qa 183 (.tmp 37) (.const (.int .i64 1)) (Zau b off 6 c2 1 (by decide))) aa ?_;refine Pl.q0 2 39 (.pointer (some ⟨b,off+1*4+2,none⟩)) (Pl.q1) (Pl.q6 182 (.tmp 38) 2 (Za4 b (off+1*4) 2 (by decide))) aa ?_;refine Pl.q0 3 40 (.float .f64 y1.x) (Pl.q1) (Pl.q4 32 (.tmp 39) (fun w' hS=>ZdH b (off+1*4+2) _ w' (Zao ag hS).2.2.1)) aa ?_;refine Pl.q0 4 41 (.slice (some ⟨b,off,none⟩) 6 c2) (Pl.q1) (Pl.q2 (.tmp 4)) aa ?_;refine Pl.q0 5 42 (.pointer (some ⟨b,off+0*4,none⟩)) (Pl.q1) (Pl.qa 183 (.tmp 41) (.const (.int .i64 0)) (Zau b off 6 c2 0 (by decide))) aa ?_;refine Pl.q0 6 43 (.pointer (some ⟨b,off+0*4+1,none⟩)) (Pl.q1) (Pl.q6 182 (.tmp 42) 1 (Za4 b (off+0*4) 1 (by decide))) aa ?_;refine Pl.q0 7 44 (.int .i64 y0.n) (Pl.q1) (Pl.q4 3 (.tmp 43) (fun w' hS=>Za8 b (off+0*4+1) _ w' (Zao af hS).2.1)) aa ?_;refine Pl.q0 8 45 (.bool (y0.n != 0)) (Pl.q1) (Pl.qc .neq 3 3 (.tmp 44) (.const (.int .i64 0)) (.int .i64 y0.n) (.int .i64 0) (fun w=>by simp [go_sem,eqGuard])) aa ?_;refine Pl.q0 9 46 (.slice ca cl cc) (Pl.q1) (Pl.q2 (.tmp 7)) aa ?_;refine Pl.q0 10 47 (.slice (some ⟨b,off,none⟩) 6 c2) (Pl.q1) (Pl.q2 (.tmp 4)) aa ?_;refine Pl.q0 11 48 (.pointer (some ⟨b,off+2*4,none⟩)) (Pl.q1) (Pl.qa 183 (.tmp 47) (.const (.int .i64 2)) (Zau b off 6 c2 2 (by decide))) aa ?_;refine Pl.q0 12 49 (.pointer (some ⟨b,off+2*4+1,none⟩)) (Pl.q1) (Pl.q6 182 (.tmp 48) 1 (Za4 b (off+2*4) 1 (by decide))) aa ?_;refine Pl.q0 13 50 (.int .i64 y2.n) (Pl.q1) (Pl.q4 3 (.tmp 49) (fun w' hS=>Za8 b (off+2*4+1) _ w' (Zao ah hS).2.1)) aa ?_;refine Pl.q0 14 51 (.slice (some ⟨b,off,none⟩) 6 c2) (Pl.q1) (Pl.q2 (.tmp 4)) aa ?_;refine Pl.q0 15 52 (.pointer (some ⟨b,off+3*4,none⟩)) (Pl.q1) (Pl.qa 183 (.tmp 51) (.const (.int .i64 3)) (Zau b off 6 c2 3 (by decide))) aa ?_;refine Pl.q0 16 53 (.pointer (some ⟨b,off+3*4+1,none⟩)) (Pl.q1) (Pl.q6 182 (.tmp 52) 1 (Za4 b (off+3*4) 1 (by decide))) aa ?_;refine Pl.q0 17 54 (.int .i64 y3.n) (Pl.q1) (Pl.q4 3 (.tmp 53) (fun w' hS=>Za8 b (off+3*4+1) _ w' (Zao ai hS).2.1)) aa ?_;refine Pl.q0 18 55 (.slice (some ⟨b,off,none⟩) 6 c2) (Pl.q1) (Pl.q2 (.tmp 4)) aa ?_;refine Pl.q0 19 56 (.pointer (some ⟨b,off+4*4,none⟩)) (Pl.q1) (Pl.qa 183 (.tmp 55) (.const (.int .i64 4)) (Zau b off 6 c2 4 (by decide))) aa ?_;refine Pl.q0 20 57 (.pointer (some ⟨b,off+4*4+1,none⟩)) (Pl.q1) (Pl.q6 182 (.tmp 56) 1 (Za4 b (off+4*4) 1 (by decide))) aa ?_;refine Pl.q0 21 58 (.int .i64 y4.n) (Pl.q1) (Pl.q4 3 (.tmp 57) (fun w' hS=>Za8 b (off+4*4+1) _ w' (Zao aj hS).2.1)) aa ?_;refine Pl.q0 22 59 (.agg #[.int .i64 y3.n,.int .i64 y4.n]) (Pl.q1) (Pl.q_39 37 [(0,(.tmp 54)),(1,(.tmp 58))] (fun w=>Zfz y3.n y4.n w)) aa ?_;refine Pl.q0 23 60 (.agg #[.float .f64 y1.x,.bool (y0.n != 0),.slice ca cl cc,.int .i64 y2.n,.int .i64 y3.n,.int .i64 y4.n]) (Pl.q1) (Pl.q_39 39 [(0,(.tmp 40)),(1,(.tmp 45)),(2,(.tmp 46)),(3,(.tmp 50)),(4,(.tmp 59))] (fun w=>Zl9 y1.x (y0.n != 0) ca cl cc y2.n y3.n y4.n w)) aa ?_;have ab:Bl w0 (w.drew.alloc (.cells #[.float .f64 0,.bool false,.slice none 0 0,.int .i64 0,.int .i64 0,.int .i64 0] 39)):=aa.alloc aa.size _;refine Pl.qf 24 9 (.pointer (some ⟨w.drew.heap.size,0,none⟩)) (w.drew.alloc (.cells #[.float .f64 0,.bool false,.slice none 0 0,.int .i64 0,.int .i64 0,.int .i64 0] 39)) (Pl.q1) (Pl.qx 39 (ZgN w.drew)) ab ?_;have ac:Bl w0 (w.drew.alloc (.cells #[.float .f64 y1.x,.bool (y0.n != 0),.slice ca cl cc,.int .i64 y2.n,.int .i64 y3.n,.int .i64 y4.n] 39)):=aa.alloc aa.size _;refine Pl.ql 25 (w.drew.alloc (.cells #[.float .f64 y1.x,.bool (y0.n != 0),.slice ca cl cc,.int .i64 y2.n,.int .i64 y3.n,.int .i64 y4.n] 39)) (Pl.q1) (Pl.qm 39 (.tmp 9) (.tmp 60) (Zcq y1.x (y0.n != 0) ca cl cc y2.n y3.n y4.n w.drew)) ac ?_;refine Pl.q8 (fun A' hA'=>?_);exact Pl.en hA' hA [37,38,39,40,41,42,43,44,45,46,47,48,49,50,51,52,53,54,55,56,57,58,59,60,9] (hend hA'.fn _ rfl)
theorem Zc4 (xs:List Nat):∀(ks js:List Int)(l:List It)(q:Nat),tks xs (ks ++ js) l q=match tks xs ks l q with
    | none=>none
    | some (m,p)=>tks xs js m p
  | [],js,l,q=>by simp [tks]
  | k :: ks,js,l,q=>by
   simp only [List.cons_append,tks]
   cases tk (xs.drop q) k with
   | none=>rfl
   | some r=>exact Zc4 xs ks js _ _
theorem Zkv {l:List It}(h:tks xs headK [] 0=some (l,q)):∃n:Nat,(l.getD 5 itD).n=(n:Nat)∧n≤255:=by
 have e:headK=[1,4,3,2,3] ++ [1]:=rfl;rw [e,Zc4] at h;cases h5:tks xs [1,4,3,2,3] [] 0 with
 | none=>rw [h5] at h;cases h
 | some r =>
  obtain⟨m,p⟩:=r;rw [h5] at h;(have hm:m.length=5:=by have:=Zcr _ _ _ _ _ h5;simpa using this);simp only [tks] at h;cases h1:tk (xs.drop p) 1 with
  | none=>rw [h1] at h;cases h
  | some r =>
   obtain⟨i,n⟩:=r;rw [h1] at h;simp only [Option.some.injEq,Prod.mk.injEq] at h;obtain⟨rfl,_⟩:=h;have hi:(m ++ [i]).getD 5 itD=i:=by
    simp [List.getD,hm]
   rw [hi];simp only [tk,show ¬(1:Int)=4 by decide,show ¬(1:Int)=5 by decide,if_false] at h1;split at h1
   · split at h1
     · rename_i _ hle;simp only [Option.some.injEq,Prod.mk.injEq] at h1;obtain⟨rfl,_⟩:=h1;refine⟨_,rfl,?_⟩;have:maxN 1=255:=rfl;rw [this] at hle;omega
     · cases h1
   · cases h1
theorem Zku:∀t,t<headK.length→1≤headK.getD t 0∧headK.getD t 0≤5:=by decide
theorem Zdc:∀k∈headK,1≤k∧k≤5:=by decide
def Zd1:Value:=.agg #[.float .f64 0,.bool false,.slice none 0 0,.int .i64 0,.int .i64 0,.int .i64 0]
def ZcB (xs:List Nat) (w:World) (e:Ending) (w':World):Prop:=
  Bl w w'∧(decB xs=none→e=.returned (.tuple #[Zd1,.int .i64 4])) ∧
    (∀r,decB xs=some r→r.fits∧∃a len cap,e=.returned (.tuple #[r.val (.slice a len cap),.int .i64 0])∧Fs w' a len cap r.xs∧OwnsV 32 w' w.heap.size (.slice a len cap) (fVals r.xs))
theorem Ziq (h:RwBlk W g r c)(tmps:Array Value)(x:Value)(ht:tmps.getD 2 undef=.pointer (some ⟨g,0,none⟩))(hx:tmps.getD 3 undef=x)(hc:∃a len cap,c=.slice a len cap):(results f170 tmps).run prog W=.ok (.tuple #[r.val c,x]) W:=by
 have c0:=h.c0;have c1:=h.c1;have c2:=h.c2;have c3:=h.c3;have c4:=h.c4;have c5:=h.c5;obtain⟨a,len,cap,rfl⟩:=hc;(have aa:tmps[2]?.getD undef=.pointer (some ⟨g,0,none⟩):=by simpa using ht);(have ab:tmps[3]?.getD undef=x:=by simpa using hx);simp [results,results170,aa,ab,go_sem,c0,c1,c2,c3,c4,c5,Rw.val]
def setRw (w:World) (g:Nat) (r:Rw) (c:Value):World:=(((((w.setCell ⟨g,0,none⟩ (.float .f64 r.key)).setCell ⟨g,1,none⟩ (.bool r.dead)).setCell ⟨g,2,none⟩ c).setCell ⟨g,3,none⟩ (.int .i64 r.wr)).setCell ⟨g,4,none⟩ (.int .i64 r.cell)).setCell ⟨g,5,none⟩ (.int .i64 r.no)
theorem Za5 (h:RwBlk w g r0 c0)(r:Rw)(c:Value):RwBlk (setRw w g r c) g r c:=by
 have h1:=heap_setCell_same w g 0 _ 39 (.float .f64 r.key) h;have h2:=heap_setCell_same _ g 1 _ 39 (.bool r.dead) h1;have h3:=heap_setCell_same _ g 2 _ 39 c h2;have h4:=heap_setCell_same _ g 3 _ 39 (.int .i64 r.wr) h3;have h5:=heap_setCell_same _ g 4 _ 39 (.int .i64 r.cell) h4;have h6:=heap_setCell_same _ g 5 _ 39 (.int .i64 r.no) h5;unfold RwBlk setRw;rw [h6];simp
theorem Zal {w0:World}(hb:Below B w0 w)(hg:B≤g)(r:Rw)(c:Value):Below B w0 (setRw w g r c):=
 (((((hb.setCell (p:=⟨g,0,none⟩) hg _).setCell (p:=⟨g,1,none⟩) hg _).setCell (p:=⟨g,2,none⟩) hg _).setCell (p:=⟨g,3,none⟩) hg _).setCell (p:=⟨g,4,none⟩) hg _).setCell (p:=⟨g,5,none⟩) hg _
theorem ZiK (w:World)(g:Nat)(r:Rw)(c:Value)(k:Nat)(hk:k≠g):(setRw w g r c).heap[k]? = w.heap[k]?:=by
 unfold setRw;rw [Below.heap_setCell _ ⟨g,5,none⟩ _ k hk,Below.heap_setCell _ ⟨g,4,none⟩ _ k hk,Below.heap_setCell _ ⟨g,3,none⟩ _ k hk,Below.heap_setCell _ ⟨g,2,none⟩ _ k hk,Below.heap_setCell _ ⟨g,1,none⟩ _ k hk,Below.heap_setCell _ ⟨g,0,none⟩ _ k hk]
theorem ZdA (h:RwBlk W g r0 c0)(r:Rw)(a:Option Addr)(len cap:Nat)(x:Value){R:Ending→World→Prop}(t2:A.tmps.getD 2 undef=.pointer (some ⟨g,0,none⟩))(t3:A.tmps.getD 3 undef=x)(hd:A.defers=[])
    (hR:R (.returned (.tuple #[r.val (.slice a len cap),x])) (setRw W g r (.slice a len cap))):bodyPost prog f170 R Exit.ret A (setRw W g r (.slice a len cap)):=by
  have hr:=Za5 h r (.slice a len cap);generalize setRw W g r (.slice a len cap)=W' at *;exact bodyPost_ret (Ziq hr _ _ t2 t3 ⟨_,_,_,rfl⟩) hd hR
def zeroR:Rw:=⟨0,false,[],0,0,0⟩
theorem Znm:zeroR.val (.slice none 0 0)=Zd1:=rfl
theorem ZfS {l m:List It}(hl:∀i∈l,i.fits)(h6:l.length=6)(hm:∀i∈m,i.fits):(rowOf l m).fits:=by
 have g:∀j,j<6→(l.getD j itD).fits:=fun j hj=>by
  (have hj':j<l.length:=by omega);have:=hl _ (List.getElem_mem hj');simpa [List.getD,hj'] using this
 refine⟨(g 1 (by omega)).2.2.1,?_,(g 2 (by omega)).2.1,(g 3 (by omega)).2.1,(g 4 (by omega)).2.1⟩;intro x hx;obtain⟨i,hi,rfl⟩:=List.mem_map.1 hx;exact(hm i hi).2.2.1
theorem OwnsV.fs (h:OwnsV 32 w base v (fVals xs))(hx:∀x∈xs,x<18446744073709551616)(hn:xs.length=n)(hb:n≤1000000):∃a cap,v=.slice a n cap∧Fs w a n cap xs:=by
 obtain⟨a,cap,hv,ac,aa,ab⟩:=h.vs (Zhi _);(have hl:(fVals xs).length=n:=by simp [fVals,hn]);rw [hl] at hv ac ab;exact⟨a,cap,hv,ac,hx,aa,ab,by omega⟩
theorem OwnsV.setRw {vs:List Value}(h:OwnsV 32 w base v vs)(hg:RwBlk w g r0 c0)(r:Rw)(c:Value):OwnsV 32 (setRw w g r c) base v vs:=by
 refine⟨h.1,?_⟩;rcases h.2 with hn | ⟨k,cap,cur,hv,hb,hk,rest⟩
 · exact .inl hn
 · refine .inr ⟨k,cap,cur,hv,hb,(ZiK w g r c k ?_).trans hk,rest⟩;rintro rfl;unfold RwBlk at hg;rw [hk] at hg;simp only [Option.some.injEq,Obj.cells.injEq] at hg;exact absurd hg.2.1 (by decide)
theorem OwnsV.fsAt (h:OwnsV 32 w base (.slice a n cap) (fVals xs))(hx:∀x∈xs,x<18446744073709551616)(hb:xs.length≤1000000):Fs w a n cap xs:=by
 obtain⟨a',cap',hv,hf⟩:=h.fs hx rfl hb;simp only [Value.slice.injEq] at hv;obtain⟨rfl,rfl,rfl⟩:=hv;exact hf
theorem Zkj (a:Option Addr)(len cap:Nat)(xs:List Nat)(w:World)(h:Came w a len cap xs)(hl:len≤100000) :
    Calls prog 170 #[.slice a len cap] w (ZcB xs w):=by
  have cp:∀(w:World) (a:Addr) (m:Mode) (x:Nat),(store a (.float .f64 x) m).run prog w=stored prog w a (.float .f64 x) m:=fun w a m x=>run_store prog w a _ m rfl;have H:=Zh h;have aj:=Zh hl;have an:=Zh h.bs.1;have br:=Zh h.bs.2.1;have HZ:=Zh (Zai w ⟨0,false,[],0,0,0⟩ (.slice none 0 0));have HW:=Zh (Zab w (.cells #[.float .f64 0,.bool false,.slice none 0 0,.int .i64 0,.int .i64 0,.int .i64 0] 39));have HH:=Zh Zgw;clear h hl;simp only at HZ;go_enter func170,ntmps170;go_wp2_with fail;refine(HH.o _).mono ?_;rintro e w1 ⟨rfl,bd,ba⟩;have ax:=Zh (Zac HW.o ba);have bt:=Zh (HZ.o.keep ba);(have bw:(w.alloc (.cells #[.float .f64 0,.bool false,.slice none 0 0,.int .i64 0,.int .i64 0,.int .i64 0] 39)).heap.size=w.heap.size+1:=by simp);rw [bw] at bd ⊢;have bz:=ZqR bd;have hT:=ZjL a len cap xs _ 6 6 headK w1 (H.o.keep ax.o (Nat.le_refl _)) bz aj.o (by decide);unfold ZaS at hT;rw [ZbZ Zku] at hT;have HT:=Zh hT;clear bd ba bz hT HZ HH bw;cases hT1:tks xs headK [] 0 with
  | none =>
   rw [hT1] at HT;simp only at HT;(have HN:Hi (decB xs=none):=by show _=_;unfold decB;rw [hT1]);clear hT1;go_wp2_with fail;refine HT.o.mono ?_;rintro e w2 ⟨v2,rfl,ao,_,_⟩;have al:=Zh (Zac ax.o ao);have ac:=Zh (bt.o.keep ao);have z0:=ac.o.c0;have z1:=ac.o.c1;have z2:=ac.o.c2;have z3:=ac.o.c3;have z4:=ac.o.c4;have z5:=ac.o.c5;have f0:=ac.o.fz;clear ao;go_wp2_with fail;show bodyPost prog f170 (ZcB xs w) Exit.ret _ (setRw w2 w.heap.size zeroR (.slice none 0 0));refine ZdA ac.o zeroR none 0 0 (.int .i64 4) (by rfl) (by rfl) (by rfl) ?_;exact⟨Zal al.o (Nat.le_refl _) _ _,fun _=>rfl,fun r h=>by rw [HN.o] at h;cases h⟩
  | some lq =>
   obtain⟨l,q⟩:=lq;rw [hT1] at HT;simp only at HT;(have h6:l.length=6:=by have:=Zcr _ _ _ _ _ hT1;simpa [headK] using this);have hq:q≤len:=by
    have:=ZjN br.o (by rw [an.o];have:=aj.o;omega) _ _ _ _ Zdc (Nat.zero_le _) hT1;rw [an.o] at this;exact this
   obtain⟨n,hn,ag⟩:=Zkv hT1;have bq:=Zh hT1;have H6:=Zh h6;have HQ:=Zh hq;have HN:=Zh hn;clear hT1 h6 hq hn;go_wp2_with fail;refine HT.o.mono ?_;rintro e w2 ⟨v2,rfl,ao,cb,bc⟩;have al:=Zh (Zac ax.o ao);have ac:=Zh (bt.o.keep ao);obtain⟨p2,c2,ce,is2,_⟩:=cb.is bc;rw [H6.o] at ce is2;obtain⟨b,off,rfl,_⟩:=is2.2.2 0 (by omega);subst ce;have bk:=Zh is2;have cg:=Zh bc;have bu:∀j,j<6→ItAt w2 b (off+j*4) (l.getD j itD):=fun j hj=>by
    obtain⟨_,_,e,h⟩:=bk.o.2.2 j hj;simp only [Option.some.injEq,Addr.mk.injEq,and_true] at e;obtain⟨rfl,rfl⟩:=e;exact h
   have ar:=Zh bu;clear ao cb bc is2 bu HT;go_wp2_with fail;refine Pl.q9 (ops:=Pl.fd 4 f170) ?_;cases hT2:tks (xs.drop q) (List.replicate n 4) [] 0 with
   | none =>
    have ak:Hi (decB xs=none):=by
     show _=_;unfold decB;rw [bq.o];simp only;rw [HN.o,Int.toNat_natCast,hT2]
    refine ZrF w2 w2 a len cap q xs b off c2 n _ (H.o.keep al.o (Nat.le_refl _)) aj.o HQ.o (ar.o 5 (by omega)) HN.o ag hT2 (Below.refl _ _) (by rfl) (by rfl) (by rfl) (by rfl) (by rfl) ?_;intro u w3 af;simp only [Pl.pu,List.foldl,Act.put,List.setIfInBounds_toArray,List.set];have ay:=Zh (Zac al.o af);have ad:=Zh (ac.o.keep af);have z0:=ad.o.c0;have z1:=ad.o.c1;have z2:=ad.o.c2;have z3:=ad.o.c3;have z4:=ad.o.c4;have z5:=ad.o.c5;have f0:=ad.o.fz;clear af hT2;go_wp2_with fail;show bodyPost prog f170 (ZcB xs w) Exit.ret _ (setRw w3 w.heap.size zeroR (.slice none 0 0));refine ZdA ad.o zeroR none 0 0 (.int .i64 4) (by rfl) (by rfl) (by rfl) ?_;exact⟨Zal ay.o (Nat.le_refl _) _ _,fun _=>rfl,fun r h=>by rw [ak.o] at h;cases h⟩
   | some mq =>
    obtain⟨m,q2⟩:=mq;(have bf:m.length=n:=by have:=Zcr _ _ _ _ _ hT2;simpa using this);have bb:Bytes (xs.drop q):=fun x hx=>br.o x (List.mem_of_mem_drop hx);have cd:q2≤len-q:=by
     have:=ZjN bb (by rw [List.length_drop,an.o];have:=aj.o;omega) _ _ _ _ (fun k hk=>by rw [(List.mem_replicate.1 hk).2];decide) (Nat.zero_le _) hT2;rw [List.length_drop,an.o] at this;exact this
    have av:∀i∈m,i.fits:=Ze5 bb (by rw [List.length_drop,an.o];have:=aj.o;omega) _ _ _ _ (fun k hk=>by rw [(List.mem_replicate.1 hk).2];decide) (Nat.zero_le _) (fun i hi=>by cases hi) hT2;have HD:Hi (decB xs=if q+q2<xs.length∨1<(l.getD 0 itD).n∨(rowOf l m).may=false then none else some (rowOf l m)):=by
     show _=_;unfold decB;rw [bq.o];simp only;rw [HN.o,Int.toNat_natCast,hT2]
    have bm:=Zh (ZfS cg.o H6.o av);have ci:=Zh bf;have cm:=Zh cd;have co:=Zh av;have bg:∀x∈m.map It.x,x<18446744073709551616:=fun x hx=>by
     obtain⟨i,hi,rfl⟩:=List.mem_map.1 hx;exact(av i hi).2.2.1
    have cj:=Zh bg;refine ZrG w2 w2 a len cap q xs b off c2 n _ (H.o.keep al.o (Nat.le_refl _)) aj.o HQ.o (ar.o 5 (by omega)) HN.o ag m q2 hT2 (Below.refl _ _) (by rfl) (by rfl) (by rfl) (by rfl) (by rfl) ?_;intro u w3 v3 ⟨af,bh⟩;simp only [Pl.pu,List.foldl,Act.put,List.setIfInBounds_toArray,List.set];obtain⟨ca,cc,rfl,bv⟩:=bh.fs bg (by rw [List.length_map,bf]) (by omega);have ck:=Zh bh;have bo:Hi ((rowOf l m).xs=m.map It.x):=rfl;have ay:=Zh (Zac al.o af);have ad:=Zh (ac.o.keep af);have bj:=Zh bv;have ah:=Zh (fun j hj=>Zao (ar.o j hj) af);clear af hT2 bh bv bf bb cd av bg bk;go_wp2_with fail;refine Pl.q9 (ops:=Pl.fd 7 f170) ?_;refine dec7 w3 w3 b off c2 ca n cc _ _ _ _ _ (ah.o 0 (by omega)) (ah.o 1 (by omega)) (ah.o 2 (by omega)) (ah.o 3 (by omega)) (ah.o 4 (by omega)) (Below.refl _ _) (by rfl) (by rfl) (by rfl) (by rfl) ?_;intro u' w4 bi;simp only [Pl.pu,List.foldl,Act.put,List.setIfInBounds_toArray,List.set];(have aq:Bl w3 w4:=by rw [bi];exact ((Below.refl _ _).drew).alloc (Nat.le_refl _) _);(have cf:RwBlk w4 w3.heap.size (rowOf l m) (.slice ca n cc):=by rw [bi];exact Zai w3.drew (rowOf l m) (.slice ca n cc));have au:=Zh (Zac ay.o aq);have ab:=Zh (ad.o.keep aq);have ch:=Zh (bj.o.keep aq (Nat.le_refl _));have am:=Zh cf;have cl:=Zh (ck.o.keep aq (Nat.le_refl _));have bx:w3.drew.heap.size=w3.heap.size:=rfl;rw [bx];have be:w.heap.size<w3.heap.size:=(Array.getElem?_eq_some_iff.1 ad.o).1;have i0:=(Zao (ah.o 0 (by omega)) aq).2.1;simp only [Nat.zero_mul,Nat.add_zero] at i0;have ai:=Zh (ZdW (rowOf l m) ca n cc w4 ch.o bm.o);generalize (rowOf l m)=R at *;generalize (l.getD 0 itD).n=d0 at *;clear bi aq cf bx bj ah ar;have x0:=am.o.c0;have x1:=am.o.c1;have x2:=am.o.c2;have x3:=am.o.c3;have x4:=am.o.c4;have x5:=am.o.c5;unfold Rw.val at ai;obtain⟨rl,aw⟩:∃rl,rl=len-q-q2:=⟨_,rfl⟩;rw [← aw];have bn:=Zh aw;(have cn:rl≤100000:=by rw [aw];have:=aj.o;omega);clear aw be;by_cases h1:0<rl
    · (have i1:(0:Int)<(rl:Int):=by omega);have ak:Hi (decB xs=none):=by
       show _=_;rw [HD.o,if_pos (.inl (by rw [an.o];have:=bn.o;omega))]
      have z0:=ab.o.c0;have z1:=ab.o.c1;have z2:=ab.o.c2;have z3:=ab.o.c3;have z4:=ab.o.c4;have z5:=ab.o.c5;have f0:=ab.o.fz;go_wp2_with fail;show bodyPost prog f170 (ZcB xs w) Exit.ret _ (setRw w4 w.heap.size zeroR (.slice none 0 0));refine ZdA ab.o zeroR none 0 0 (.int .i64 4) (by rfl) (by rfl) (by rfl) ?_;exact⟨Zal au.o (Nat.le_refl _) _ _,fun _=>rfl,fun r h=>by rw [ak.o] at h;cases h⟩
    · (have i1:¬(0:Int)<(rl:Int):=by omega);by_cases h2:1<d0
      · have ak:Hi (decB xs=none):=by
         show _=_;rw [HD.o,if_pos (.inr (.inl h2))]
        have z0:=ab.o.c0;have z1:=ab.o.c1;have z2:=ab.o.c2;have z3:=ab.o.c3;have z4:=ab.o.c4;have z5:=ab.o.c5;have f0:=ab.o.fz;go_wp2_with fail;show bodyPost prog f170 (ZcB xs w) Exit.ret _ (setRw w4 w.heap.size zeroR (.slice none 0 0));refine ZdA ab.o zeroR none 0 0 (.int .i64 4) (by rfl) (by rfl) (by rfl) ?_;exact⟨Zal au.o (Nat.le_refl _) _ _,fun _=>rfl,fun r h=>by rw [ak.o] at h;cases h⟩
      · cases hm:R.may
        · have ak:Hi (decB xs=none):=by
           show _=_;rw [HD.o,if_pos (.inr (.inr hm))]
          rw [hm] at ai;unfold chk at ai;go_wp2_with fail;refine ai.o.mono ?_;rintro e w5 ⟨rfl,ae⟩;have az:=Zh (Zac au.o ae);have aa:=Zh (ab.o.keep ae);clear ae x0 x1 x2 x3 x4 x5 i0;have z0:=aa.o.c0;have z1:=aa.o.c1;have z2:=aa.o.c2;have z3:=aa.o.c3;have z4:=aa.o.c4;have z5:=aa.o.c5;have f0:=aa.o.fz;go_wp2_with fail;show bodyPost prog f170 (ZcB xs w) Exit.ret _ (setRw w5 w.heap.size zeroR (.slice none 0 0));refine ZdA aa.o zeroR none 0 0 (.int .i64 4) (by rfl) (by rfl) (by rfl) ?_;exact⟨Zal az.o (Nat.le_refl _) _ _,fun _=>rfl,fun r h=>by rw [ak.o] at h;cases h⟩
        · have bp:Hi (decB xs=some R):=by
           show _=_;rw [HD.o,if_neg];rintro (h | h | h)
           · rw [an.o] at h;have:=bn.o;have:=cm.o;have:=HQ.o;omega
           · exact h2 h
           · rw [hm] at h;cases h
          rw [hm] at ai;unfold chk at ai;go_wp2_with fail;refine ai.o.mono ?_;rintro e w5 ⟨rfl,ae⟩;have az:=Zh (Zac au.o ae);have aa:=Zh (ab.o.keep ae);have ap:=Zh (am.o.keep ae);have bl:=Zh (cl.o.keep ae (Nat.le_refl _));clear ae x0 x1 x2 x3 x4 x5 i0;have x0:=ap.o.c0;have x1:=ap.o.c1;have x2:=ap.o.c2;have x3:=ap.o.c3;have x4:=ap.o.c4;have x5:=ap.o.c5;have z0:=aa.o.c0;have z1:=aa.o.c1;have z2:=aa.o.c2;have z3:=aa.o.c3;have z4:=aa.o.c4;have z5:=aa.o.c5;have f0:=aa.o.fz;go_wp2_with fail;show bodyPost prog f170 (ZcB xs w) Exit.ret _ (setRw w5 w.heap.size R (.slice ca n cc));refine ZdA aa.o R ca n cc (.int .i64 0) (by rfl) (by rfl) (by rfl) ?_;refine⟨Zal az.o (Nat.le_refl _) _ _,(fun h=>by rw [bp.o] at h;cases h),fun r h=>?_⟩;rw [bp.o] at h;simp only [Option.some.injEq] at h;subst h;refine⟨bm.o,ca,n,cc,rfl,?_,?_⟩
          · rw [bo.o];exact(bl.o.setRw aa.o _ _).fsAt cj.o (by rw [List.length_map,ci.o];omega)
          · rw [bo.o];exact(bl.o.setRw aa.o _ _).lower al.o.size
def Rw.same (r s:Rw):Bool:=r.key == s.key && r.dead == s.dead && r.xs == s.xs && r.wr == s.wr && r.cell == s.cell && r.no == s.no
theorem Rw.same_self (r:Rw):r.same r=true:=by simp [Rw.same]
theorem Zj7 {ys:List Nat}{k:Nat}(h:¬xs.getD k 0=ys.getD k 0):(xs == ys)=false:=by
 apply beq_eq_false_iff_ne.2;rintro rfl;exact h rfl
theorem Zhz {ys:List Nat}(hl:xs.length=ys.length)(h:∀j,j<xs.length→xs.getD j 0=ys.getD j 0):(xs == ys)=true:=by
 apply beq_iff_eq.2;apply List.ext_getElem hl;intro j h1 h2;have:=h j h1;simpa [List.getD,h1,h2] using this
theorem Zkl (a:Option Addr)(len cap:Nat)(b:Option Addr)(len' cap':Nat)(xs ys:List Nat)(w:World)(h:Fs w a len cap xs)(h':Fs w b len' cap' ys) :
    Calls prog 174 #[.slice a len cap,.slice b len' cap',.func (.func 173) #[] #[]] w fun e w'=>e=.returned (.bool (xs == ys))∧w'=w:=by
  have H:=Zh h;have H':=Zh h';have HL:=Zh h.len;have HL':=Zh h'.len;have ac:=h.big;clear h h';by_cases hl:len=len'
  · subst hl;go_enter func174,ntmps174;go_wp2_with fail;go_loop [17] (fun i=>∃k:Nat,k≤len∧i=.int .i64 k∧Hi (∀j,j<k→xs.getD j 0=ys.getD j 0)) (fun i=>len-(intOf i).toNat)
    case atStart=>exact ⟨0,by omega,rfl,fun j hj=>by omega⟩
    case round =>
     obtain⟨k,hk,rfl,aa⟩:=hrel;rcases Nat.lt_or_ge k len with ab | ad
     · obtain⟨b1,o1,rfl,c1,_,_⟩:=H.o.at k ab;obtain⟨b2,o2,rfl,c2,_,_⟩:=H'.o.at k ab;obtain⟨x,hx⟩:∃x,x=xs.getD k 0:=⟨_,rfl⟩;obtain⟨y,hy⟩:∃y,y=ys.getD k 0:=⟨_,rfl⟩;rw [← hx] at c1;rw [← hy] at c2;have HX:=Zh hx;have HY:=Zh hy;have HS:=Zh (Zdv x y);clear hx hy;by_cases he:x=y
       · subst he;rw [beq_self_eq_true] at HS;go_wp2_with fail;refine(HS.o _).mono ?_;rintro e w' ⟨rfl,hw⟩;obtain rfl:=hw.symm;go_wp2;go_round
         case rel =>
          refine⟨k+1,by omega,by go_num,?_⟩;intro j hj;by_cases e:j=k
          · rw [e,← HX.o,← HY.o]
          · exact aa.o j (by omega)
         case measure=>simp only [intOf];omega
       · have HN:Hi ((xs == ys)=false):=Zj7 (k:=k) (by rw [← HX.o,← HY.o];exact he);rw [beq_eq_false_iff_ne.2 he] at HS;go_wp2_with fail;refine(HS.o _).mono ?_;rintro e w' ⟨rfl,hw⟩;obtain rfl:=hw.symm;go_wp2;go_ret;exact⟨by rw [HN.o];rfl,rfl⟩
     · have HN:Hi ((xs == ys)=true):=Zhz (by rw [HL.o,HL'.o]) (fun j hj=>aa.o j (by rw [HL.o] at hj;omega));go_wp2;go_ret;exact⟨by rw [HN.o];rfl,rfl⟩
  · have HN:Hi ((xs == ys)=false):=by
     apply beq_eq_false_iff_ne.2;rintro rfl;exact hl (HL.o.symm.trans HL'.o)
    (have i1:((len:Int) != (len':Int))=true:=by rw [Zb3];simpa [bne] using hl);(have i2:¬(len:Int)=(len':Int):=by omega);go_enter func174,ntmps174;go_wp2;go_ret;exact⟨by rw [HN.o];rfl,rfl⟩
theorem Zfd (r s:Rw)(a:Option Addr)(len cap:Nat)(b:Option Addr)(len' cap':Nat)(w:World)(h:Fs w a len cap r.xs)(h':Fs w b len' cap' s.xs) :
    Calls prog 145 #[r.val (.slice a len cap),s.val (.slice b len' cap')] w fun e w'=>e=.returned (.bool (r.same s))∧Bl w w':=by
  obtain⟨k,d,xs,t,c,n⟩:=r;obtain⟨k',d',xs',t',c',n'⟩:=s;have H1:=Zh (Zdv k k');have HE:Hi (∀w',Bl w w'→Calls prog 174 #[.slice a len cap,.slice b len' cap',.func (.func 173) #[] #[]] w' fun e w''=>e=.returned (.bool (xs == xs'))∧w''=w'):=fun w' hb=>Zkl a len cap b len' cap' xs xs' w' (h.keep hb (Nat.le_refl _)) (h'.keep hb (Nat.le_refl _));have HW:Hi (∀o o',Bl w ((w.alloc o).alloc o')):=ZaA w;clear h h';unfold Rw.val Rw.same;simp only;by_cases hk:k=k'
  · subst hk;have e1:(k == k)=true:=beq_self_eq_true k;rw [e1] at H1;rw [e1];clear e1;by_cases hd:d=d'
    · subst hd;have e2:(d == d)=true:=beq_self_eq_true d;rw [e2];clear e2;generalize (xs == xs')=m at *;cases m
      · go_enter func145,ntmps145;go_wp2_with fail;refine(H1.o _).mono ?_;rintro e w' ⟨rfl,hw⟩;obtain rfl:=hw.symm;go_wp2_with fail;refine(HE.o _ (HW.o _ _)).mono ?_;rintro e w' ⟨rfl,hw⟩;obtain rfl:=hw.symm;go_wp2;go_ret;exact⟨rfl,HW.o _ _⟩
      · go_enter func145,ntmps145;go_wp2_with fail;refine(H1.o _).mono ?_;rintro e w' ⟨rfl,hw⟩;obtain rfl:=hw.symm;go_wp2_with fail;refine(HE.o _ (HW.o _ _)).mono ?_;rintro e w' ⟨rfl,hw⟩;obtain rfl:=hw.symm;go_wp2_with fail;all_goals (go_ret;refine ⟨?_,HW.o _ _⟩;simp [*])
    · have e2:(d == d')=false:=beq_eq_false_iff_ne.2 hd;rw [e2];go_enter func145,ntmps145;go_wp2_with fail;refine(H1.o _).mono ?_;rintro e w' ⟨rfl,hw⟩;obtain rfl:=hw.symm;go_wp2;go_ret;exact⟨rfl,HW.o _ _⟩
  · have e1:(k == k')=false:=beq_eq_false_iff_ne.2 hk;rw [e1] at H1;rw [e1];clear e1 hk;go_enter func145,ntmps145;go_wp2_with fail;refine(H1.o _).mono ?_;rintro e w' ⟨rfl,hw⟩;obtain rfl:=hw.symm;go_wp2;go_ret;exact⟨rfl,HW.o _ _⟩
theorem ZnH:∀args w,(callFunc 40 args).run prog w=.ok (.enter 40 args) w:=Pl.qi func40
theorem fls6 (w0 w:World)(b1 o1 b2 o2 len c1 c2 k x1 x2:Nat)(m:Bool)(hk:k<len)(h1:w0.cell? ⟨b1,o1+k,none⟩=some (.float .f64 x1))(h2:w0.cell? ⟨b2,o2+k,none⟩=some (.float .f64 x2))(he:(x1 == x2)=m)(hW:Bl w0 w)
    {Q:Exit→Act→World→Prop}(ac:A.tmps.size=27)(ab:A.defers=[])(s0:A.tmps.getD 0 undef=.slice (some ⟨b1,o1,none⟩) len c1)(s1:A.tmps.getD 1 undef=.slice (some ⟨b2,o2,none⟩) len c2)(s5:A.tmps.getD 5 undef=.int .i64 (k:Nat))
    (hend:∀(u:Nat→Value) w',Bl w0 w'→Q .normal ((Pl.pu A u [17,18,19,20,21,22,23,24,25]).put (some 26) (.bool (!m))) w') :
    Pl.rg prog 6 f24 Q A w:=by
  have aa:Bl w0 w.drew:=hW.drew;have hA:=Pl.At.same (v:=.int .i64 (k:Nat)) (d:=5) (Pl.At.same (v:=.slice (some ⟨b2,o2,none⟩) len c2) (d:=1) (Pl.At.same (v:=.slice (some ⟨b1,o1,none⟩) len c1) (d:=0) (Pl.At.here ac ab) s0) s1) s5;refine Pl.qb (S:=fun w'=>Bl w0 w') hA aa ?_;rw [show (Pl.fd 6 f24).size=10 by kernel_rfl];refine Pl.q0 0 17 (.slice (some ⟨b1,o1,none⟩) len c1) (Pl.q1) (Pl.q2 (.tmp 0)) aa ?_;refine Pl.q0 1 18 (.int .i64 (k:Nat)) (Pl.q1) (Pl.q2 (.tmp 5)) aa ?_;refine Pl.q0 2 19 (.pointer (some ⟨b1,o1+k,none⟩)) (Pl.q1) (Pl.qa 35 (.tmp 17) (.tmp 18) (Zdd b1 o1 len c1 k hk)) aa ?_;refine Pl.q0 3 20 (.float .f64 x1) (Pl.q1) (Pl.q4 32 (.tmp 19) (fun w' hS=>Za7 b1 (o1+k) x1 w' ((hS.cell (World.block_lt_of_cell? w0 _ h1)).trans h1))) aa ?_;refine Pl.q0 4 21 (.slice (some ⟨b2,o2,none⟩) len c2) (Pl.q1) (Pl.q2 (.tmp 1)) aa ?_;refine Pl.q0 5 22 (.int .i64 (k:Nat)) (Pl.q1) (Pl.q2 (.tmp 5)) aa ?_;refine Pl.q0 6 23 (.pointer (some ⟨b2,o2+k,none⟩)) (Pl.q1) (Pl.qa 35 (.tmp 21) (.tmp 22) (Zdd b2 o2 len c2 k hk)) aa ?_;refine Pl.q0 7 24 (.float .f64 x2) (Pl.q1) (Pl.q4 32 (.tmp 23) (fun w' hS=>Za7 b2 (o2+k) x2 w' ((hS.cell (World.block_lt_of_cell? w0 _ h2)).trans h2))) aa ?_;refine Pl.qe 8 25 40 [(.tmp 20),(.tmp 24)] #[32,32] (Pl.q1) ZnH (Calls.mono (ZcH x1 x2 w.drew) ?_);rintro e w' ⟨rfl,hw⟩;obtain rfl:=hw.symm;rw [he];refine⟨.bool m,rfl,aa,?_⟩;refine Pl.q0 9 26 (.bool (!m)) (Pl.q1) (Pl.qv 4 (.tmp 25) _) aa ?_;refine Pl.q8 (fun A' hA'=>?_);exact Pl.en hA' hA [17,18,19,20,21,22,23,24,25,26] (hend hA'.fn _ aa)
theorem ZkW (a:Option Addr)(len cap:Nat)(b:Option Addr)(len' cap':Nat)(xs ys:List Nat)(w:World)(h:Fs w a len cap xs)(h':Fs w b len' cap' ys) :
    Calls prog 24 #[.slice a len cap,.slice b len' cap'] w fun e w'=>e=.returned (.bool (xs == ys))∧Bl w w':=by
  have H:=Zh h;have H':=Zh h';have HL:=Zh h.len;have HL':=Zh h'.len;have ad:=h.big;clear h h';by_cases hl:len=len'
  · subst hl;go_enter func24,ntmps24;go_wp2_with fail;go_loopw [5] (fun i wr=>∃k:Nat,k≤len∧i=.int .i64 k∧Hi (∀j,j<k→xs.getD j 0=ys.getD j 0)∧Hi (Bl w wr)) (fun i _=>len-(intOf i).toNat)
    case atStart=>exact ⟨0,by omega,rfl,fun j hj=>by omega,Below.refl _ _⟩
    case round =>
     obtain⟨k,hk,rfl,ab,aa⟩:=hrel;rcases Nat.lt_or_ge k len with ac | ae
     · obtain⟨b1,o1,rfl,c1,_,_⟩:=(H.o.keep aa.o (Nat.le_refl _)).at k ac;obtain⟨b2,o2,rfl,c2,_,_⟩:=(H'.o.keep aa.o (Nat.le_refl _)).at k ac;have C1:=Zh c1;have C2:=Zh c2;clear c1 c2;by_cases he:xs.getD k 0=ys.getD k 0
       · have HE:=Zh he;clear he;go_wp2_with fail;refine Pl.q9 (ops:=Pl.fd 6 f24) ?_;refine fls6 wr wr b1 o1 b2 o2 len cap cap' k _ _ true ac C1.o C2.o (by rw [HE.o];exact beq_self_eq_true _) (Below.refl _ _) (by rfl) (by rfl) (by rfl) (by rfl) (by rfl) ?_;intro u w' hb;have HB:=Zh (Zac aa.o hb);clear hb;simp only [Pl.pu,List.foldl,Act.put,List.setIfInBounds_toArray,List.set_cons_zero,List.set_cons_succ,Bool.not_true];go_wp2;go_roundw
         case rel =>
          refine⟨k+1,by omega,by go_num,?_,HB⟩;intro j hj;by_cases e:j=k
          · rw [e];exact HE.o
          · exact ab.o j (by omega)
         case measure=>simp only [intOf];omega
       · have HN:Hi ((xs == ys)=false):=Zj7 (k:=k) he;have HE:=Zh he;clear he;go_wp2_with fail;refine Pl.q9 (ops:=Pl.fd 6 f24) ?_;refine fls6 wr wr b1 o1 b2 o2 len cap cap' k _ _ false ac C1.o C2.o (beq_eq_false_iff_ne.2 HE.o) (Below.refl _ _) (by rfl) (by rfl) (by rfl) (by rfl) (by rfl) ?_;intro u w' hb;have HB:=Zh (Zac aa.o hb);clear hb;simp only [Pl.pu,List.foldl,Act.put,List.setIfInBounds_toArray,List.set_cons_zero,List.set_cons_succ,Bool.not_false];go_wp2;go_ret;exact⟨by rw [HN.o];rfl,HB.o⟩
     · have HN:Hi ((xs == ys)=true):=Zhz (by rw [HL.o,HL'.o]) (fun j hj=>ab.o j (by rw [HL.o] at hj;omega));go_wp2;go_ret;exact⟨by rw [HN.o];rfl,aa.o⟩
  · have HN:Hi ((xs == ys)=false):=by
     apply beq_eq_false_iff_ne.2;rintro rfl;exact hl (HL.o.symm.trans HL'.o)
    (have i1:((len:Int) != (len':Int))=true:=by rw [Zb3];simpa [bne] using hl);(have i2:¬(len:Int)=(len':Int):=by omega);go_enter func24,ntmps24;go_wp2;go_ret;exact⟨by rw [HN.o];rfl,Below.refl _ _⟩
theorem Zb8 (r s:Rw)(a:Option Addr)(len cap:Nat)(b:Option Addr)(len' cap':Nat)(w:World)(h:Fs w a len cap r.xs)(h':Fs w b len' cap' s.xs) :
    Calls prog 13 #[r.val (.slice a len cap),s.val (.slice b len' cap')] w fun e w'=>e=.returned (.bool (r.same s))∧Bl w w':=by
  obtain⟨k,d,xs,t,c,n⟩:=r;obtain⟨k',d',xs',t',c',n'⟩:=s;have H1:=Zh (ZcH k k');have HE:Hi (∀w',Bl w w'→Calls prog 24 #[.slice a len cap,.slice b len' cap'] w' fun e w''=>e=.returned (.bool (xs == xs'))∧Bl w' w''):=fun w' hb=>ZkW a len cap b len' cap' xs xs' w' (h.keep hb (Nat.le_refl _)) (h'.keep hb (Nat.le_refl _));have HW:Hi (∀o o',Bl w ((w.alloc o).alloc o')):=ZaA w;clear h h';unfold Rw.val Rw.same;simp only;by_cases aa:k=k'∧d=d'∧t=t'∧c=c'∧n=n'
  · obtain⟨rfl,rfl,rfl,rfl,rfl⟩:=aa;rw [beq_self_eq_true] at H1;simp only [beq_self_eq_true,Bool.true_and,Bool.and_true];generalize (xs == xs')=m at *;go_enter func13,ntmps13;go_wp2_with fail;refine(H1.o _).mono ?_;rintro e w' ⟨rfl,hw⟩;obtain rfl:=hw.symm;go_wp2_with fail;refine(HE.o _ (HW.o _ _)).mono ?_;rintro e w' ⟨rfl,hb⟩;have HB:=Zh (Zac (HW.o _ _) hb);clear hb;go_wp2;go_ret;exact⟨rfl,HB.o⟩
  · have HN:Hi ((k == k' && d == d' && xs == xs' && t == t' && c == c' && n == n')=false):=by
     show _=_;rw [Bool.eq_false_iff];intro h;simp only [Bool.and_eq_true,beq_iff_eq] at h;exact aa ⟨h.1.1.1.1.1,h.1.1.1.1.2,h.1.1.2,h.1.2,h.2⟩
    by_cases hk:k=k'
    · subst hk;rw [beq_self_eq_true] at H1;by_cases hd:d=d'
      · subst hd;by_cases ht:t=t'
        · subst ht;have ab:¬(c=c'∧n=n'):=fun h=>aa ⟨rfl,rfl,rfl,h.1,h.2⟩;clear aa;go_enter func13,ntmps13;go_wp2_with fail;refine(H1.o _).mono ?_;rintro e w' ⟨rfl,hw⟩;obtain rfl:=hw.symm;go_wp2_with fail;all_goals (go_ret;exact ⟨by rw [HN.o];simp [*],HW.o _ _⟩)
        · have e3:(t == t')=false:=beq_eq_false_iff_ne.2 ht;clear aa;go_enter func13,ntmps13;go_wp2_with fail;refine(H1.o _).mono ?_;rintro e w' ⟨rfl,hw⟩;obtain rfl:=hw.symm;go_wp2;go_ret;exact⟨by rw [HN.o];simp,HW.o _ _⟩
      · have e2:(d == d')=false:=beq_eq_false_iff_ne.2 hd;clear aa;go_enter func13,ntmps13;go_wp2_with fail;refine(H1.o _).mono ?_;rintro e w' ⟨rfl,hw⟩;obtain rfl:=hw.symm;go_wp2;go_ret;exact⟨by rw [HN.o];simp,HW.o _ _⟩
    · rw [beq_eq_false_iff_ne.2 hk] at H1;clear aa hk;go_enter func13,ntmps13;go_wp2_with fail;refine(H1.o _).mono ?_;rintro e w' ⟨rfl,hw⟩;obtain rfl:=hw.symm;go_wp2;go_ret;exact⟨by rw [HN.o];simp,HW.o _ _⟩
theorem Zh1 (b o:Nat)(v:Value)(hv:∃a len cap,v=.slice a len cap)(w:World)(h:w.cell? ⟨b,o,none⟩=some v):(Instr.loadAt 35 (.pointer (some ⟨b,o,none⟩))).run prog w=.ok v w:=by
 obtain⟨a,len,cap,rfl⟩:=hv;exact Zbq b o a len cap w h
theorem Zgb (b o:Nat)(v u:Value)(hv:∃a len cap,v=.slice a len cap)(w:World)(h:w.cell? ⟨b,o,none⟩=some u)(hf:w.frozen? ⟨b,o,none⟩=false):(Instr.storeAt 35 (.pointer (some ⟨b,o,none⟩)) v).run prog w=.ok () (w.setCell ⟨b,o,none⟩ v):=by
 obtain⟨a,len,cap,rfl⟩:=hv;simp [go_sem,Instr.storeAt,h,hf]
theorem ZgS (x:Nat)(w:World):(Instr.buildSlice 35 1 #[(0,.float .f64 x)]).run prog w=.ok (.slice (some ⟨w.heap.size,0,none⟩) 1 1) (w.alloc (.cells #[.float .f64 x] 32)):=by
 simp [go_sem,Instr.buildSlice]
structure ZoG (W0 w w':World) (B p:Nat) (R:Rw) (v:Value) (us:List Value):Prop where
  below:Below B W0 w'
  owns:OwnsV 32 w' B v us
  blk:RwBlk w' p R v
  stay:∀(k:Nat) (C:Array Value) (t:TypeId) (fr:Nat × Nat),w.heap[k]? = some (Obj.cells C t fr)→t≠32→k≠p→w'.heap[k]? = w.heap[k]?
  size:w.heap.size≤w'.heap.size
theorem ZlC {W0 w1:World}{R:Rw}{us:List Value}(hb:Below B W0 w1)(hp:B≤p)(aa:RwBlk w1 p R c0)(ho:OwnsV 32 w1 B v us)
    (ad:∀(k:Nat)(C:Array Value)(t:TypeId)(fr:Nat × Nat),w.heap[k]? = some (Obj.cells C t fr)→t≠32→w1.heap[k]? = w.heap[k]?)(ae:w.heap.size≤w1.heap.size) :
    ZoG W0 w (w1.setCell ⟨p,2,none⟩ v) B p R v us:=by
  refine⟨hb.setCell (p:=⟨p,2,none⟩) hp v,⟨ho.1,?_⟩,?_,fun k C t fr hk ht ac=>?_,?_⟩
  · rcases ho.2 with hn | ⟨k,cap,cur,hv,ab,hk,rest⟩
    · exact .inl hn
    · refine .inr ⟨k,cap,cur,hv,ab,(Below.heap_setCell _ ⟨p,2,none⟩ _ k ?_).trans hk,rest⟩;rintro rfl;unfold RwBlk at aa;rw [hk] at aa;simp only [Option.some.injEq,Obj.cells.injEq] at aa;exact absurd aa.2.1 (by decide)
  · have:=heap_setCell_same w1 p 2 _ 39 v aa;unfold RwBlk;rw [this];simp
  · rw [Below.heap_setCell _ ⟨p,2,none⟩ _ k ac];exact ad k C t fr hk ht
  · simpa using ae
theorem OwnsV.form {e:TypeId}{vs:List Value}(h:OwnsV e w base v vs):∃a len cap,v=.slice a len cap:=by
 rcases h.2 with ⟨hv,_⟩ | ⟨g,cap,cur,hv,_⟩
 · exact⟨_,_,_,hv⟩
 · exact⟨_,_,_,hv⟩
theorem Zbj {fn:Func}{x y:Nat}(hr:fn.results=#[.cell x 39,.tmp y])(h:RwBlk W g r c)(tmps:Array Value)(u:Value)(ht:tmps.getD x undef=.pointer (some ⟨g,0,none⟩))(hx:tmps.getD y undef=u)(hc:∃a len cap,c=.slice a len cap):(results fn tmps).run prog W=.ok (.tuple #[r.val c,u]) W:=by
 have c0:=h.c0;have c1:=h.c1;have c2:=h.c2;have c3:=h.c3;have c4:=h.c4;have c5:=h.c5;obtain⟨a,len,cap,rfl⟩:=hc;(have aa:tmps[x]?.getD undef=.pointer (some ⟨g,0,none⟩):=by simpa using ht);(have ab:tmps[y]?.getD undef=u:=by simpa using hx);simp [results,hr,aa,ab,go_sem,c0,c1,c2,c3,c4,c5,Rw.val]
theorem Zcb {fn:Func}{x y:Nat}(aa:fn.results=#[.cell x 39,.tmp y])(h:RwBlk W g r0 c0)(r:Rw)(c u:Value)(hc:∃a len cap,c=.slice a len cap){R:Ending→World→Prop}(t2:A.tmps.getD x undef=.pointer (some ⟨g,0,none⟩))(t3:A.tmps.getD y undef=u)(hd:A.defers=[])
    (hR:R (.returned (.tuple #[r.val c,u])) (setRw W g r c)):bodyPost prog fn R Exit.ret A (setRw W g r c):=by
  have hr:=Za5 h r c;generalize setRw W g r c=W' at *;exact bodyPost_ret (Zbj aa hr _ _ t2 t3 hc) hd hR
theorem ZpC {k:Nat}(h:k=Fl.key k):Fl.val k=k:=by
 unfold Fl.key at h;split at h
 · rename_i e;rw [e] at h;cases h
 · exact h.symm
theorem Zca (l m:List It):putB (l ++ m)=putB l ++ putB m:=by simp [putB]
theorem Zkw (r:Rw):r.head.map It.kind=headK:=rfl
theorem Zmx (xs:List Nat):(xs.map numI).map It.kind=List.replicate xs.length 4:=by
 rw [List.map_map];apply List.ext_getElem
 · simp
 · intro i h1 h2;simp [numI]
theorem Zhc (hm:r.may=true)(hf:r.fits):decB r.bytes=some r:=by
 have hp:=Rw.may_parts hm;have ab:=List.all_eq_true.1 (Zdj hm);have aa:=ZdE hf hp.2.1;have hh:∀i∈r.head,i.may=true∧i.x<18446744073709551616:=fun i hi=>⟨ab i (by unfold Rw.items;simp [hi]),(aa i (by unfold Rw.items;simp [hi])).2.2.1⟩;have hc:∀i∈r.xs.map numI,i.may=true∧i.x<18446744073709551616:=fun i hi=>⟨ab i (by unfold Rw.items;exact List.mem_append_right _ hi),(aa i (by unfold Rw.items;exact List.mem_append_right _ hi)).2.2.1⟩;have eb:r.bytes=putB r.head ++ putB (r.xs.map numI):=Zca _ _;have t1:=ZiZ r.head r.bytes (putB (r.xs.map numI)) [] 0 hh eb;rw [Zkw,List.nil_append,Nat.zero_add] at t1;have t2:=ZiZ (r.xs.map numI) (r.bytes.drop (putB r.head).length) [] [] 0 hc (by rw [eb];simp);rw [Zmx,List.nil_append,Nat.zero_add] at t2;have hv:(r.xs.map numI).map It.valued=r.xs.map numI:=by
  rw [List.map_map];apply List.map_congr_left;intro x hx;have:=hp.2.2.2.1 x hx;simp only [Function.comp,It.valued,numI,← this]
 rw [hv] at t2;have ac:rowOf (r.head.map It.valued) (r.xs.map numI)=r:=by
  obtain⟨key,dead,xs,wr,cell,no⟩:=r;have hk:=ZpC hp.1;simp only at hk;unfold rowOf;have e1:(Rw.head ⟨key,dead,xs,wr,cell,no⟩).map It.valued=[⟨1,if dead then 1 else 0,0,noS⟩,⟨4,0,key,noS⟩,⟨3,wr,0,noS⟩,⟨2,cell,0,noS⟩,⟨3,no,0,noS⟩,⟨1,xs.length,0,noS⟩]:=by
   simp [Rw.head,It.valued,hk,ZgL]
  rw [e1];have e2:(xs.map numI).map It.x=xs:=by
   rw [List.map_map];(have:(It.x ∘ numI)=id:=by funext x;rfl);rw [this,List.map_id]
  simp only [e2];cases dead <;> rfl
 have ae:((r.head.map It.valued).getD 5 itD).n.toNat=r.xs.length:=by
  show (r.xs.length:Int).toNat=_;simp
 have ad:¬1<((r.head.map It.valued).getD 0 itD).n:=by
  show ¬(1:Int)<if r.dead=true then 1 else 0;cases r.dead <;> decide
 unfold decB;rw [t1];simp only;rw [ae,t2];simp only;rw [if_neg,ac];rintro (h | h | h)
 · rw [eb,List.length_append] at h;omega
 · exact ad h
 · rw [ac,hm] at h;cases h
theorem Owns.cameN (h:Owns w base v xs)(hx:Bytes xs)(hn:xs.length=n)(hm:n≤1000000):∃a cap,v=.slice a n cap∧Came w a n cap xs:=by
 subst hn;obtain⟨a,cap,hv,aa,hn⟩:=h.bs hx;refine⟨a,cap,hv,aa,hn,?_,by omega⟩;rcases h.2 with ⟨hv',h0'⟩ | ⟨g,cp,cur,hv',_,_,ab,_⟩
 · rw [h0'];exact Nat.zero_le _
 · rw [hv] at hv';simp only [Value.slice.injEq] at hv';rw [hv'.2.2];exact ab
theorem ZbU (b:Nat)(r:Rw)(c:Value)(hc:∃a len cap,c=.slice a len cap)(w:World)(h:RwBlk w b r c):(Instr.loadAt 39 (.pointer (some ⟨b,0,none⟩))).run prog w=.ok (r.val c) w:=by
 have c0:=h.c0;have c1:=h.c1;have c2:=h.c2;have c3:=h.c3;have c4:=h.c4;have c5:=h.c5;obtain⟨a,len,cap,rfl⟩:=hc;simp [go_sem,c0,c1,c2,c3,c4,c5,Rw.val]
theorem ZiG (r:Rw)(a:Option Addr)(len cap:Nat)(b:Option Addr)(len' cap':Nat)(w:World)(h:Fs w a len cap r.xs)(h':Fs w b len' cap' r.xs) :
    Calls prog 13 #[r.val (.slice a len cap),r.val (.slice b len' cap')] w fun e w'=>e=.returned (.bool true)∧Bl w w':=by
  have:=Zb8 r r a len cap b len' cap' w h h';rw [Rw.same_self] at this;exact this
theorem Zdn (r:Rw)(m:Bool)(hm:r.may=m)(a:Option Addr)(len cap:Nat)(w:World)(h:Fs w a len cap r.xs)(hf:r.fits) :
    Calls prog 60 #[r.val (.slice a len cap)] w fun e w'=>e=.returned (.bool m)∧Bl w w':=by
  have:=Zds r a len cap w h hf;rw [hm] at this;exact this
theorem Zc9 (w:World):Fs w none 0 0 []:=⟨⟨rfl,(fun u hu=>by cases hu),fun j hj=>by omega⟩,(fun x hx=>by cases hx),fun _=>rfl,Nat.le_refl _,by decide⟩
theorem ZnG:∀args w,(callFunc 13 args).run prog w=.ok (.enter 13 args) w:=Pl.qi func13
theorem Zgt:∀args w,(callFunc 60 args).run prog w=.ok (.enter 60 args) w:=Pl.qi func60
theorem Zhf:∀args w,(callFunc 102 args).run prog w=.ok (.enter 102 args) w:=Pl.qi func102
theorem Zfp (xs:List Nat)(l0:List It)(q0:Nat):∀(ks:List Int)(acc:List It)(q:Nat),tks xs ks (l0 ++ acc) (q0+q)=(tks (xs.drop q0) ks acc q).map (fun r=>(l0 ++ r.1,q0+r.2))
 | [],acc,q=>by simp [tks]
 | k :: ks,acc,q=>by
  simp only [tks,List.drop_drop]
  cases tk (xs.drop (q0+q)) k with
  | none=>rfl
  | some r =>
   simp only
   have:=Zfp xs l0 q0 ks (acc ++ [r.1]) (q+r.2)
   rw [← List.append_assoc] at this
   rw [Nat.add_assoc]
   exact this
theorem ZdQ {k:Int}(hk:k=1∨k=2∨k=3){i:It}(h:tk xs k=some (i,n)):n=cntN k∧n≤xs.length∧i=⟨k,numB (xs.take n),0,noS⟩∧(numB (xs.take n):Int)≤maxN k:=by
 rw [ZjM hk] at h;split at h
 · split at h
   · simp only [Option.some.injEq,Prod.mk.injEq] at h;obtain⟨rfl,rfl⟩:=h;exact⟨rfl,by assumption,rfl,by assumption⟩
   · cases h
 · cases h
theorem ZiY {i:It}(h:tk xs 4=some (i,n)):n=8∧8≤xs.length∧i=⟨4,0,numB (xs.take 8),noS⟩∧Fl.val (numB (xs.take 8))=numB (xs.take 8):=by
 simp only [tk,if_true] at h;split at h
 · split at h
   · simp only [Option.some.injEq,Prod.mk.injEq] at h;obtain⟨rfl,rfl⟩:=h;exact⟨rfl,by assumption,rfl,by assumption⟩
   · cases h
 · cases h
theorem Zjm (hx:Bytes xs)(n:Nat)(h:n≤xs.length):bigB (numB (xs.take n)) n=xs.take n:=by
 have hb:Bytes (xs.take n):=fun x hh=>hx x (List.mem_of_mem_take hh);have:=ZcV hb;rw [List.length_take,Nat.min_eq_left h] at this;exact this
theorem Zo7 (hx:Bytes xs){k:Int}(hk:k=1∨k=2∨k=3∨k=4){i:It}(h:tk xs k=some (i,n)):i.bytes=xs.take n∧n≤xs.length:=by
 by_cases h4:k=4
 · subst h4;obtain⟨rfl,hl,rfl,hv⟩:=ZiY h;refine⟨?_,hl⟩;simp only [It.bytes,show ¬(4:Int)=1 by decide,show ¬(4:Int)=2 by decide,show ¬(4:Int)=3 by decide,if_false,if_true];rw [hv];exact Zjm hx 8 hl
 · (have hk':k=1∨k=2∨k=3:=by omega);obtain⟨hn,hl,rfl,_⟩:=ZdQ hk' h;refine⟨?_,hl⟩;have hb:It.bytes ⟨k,(numB (xs.take n):Nat),0,noS⟩=bigB (numB (xs.take n)) (cntN k):=by
    rcases hk' with rfl | rfl | rfl <;> simp [It.bytes,cntN]
   rw [hb,← hn];exact Zjm hx n hl
theorem Zfo (hx:Bytes xs):∀(ks:List Int)(l:List It)(q:Nat)(r:List It × Nat),(∀k∈ks,k=1∨k=2∨k=3∨k=4)→q≤xs.length→putB l=xs.take q→tks xs ks l q=some r→putB r.1=xs.take r.2∧r.2≤xs.length
 | [],l,q,r,_,hq,hl,h=>by
  simp only [tks,Option.some.injEq] at h
  rw [← h]
  exact⟨hl,hq⟩
 | k :: ks,l,q,r,hk,hq,hl,h=>by
  simp only [tks] at h
  split at h
  · cases h
  · rename_i i n hi
    have hb:Bytes (xs.drop q):=fun x hh=>hx x (List.mem_of_mem_drop hh)
    have hc:=Zo7 hb (hk k (by simp)) hi
    rw [List.length_drop] at hc
    refine Zfo hx ks _ _ r (fun k' h'=>hk k' (by simp [h'])) (by omega) ?_ h
    have e:putB (l ++ [i])=putB l ++ i.bytes:=by simp [putB]
    rw [e,hl,hc.1,List.take_add]
theorem ZlT:∀k∈headK,k=1∨k=2∨k=3∨k=4:=by decide
theorem ZeM (hx:Bytes xs){l:List It}(h:tks xs headK [] 0=some (l,q)) :
    q=20∧20≤xs.length∧∃(n0 k n2 n3 n4:Nat),l=[⟨1,n0,0,noS⟩,⟨4,0,k,noS⟩,⟨3,n2,0,noS⟩,⟨2,n3,0,noS⟩,⟨3,n4,0,noS⟩,⟨1,(xs.getD 19 0:Nat),0,noS⟩]:=by
  unfold headK at h;simp only [tks,List.nil_append] at h;cases h0:tk (xs.drop 0) 1 with
  | none=>rw [h0] at h;cases h
  | some r0 =>
  obtain⟨i0,m0⟩:=r0;rw [h0] at h;simp only at h;obtain⟨rfl,l0,rfl,_⟩:=ZdQ (.inl rfl) h0;cases h1:tk (xs.drop (0+cntN 1)) 4 with
  | none=>rw [h1] at h;cases h
  | some r1 =>
  obtain⟨i1,m1⟩:=r1;rw [h1] at h;simp only at h;obtain⟨rfl,l1,rfl,_⟩:=ZiY h1;cases h2:tk (xs.drop (0+cntN 1+8)) 3 with
  | none=>rw [h2] at h;cases h
  | some r2 =>
  obtain⟨i2,m2⟩:=r2;rw [h2] at h;simp only at h;obtain⟨rfl,l2,rfl,_⟩:=ZdQ (.inr (.inr rfl)) h2;cases h3:tk (xs.drop (0+cntN 1+8+cntN 3)) 2 with
  | none=>rw [h3] at h;cases h
  | some r3 =>
  obtain⟨i3,m3⟩:=r3;rw [h3] at h;simp only at h;obtain⟨rfl,l3,rfl,_⟩:=ZdQ (.inr (.inl rfl)) h3;cases h4:tk (xs.drop (0+cntN 1+8+cntN 3+cntN 2)) 3 with
  | none=>rw [h4] at h;cases h
  | some r4 =>
  obtain⟨i4,m4⟩:=r4;rw [h4] at h;simp only at h;obtain⟨rfl,l4,rfl,_⟩:=ZdQ (.inr (.inr rfl)) h4;cases h5:tk (xs.drop (0+cntN 1+8+cntN 3+cntN 2+cntN 3)) 1 with
  | none=>rw [h5] at h;cases h
  | some r5 =>
  obtain⟨i5,m5⟩:=r5;rw [h5] at h;simp only at h;obtain⟨rfl,l5,rfl,_⟩:=ZdQ (.inl rfl) h5;simp only [Option.some.injEq,Prod.mk.injEq] at h;obtain⟨rfl,rfl⟩:=h;have c1:cntN 1=1:=rfl;have c2:cntN 2=2:=rfl;have c3:cntN 3=4:=rfl;rw [List.length_drop,c1,c2,c3] at l5;have e19:numB ((xs.drop (0+cntN 1+8+cntN 3+cntN 2+cntN 3)).take (cntN 1))=xs.getD 19 0:=by
   (have aa:19<xs.length:=by omega);have e1:xs.drop 19=xs[19] :: xs.drop 20:=List.drop_eq_getElem_cons aa;(have e2:xs.getD 19 0=xs[19]:=by simp [List.getD,aa]);show numB ((xs.drop 19).take 1)=xs.getD 19 0;rw [e1,e2];show numB [xs[19]]=xs[19];simp [numB]
  refine⟨by rw [c1,c2,c3],by omega,numB (List.take (cntN 1) (List.drop 0 xs)),numB (List.take 8 (List.drop (0+cntN 1) xs)),numB (List.take (cntN 3) (List.drop (0+cntN 1+8) xs)),numB (List.take (cntN 2) (List.drop (0+cntN 1+8+cntN 3) xs)),numB (List.take (cntN 3) (List.drop (0+cntN 1+8+cntN 3+cntN 2) xs)),?_⟩;rw [e19];rfl
theorem ZgU :∀(n:Nat)(l:List It)(q:Nat)(r:List It × Nat),(∃ys:List Nat,l=ys.map numI)→tks xs (List.replicate n 4) l q=some r→∃ys:List Nat,r.1=ys.map numI
 | 0,l,q,r,hl,h=>by
  simp only [List.replicate_zero,tks,Option.some.injEq] at h
  rw [← h]
  exact hl
 | n+1,l,q,r,⟨ys,hl⟩,h=>by
  simp only [List.replicate_succ,tks] at h
  split at h
  · cases h
  · rename_i i m hi
    obtain⟨_,_,rfl,_⟩:=ZiY hi
    refine ZgU n _ _ r ⟨ys ++ [numB (((xs.drop q)).take 8)],?_⟩ h
    rw [hl]
    simp [numI]
theorem Zrl (ys:List Nat):(ys.map numI).map It.x=ys:=by
 rw [List.map_map];(have:(It.x ∘ numI)=id:=by funext x;rfl);rw [this,List.map_id]
theorem Zhd (hx:Bytes xs)(h:decB xs=some r):r.bytes=xs:=by
 unfold decB at h;split at h
 · cases h
 · rename_i l q h1;split at h
   · cases h
   · rename_i m q2 h2;split at h
     · cases h
     · rename_i hno;simp only [Option.some.injEq] at h;subst h;have ag:¬q+q2<xs.length:=fun h=>hno (.inl h);have af:¬1<(l.getD 0 itD).n:=fun h=>hno (.inr (.inl h));obtain⟨rfl,ae,n0,k,n2,n3,n4,rfl⟩:=ZeM hx h1;have aa:=Zfo hx headK [] 0 _ ZlT (Nat.zero_le _) (by simp [putB]) h1;have hb:Bytes (xs.drop 20):=fun x hh=>hx x (List.mem_of_mem_drop hh);have ab:=Zfo hb _ [] 0 _ (fun k hk=>by rw [(List.mem_replicate.1 hk).2];decide) (Nat.zero_le _) (by simp [putB]) h2;obtain⟨ys,ad⟩:=ZgU _ [] 0 _ ⟨[],rfl⟩ h2;have ac:m.length=xs.getD 19 0:=by
        have:=Zcr _ _ _ _ _ h2;simpa using this
       simp only at ad aa ab;subst ad;simp only [List.getD_cons_zero] at af;have hd:(if ((n0:Int) != 0)=true then (1:Int) else 0)=(n0:Int):=by
        (have:n0=0∨n0=1:=by omega);rcases this with rfl | rfl <;> rfl
       have e:(rowOf [⟨1,n0,0,noS⟩,⟨4,0,k,noS⟩,⟨3,n2,0,noS⟩,⟨2,n3,0,noS⟩,⟨3,n4,0,noS⟩,⟨1,(xs.getD 19 0:Nat),0,noS⟩] (ys.map numI)).items=[⟨1,n0,0,noS⟩,⟨4,0,k,noS⟩,⟨3,n2,0,noS⟩,⟨2,n3,0,noS⟩,⟨3,n4,0,noS⟩,⟨1,(xs.getD 19 0:Nat),0,noS⟩] ++ ys.map numI:=by
        rw [List.length_map] at ac;unfold Rw.items Rw.head rowOf;simp only [Zrl,ac];show [_,_,_,_,_,_] ++ _=_;congr 1;congr 1;show (⟨1,if ((n0:Int) != 0)=true then 1 else 0,0,noS⟩:It)=⟨1,n0,0,noS⟩;rw [hd]
       unfold Rw.bytes;rw [e,Zca,aa.1,ab.1,← List.take_add,List.take_of_length_le (by omega)]
def Zdt (l m:List It):Rw:=⟨(l.getD 1 itD).x,(l.getD 0 itD).n == 1,m.map It.x,(l.getD 2 itD).n,(l.getD 3 itD).n,(l.getD 4 itD).n⟩
theorem ZnC (hx:Bytes xs)(h:tks xs (headK ++ List.replicate (xs.getD 19 0) 4) [] 0=none):decB xs=none:=by
 rw [Zc4] at h;unfold decB;cases h1:tks xs headK [] 0 with
 | none=>rfl
 | some r =>
  obtain⟨l,q⟩:=r;rw [h1] at h;obtain⟨rfl,_,n0,k,n2,n3,n4,rfl⟩:=ZeM hx h1;simp only at h ⊢;have hs:=Zfp xs [⟨1,n0,0,noS⟩,⟨4,0,k,noS⟩,⟨3,n2,0,noS⟩,⟨2,n3,0,noS⟩,⟨3,n4,0,noS⟩,⟨1,(xs.getD 19 0:Nat),0,noS⟩] 20 (List.replicate (xs.getD 19 0) 4) [] 0;rw [List.append_nil,Nat.add_zero,h] at hs;have h2:tks (xs.drop 20) (List.replicate (xs.getD 19 0) 4) [] 0=none:=by
   cases h2:tks (xs.drop 20) (List.replicate (xs.getD 19 0) 4) [] 0 with
   | none=>rfl
   | some r=>rw [h2] at hs;cases hs
  have e:(((([⟨1,n0,0,noS⟩,⟨4,0,k,noS⟩,⟨3,n2,0,noS⟩,⟨2,n3,0,noS⟩,⟨3,n4,0,noS⟩,⟨1,(xs.getD 19 0:Nat),0,noS⟩]:List It).getD 5 itD).n).toNat)=xs.getD 19 0:=by
   show (((xs.getD 19 0:Nat):Int)).toNat=_;simp
  rw [e,h2]
theorem ZnD {xs:List Nat}(hx:Bytes xs){L:List It}{Q:Nat}(h:tks xs (headK ++ List.replicate (xs.getD 19 0) 4) [] 0=some (L,Q)) :
    L.length=6+xs.getD 19 0∧∃m,L.drop 6=m ∧
     ((Zdt L m).may=true→(Zdt L m).fits→(Zdt L m).bytes=xs→decB xs=some (Zdt L m)) ∧
     (¬((Zdt L m).may=true∧(Zdt L m).bytes=xs)→decB xs=none):=by
 have ab:=Zcr _ _ _ _ _ h;refine⟨by simp [headK] at ab ⊢;omega,_,rfl,fun hm hf hb=>?_,fun af=>?_⟩
 · have:=Zhc hm hf;rw [hb] at this;exact this
 · cases hd:decB xs with
   | none=>rfl
   | some r =>
    exfalso;apply af;have aa:=Zhd hx hd;rw [Zc4] at h;unfold decB at hd;cases h1:tks xs headK [] 0 with
    | none=>rw [h1] at h;cases h
    | some r1 =>
     obtain⟨l,q⟩:=r1;rw [h1] at h hd;obtain⟨rfl,_,n0,k,n2,n3,n4,rfl⟩:=ZeM hx h1;simp only at h hd;have hs:=Zfp xs [⟨1,n0,0,noS⟩,⟨4,0,k,noS⟩,⟨3,n2,0,noS⟩,⟨2,n3,0,noS⟩,⟨3,n4,0,noS⟩,⟨1,(xs.getD 19 0:Nat),0,noS⟩] 20 (List.replicate (xs.getD 19 0) 4) [] 0;rw [List.append_nil,Nat.add_zero,h] at hs;have e:(((([⟨1,n0,0,noS⟩,⟨4,0,k,noS⟩,⟨3,n2,0,noS⟩,⟨2,n3,0,noS⟩,⟨3,n4,0,noS⟩,⟨1,(xs.getD 19 0:Nat),0,noS⟩]:List It).getD 5 itD).n).toNat)=xs.getD 19 0:=by
      show (((xs.getD 19 0:Nat):Int)).toNat=_;simp
     rw [e] at hd;cases h2:tks (xs.drop 20) (List.replicate (xs.getD 19 0) 4) [] 0 with
     | none=>rw [h2] at hs;cases hs
     | some s =>
      obtain⟨m,q2⟩:=s;rw [h2] at hs hd;simp only [Option.map_some,Option.some.injEq,Prod.mk.injEq] at hs;obtain⟨rfl,rfl⟩:=hs;simp only at hd;split at hd
      · cases hd
      · rename_i hc;simp only [Option.some.injEq] at hd;have ag:¬(1:Int)<(n0:Int):=fun h=>hc (.inr (.inl h));have ac:(rowOf [⟨1,n0,0,noS⟩,⟨4,0,k,noS⟩,⟨3,n2,0,noS⟩,⟨2,n3,0,noS⟩,⟨3,n4,0,noS⟩,⟨1,(xs.getD 19 0:Nat),0,noS⟩] m).may=true:=by
         cases hm:(rowOf [⟨1,n0,0,noS⟩,⟨4,0,k,noS⟩,⟨3,n2,0,noS⟩,⟨2,n3,0,noS⟩,⟨3,n4,0,noS⟩,⟨1,(xs.getD 19 0:Nat),0,noS⟩] m).may
         · exact absurd (.inr (.inr hm)) hc
         · rfl
        have ad:Zdt ([⟨1,n0,0,noS⟩,⟨4,0,k,noS⟩,⟨3,n2,0,noS⟩,⟨2,n3,0,noS⟩,⟨3,n4,0,noS⟩,⟨1,(xs.getD 19 0:Nat),0,noS⟩] ++ m) ((([⟨1,n0,0,noS⟩,⟨4,0,k,noS⟩,⟨3,n2,0,noS⟩,⟨2,n3,0,noS⟩,⟨3,n4,0,noS⟩,⟨1,(xs.getD 19 0:Nat),0,noS⟩]:List It) ++ m).drop 6)=rowOf [⟨1,n0,0,noS⟩,⟨4,0,k,noS⟩,⟨3,n2,0,noS⟩,⟨2,n3,0,noS⟩,⟨3,n4,0,noS⟩,⟨1,(xs.getD 19 0:Nat),0,noS⟩] m:=by
         have ae:((n0:Int) == 1)=((n0:Int) != 0):=by
          (have:n0=0∨n0=1:=by omega);rcases this with rfl | rfl <;> rfl
         show (⟨k,(n0:Int) == 1,m.map It.x,n2,n3,n4⟩:Rw)=⟨k,(n0:Int) != 0,m.map It.x,n2,n3,n4⟩;rw [ae]
        rw [ad];exact⟨ac,by rw [hd];exact aa⟩
theorem ZiI {L:List It}(hl:∀i∈L,i.fits)(h6:6≤L.length):(Zdt L (L.drop 6)).fits:=by
 have g:∀j,j<6→(L.getD j itD).fits:=fun j hj=>by
  (have hj':j<L.length:=by omega);have:=hl _ (List.getElem_mem hj');simpa [List.getD,hj'] using this
 refine⟨(g 1 (by omega)).2.2.1,?_,(g 2 (by omega)).2.1,(g 3 (by omega)).2.1,(g 4 (by omega)).2.1⟩;intro x hx;obtain⟨i,hi,rfl⟩:=List.mem_map.1 hx;exact(hl i (List.mem_of_mem_drop hi)).2.2.1
end Go.Proofs.YtiecfcjlhldhdaaGreat
