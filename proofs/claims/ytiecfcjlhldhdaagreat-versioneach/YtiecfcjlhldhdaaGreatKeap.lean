/-
  Lemmas.
-/
import Derived.Test.YtiecfcjlhldhdaaGreatKeao
import Derived.Test.YtiecfcjlhldhdaaGreatKeaa
import Derived.Test.YtiecfcjlhldhdaaGreatKeam
import Derived.Laws.CopyOwn
namespace Go.Proofs.YtiecfcjlhldhdaaGreat
open Go.RowKit
set_option linter.unusedVariables false
set_option linter.unusedSimpArgs false
set_option maxRecDepth 100000
set_option maxHeartbeats 4000000
variable {w:World}{l m:List Int}{n g j:Nat}{x t:Int}{r:Rw}
structure Vw where
  self:Int
  next:Int
  act:List Int
abbrev MayV (v:Vw):Prop:=(0≤v.self∧v.self≤2147483647)∧(0≤v.next∧v.next≤2147483647)∧v.act.length≤64∧(∀i,i<v.act.length→1≤v.act.getD i 0∧v.act.getD i 0<v.next∧v.act.getD i 0≠v.self)∧∀i,i<v.act.length→0<i→v.act.getD (i-1) 0<v.act.getD i 0
def seesV (v:Vw) (x:Int):Bool:=(x == 0) || ((decide (0<x) && (x == v.self)) || (decide (0<x) && (decide (x<v.next) && !(v.act.contains x))))
def seesA (v:Vw) (x:Int):Bool:=decide (MayV v) && seesV v x
def atV:List Int→Int→Nat
  | [],_=>0
  | x :: r,t=>if x<t then atV r t+1 else 0
def insV (l:List Int) (t:Int):List Int:=l.take (atV l t) ++ t :: l.drop (atV l t)
theorem Zjo :x∈insV l t↔x=t∨x∈l:=by
 unfold insV;constructor
 · intro h;rcases List.mem_append.1 h with h | h
   · exact .inr (List.mem_of_mem_take h)
   · rcases List.mem_cons.1 h with h | h
     · exact .inl h
     · exact .inr (List.mem_of_mem_drop h)
 · intro h;rcases h with h | h
   · exact List.mem_append.2 (.inr (List.mem_cons.2 (.inl h)))
   · rw [← List.take_append_drop (atV l t) l] at h;rcases List.mem_append.1 h with h | h
     · exact List.mem_append.2 (.inl h)
     · exact List.mem_append.2 (.inr (List.mem_cons.2 (.inr h)))
def Up (l:List Int):Prop:=l.Pairwise (· < ·)
theorem Zhb {r:List Int}(h:x<t):insV (x :: r) t=x :: insV r t:=by
 unfold insV;simp [atV,h]
theorem Zha {r:List Int}(h:¬x<t):insV (x :: r) t=t :: x :: r:=by
 unfold insV;simp [atV,h]
theorem ZlM : ∀ {l : List Int} {t : Int}, Up l → ¬ t ∈ l → Up (insV l t)
 | [], t, _, _ => by simp [insV, atV, Up]
 | x :: r, t, h, hn => by
  have h1 := List.pairwise_cons.1 h
  by_cases hx : x < t
  · rw [Zhb hx]
    refine List.pairwise_cons.2 ⟨fun y hy => ?_, ZlM h1.2 (fun e => hn (List.mem_cons.2 (.inr e)))⟩
    rcases Zjo.1 hy with rfl | hy
    · exact hx
    · exact h1.1 y hy
  · rw [Zha hx]
    have hne : t ≠ x := fun e => hn (List.mem_cons.2 (.inl e))
    refine List.pairwise_cons.2 ⟨fun y hy => ?_, h⟩
    rcases List.mem_cons.1 hy with rfl | hy
    · omega
    · have := h1.1 y hy
      omega
theorem ZjA : ∀ {l m : List Int}, Up l → Up m → (∀ x, x ∈ l ↔ x ∈ m) → l = m
 | [], [], _, _, _ => rfl
 | [], y :: m, _, _, h => absurd ((h y).2 (List.mem_cons.2 (.inl rfl))) (by simp)
 | x :: l, [], _, _, h => absurd ((h x).1 (List.mem_cons.2 (.inl rfl))) (by simp)
 | x :: l, y :: m, hl, hm, h => by
  have h1 := List.pairwise_cons.1 hl
  have h2 := List.pairwise_cons.1 hm
  have e : x = y := by
   rcases List.mem_cons.1 ((h x).1 (List.mem_cons.2 (.inl rfl))) with e | e
   · exact e
   · rcases List.mem_cons.1 ((h y).2 (List.mem_cons.2 (.inl rfl))) with e2 | e2
     · exact e2.symm
     · have a := h1.1 y e2
       have b := h2.1 x e
       omega
  subst e
  congr 1
  refine ZjA h1.2 h2.2 (fun z => ?_)
  constructor
  · intro hz
    rcases List.mem_cons.1 ((h z).1 (List.mem_cons.2 (.inr hz))) with e | e
    · have := h1.1 z hz
      omega
    · exact e
  · intro hz
    rcases List.mem_cons.1 ((h z).2 (List.mem_cons.2 (.inr hz))) with e | e
    · have := h2.1 z hz
      omega
    · exact e
def addN (l:List Int) (t:Int):List Int:=if t∈l then l else insV l t
theorem ZmZ :x∈addN l t↔x=t∨x∈l:=by
 unfold addN;split
 · rename_i h;constructor
   · exact .inr
   · rintro (rfl | e)
     · exact h
     · exact e
 · exact Zjo
theorem ZoI (h : Up l) (t : Int) : Up (addN l t) := by
 unfold addN
 split
 · exact h
 · rename_i hn
   exact ZlM h hn
theorem Zg6 :∀(m l:List Int),x∈m.foldl addN l↔x∈m∨x∈l
 | [],l=>by simp
 | t :: m,l=>by
  rw [List.foldl_cons,Zg6 m,ZmZ,List.mem_cons]
  constructor
  · rintro (e | e | e)
    · exact .inl (.inr e)
    · exact .inl (.inl e)
    · exact .inr e
  · rintro ((e | e) | e)
    · exact .inr (.inl e)
    · exact .inl e
    · exact .inr (.inr e)
theorem ZiP : ∀ (m : List Int) {l : List Int}, Up l → Up (m.foldl addN l)
 | [], _, h => h
 | t :: m, l, h => by rw [List.foldl_cons]; exact ZiP m (ZoI h t)
def allN (m:List Int):List Int:=m.foldl addN []
theorem ZiR :x∈allN m↔x∈m:=by unfold allN;rw [Zg6];simp
theorem Zli (m:List Int):Up (allN m):=ZiP m List.Pairwise.nil
theorem Zlh {m l : List Int} (hu : Up l) (h : ∀ x, x ∈ l ↔ x ∈ m) : l = allN m := ZjA hu (Zli m) (fun x => by rw [h x, ZiR])
section
variable {α : Type}
theorem Vn.look_code (V:Vn α):∀(n:Nat)(r:α),(V.look n r).2.2=0∨(V.look n r).2.2=13
 | n,r=>by
  cases hs:V.see r with
  | true=>rw [V.look_seen n hs];exact .inl rfl
  | false =>
   cases n with
   | zero=>rw [V.look_end hs];exact .inr rfl
   | succ n =>
    cases hn:V.nx r with
    | none=>rw [V.look_old (n+1) hs hn];exact .inr rfl
    | some o =>
     cases o with
     | none=>rw [V.look_new n hs hn];exact .inl rfl
     | some q=>rw [V.look_next n hs hn];exact V.look_code n q
def Vn.rows (V:Vn α) (l:List α):List α:=l.filterMap fun r=>(V.look 400 r).1
def Vn.whos (V:Vn α) (l:List α):List Int:=l.flatMap fun r=>(V.look 400 r).2.1
def Vn.code (V:Vn α) (l:List α):Int:=if l.all (fun r=>(V.look 400 r).2.2 == 0)=true then 0 else 13
def Vn.scan (V:Vn α) (l:List α):List α × List Int × Int:=(if V.code l=0 then V.rows l else [],allN (V.whos l),V.code l)
theorem Vn.rows_take (V:Vn α){l:List α}{i:Nat}(h:i<l.length):V.rows (l.take (i+1))=V.rows (l.take i) ++ (V.look 400 l[i]).1.toList:=by
 unfold Vn.rows;rw [List.take_succ_eq_append_getElem h,List.filterMap_append];cases e:(V.look 400 l[i]).1 <;> simp [e]
theorem Vn.code_take (V:Vn α){l:List α}{i:Nat}(h:i<l.length):V.code (l.take (i+1))=if (V.look 400 l[i]).2.2=0 then V.code (l.take i) else 13:=by
 unfold Vn.code;rw [List.take_succ_eq_append_getElem h,List.all_append];by_cases e:(V.look 400 l[i]).2.2=0
 · simp [e]
 · simp [e]
theorem Vn.code_two (V:Vn α)(l:List α):V.code l=0∨V.code l=13:=by
 unfold Vn.code;split
 · exact .inl rfl
 · exact .inr rfl
theorem Vn.code_old (V:Vn α)(l:List α):V.code l=13↔∃r∈l,(V.look 400 r).2.2=13:=by
 unfold Vn.code;by_cases h:l.all (fun r=>(V.look 400 r).2.2 == 0)=true
 · rw [if_pos h];constructor
   · intro e;cases e
   · rintro ⟨r,hr,e⟩;have:=List.all_eq_true.1 h r hr;rw [e] at this;cases this
 · rw [if_neg h];refine⟨fun _=>?_,fun _=>rfl⟩;(have h2:l.all (fun r=>(V.look 400 r).2.2 == 0)=false:=by simpa using h);obtain⟨r,hr,e⟩:=List.all_eq_false.1 h2;refine⟨r,hr,?_⟩;rcases V.look_code 400 r with e2 | e2
   · rw [e2] at e;exact absurd rfl e
   · exact e2
end
def headK:List Int:=[1,4,3,2,3,1]
def numI (x:Nat):It:=⟨4,0,x,noS⟩
def Rw.head (r:Rw):List It:=[⟨1,if r.dead then 1 else 0,0,noS⟩,⟨4,0,r.key,noS⟩,⟨3,r.wr,0,noS⟩,⟨2,r.cell,0,noS⟩,⟨3,r.no,0,noS⟩,⟨1,r.xs.length,0,noS⟩]
def Rw.items (r:Rw):List It:=r.head ++ r.xs.map numI
theorem Zqp {p:Nat}{ks:List Int}{fr:Nat × Nat}(h:w.heap[p]? = some (Obj.cells (kVals ks).toArray 3 fr)):Ks w (some ⟨p,0,none⟩) ks.length ks:=by
 refine⟨rfl,fun j hj=>⟨p,0,rfl,?_⟩⟩;rw [Nat.zero_add];simp only [World.cell?,h];simp [kVals,List.getD,hj]
theorem Zge (w:World):Calls Tryz.prog 186 #[] w fun e w'=>e=.returned (.slice (some ⟨w.heap.size,0,none⟩) 6 6)∧w'.heap[w.heap.size]? = some (Obj.cells (kVals headK).toArray 3 (0,0))∧Below w.heap.size w w':=by
 have HK:=hide (heap_alloc_new w (.cells (kVals headK).toArray 3));have HW:=hide (Zaa w (.cells #[.int .i64 1,.int .i64 4,.int .i64 3,.int .i64 2,.int .i64 3,.int .i64 1] 3));go_enter Tryz.func186,Tryz.ntmps186;go_wp2_with fail;go_ret;exact⟨rfl,HK.out,HW.out⟩
theorem RwBlk.stayI {w':World}{p:Nat}{c:Value}(h:RwBlk w p r c)(hs:Ze0 w w'):RwBlk w' p r c:=(hs p _ _ _ h (by decide)).trans h
theorem Zgs (x:Nat)(hx:x<18446744073709551616):(numI x).fits:=⟨ZaC (n:=4) (by decide) (by decide),ZaC (n:=0) (by decide) (by decide),hx,Nat.zero_le _⟩
def Rw.bytes (r:Rw):List Nat:=putB r.items
theorem Rw.may_parts (h:r.may=true):r.key=Fl.key r.key∧r.xs.length≤4∧(r.dead=true→r.xs=[])∧(∀x∈r.xs,x=Fl.val x)∧(0≤r.wr∧r.wr<2147483648)∧(0≤r.cell∧r.cell<65536)∧(0≤r.no∧r.no<2147483648)∧(0<r.cell∨r.no=0):=by
 rw [Zmb] at h;unfold haveB at h;simp at h;obtain⟨⟨h1,⟨h2,h3⟩,h4⟩,⟨⟨⟨⟨⟨h5,h6⟩,h7⟩,h8⟩,h9⟩,aa⟩,ab⟩:=h;refine⟨h1,h2,fun hd=>?_,h4,⟨h5,h6⟩,⟨h7,h8⟩,⟨h9,aa⟩,ab⟩;rcases h3 with h3 | h3
 · rw [h3] at hd;cases hd
 · exact h3
theorem Zpt (x:Nat):(numI x).may=true:=by simp [numI,It.may,Zer]
theorem Zdf (h:r.may=true):r.items.all It.may=true:=by
 obtain⟨_,h2,_,_,h5,h7,h9,_⟩:=Rw.may_parts h;unfold Rw.items Rw.head;rw [List.all_append];have e:(r.xs.map numI).all It.may=true:=by
  rw [List.all_eq_true];intro i hi;obtain⟨x,_,rfl⟩:=List.mem_map.1 hi;exact Zpt x
 rw [e];simp [It.may,Zer,h5.1,h5.2,h7.1,h7.2,h9.1,h9.2];refine⟨?_,by omega⟩;cases r.dead <;> simp
theorem Zd8 (hf:r.fits)(h4:r.xs.length≤4):∀i∈r.items,i.fits:=by
 have f0:(Lit.int .i64 0).wf=true:=ZaC (n:=0) (by decide) (by decide);have f1:(Lit.int .i64 1).wf=true:=ZaC (n:=1) (by decide) (by decide);have f2:(Lit.int .i64 2).wf=true:=ZaC (n:=2) (by decide) (by decide);have f3:(Lit.int .i64 3).wf=true:=ZaC (n:=3) (by decide) (by decide);have f4:(Lit.int .i64 4).wf=true:=ZaC (n:=4) (by decide) (by decide);(have g0:(0:Nat)<18446744073709551616:=by decide);have s0:noS.size≤maxLen:=Nat.zero_le _;intro i hi;unfold Rw.items Rw.head at hi;simp only [List.mem_append,List.mem_cons,List.not_mem_nil,or_false] at hi;rcases hi with (rfl | rfl | rfl | rfl | rfl | rfl) | hi
 · refine⟨f1,?_,g0,s0⟩;cases r.dead
   · exact f0
   · exact f1
 · exact⟨f4,f0,hf.key,s0⟩
 · exact⟨f3,hf.wr,g0,s0⟩
 · exact⟨f2,hf.cell,g0,s0⟩
 · exact⟨f3,hf.no,g0,s0⟩
 · exact⟨f1,ZaC (n:=(r.xs.length:Nat)) (by omega) (by omega),g0,s0⟩
 · obtain⟨x,hx,rfl⟩:=List.mem_map.1 hi;exact Zgs x (hf.xs x hx)
theorem Zhc (r:Rw):r.items.length=6+r.xs.length:=by simp [Rw.items,Rw.head];omega
theorem Zjv:∀xs:List Nat,(putB (xs.map numI)).length=8*xs.length
 | []=>rfl
 | x :: r=>by
  have:=Zjv r
  simp only [putB,List.map_cons,List.flatMap_cons,List.length_append,List.length_cons] at *
  rw [this]
  simp [numI,It.bytes,Zak]
  omega
theorem ZbZ (r:Rw):r.bytes.length=20+8*r.xs.length:=by
 unfold Rw.bytes Rw.items;(have e:putB (r.head ++ r.xs.map numI)=putB r.head ++ putB (r.xs.map numI):=by simp [putB]);rw [e,List.length_append,Zjv];simp [putB,Rw.head,It.bytes,Zak]
theorem OwnsI.lit (w:World)(base:Nat)(l:List It)(hb:base≤w.heap.size)(hm:l.length≤1000000):OwnsI (w.alloc (.cells (ZaL l).toArray 182)) base (.slice (some ⟨w.heap.size,0,none⟩) l.length l.length) l:=by
 have:=World.ownsRow_lit (base:=base) (e:=182) (size:=4) w (ZaL l).toArray l.length hb (by unfold maxLen;omega) (by simp [Zbk]);simpa [OwnsI] using this
theorem ZbL (h:r.may=true):Bytes r.bytes:=(Zj1 (List.all_eq_true.1 (Zdf h))).2
theorem Zcf (r:Rw)(a:Option Addr)(len cap:Nat)(w:World)(h:Fs w a len cap r.xs)(hf:r.fits)(hm:r.may=true) :
    Calls Tryz.prog 102 #[r.val (.slice a len cap)] w fun e w'=>∃v,e=.returned v∧Owns w' w.heap.size v r.bytes∧Below w.heap.size w w':=by
  (have h4:len≤4:=by have:=(Rw.may_parts hm).2.1;rw [h.len] at this;exact this);have HM:=hide hm;have HF:=hide hf;obtain⟨key,dead,xs,wt,cell,no⟩:=r;have H:=hide h;have HL:=hide h.len;have HX:=hide (Zai w ⟨key,dead,xs,wt,cell,no⟩ (.slice a len cap));clear h hf hm;simp only at HX HL H;unfold Rw.val;simp only;cases dead
  · have ag:=hide (OwnsI.lit (w.alloc (.cells #[.float .f64 key,.bool false,.slice a len cap,.int .i64 wt,.int .i64 cell,.int .i64 no] 39)) w.heap.size [⟨1,0,0,noS⟩,⟨4,0,key,noS⟩,⟨3,wt,0,noS⟩,⟨2,cell,0,noS⟩,⟨3,no,0,noS⟩,⟨1,(len:Nat),0,noS⟩] (by simp) (by simp));have bd:=hide (ZaE w (.cells #[.float .f64 key,.bool false,.slice a len cap,.int .i64 wt,.int .i64 cell,.int .i64 no] 39) (.cells (ZaL [⟨1,0,0,noS⟩,⟨4,0,key,noS⟩,⟨3,wt,0,noS⟩,⟨2,cell,0,noS⟩,⟨3,no,0,noS⟩,⟨1,(len:Nat),0,noS⟩]).toArray 182));have bg:=hide (HX.out.keep (Zaa (w.alloc (.cells #[.float .f64 key,.bool false,.slice a len cap,.int .i64 wt,.int .i64 cell,.int .i64 no] 39)) (.cells (ZaL [⟨1,0,0,noS⟩,⟨4,0,key,noS⟩,⟨3,wt,0,noS⟩,⟨2,cell,0,noS⟩,⟨3,no,0,noS⟩,⟨1,(len:Nat),0,noS⟩]).toArray 182)));(have aw:(w.alloc (.cells #[.float .f64 key,.bool false,.slice a len cap,.int .i64 wt,.int .i64 cell,.int .i64 no] 39)).heap.size=w.heap.size+1:=by simp);rw [aw] at ag;clear aw HX;go_enter Tryz.func102,Tryz.ntmps102;go_wp2_with fail;go_loopw [4,5] (fun v i wr'=>∃k:Nat,k≤len∧i=.int .i64 k∧Hid (OwnsI wr' w.heap.size v ([⟨1,0,0,noS⟩,⟨4,0,key,noS⟩,⟨3,wt,0,noS⟩,⟨2,cell,0,noS⟩,⟨3,no,0,noS⟩,⟨1,(len:Nat),0,noS⟩] ++ (xs.map numI).take k))∧Hid (Below w.heap.size w wr')∧Hid (RwBlk wr' w.heap.size ⟨key,false,xs,wt,cell,no⟩ (.slice a len cap))) (fun _ i _=>len-(intOf i).toNat)
    case atStart=>exact ⟨0,by omega,rfl,ag,bd,bg⟩
    case round =>
     obtain⟨k,hk,rfl,aa,ad,al⟩:=hrel;have x2:=al.out.c2;rcases Nat.lt_or_ge k len with ao | bh
     · obtain⟨b,off,rfl,hc,ac,hx⟩:=(H.out.keep ad.out (Nat.le_refl _)).at k ao;obtain⟨x,af⟩:∃x,x=xs.getD k 0:=⟨_,rfl⟩;rw [← af] at hc ac hx;have bf:=hide af;have ah:=hide (aa.out.keep (Zaa wr (.cells #[.int .i64 4,.int .i64 0,.float .f64 x,.string ⟨#[]⟩] 182)) (Nat.le_refl _));have aj:=hide (Zac ad.out (Zaa wr (.cells #[.int .i64 4,.int .i64 0,.float .f64 x,.string ⟨#[]⟩] 182)));have ak:=hide (al.out.keep (Zaa wr (.cells #[.int .i64 4,.int .i64 0,.float .f64 x,.string ⟨#[]⟩] 182)));have HI:=hide (Zde wr (numI x) (Zgs x hx));unfold numI noS at HI;simp only at HI;(have ab:Hid ((([⟨1,0,0,noS⟩,⟨4,0,key,noS⟩,⟨3,wt,0,noS⟩,⟨2,cell,0,noS⟩,⟨3,no,0,noS⟩,⟨1,(len:Nat),0,noS⟩]:List It) ++ (xs.map numI).take k).length+1≤1000000):=by show _≤_;simp;omega);clear af ac hx;go_wp2_with (at_builtin;refine Zav _ rfl (.tmp 38) (.tmp 45) rfl w.heap.size _ _ rfl ah.out _ _ _ _ rfl HI.out (fun h=>by cases h) ab.out aj.out.size ?_);intro v7 w7 aq am av;have az:=hide aq;have bb:=hide (aj.out.trans am);have be:=hide (ak.out.stayI av);clear aq am av ah HI ab ak x2;go_wp2;go_roundw
       case rel =>
        (have hk':k<xs.length:=by rw [HL.out];exact ao);refine⟨k+1,by omega,by go_num,?_,bb,be⟩;have e:(xs.map numI).take (k+1)=(xs.map numI).take k ++ [⟨4,0,x,⟨#[]⟩⟩]:=by
         rw [List.take_succ_eq_append_getElem (by simpa using hk'),bf.out];simp [numI,noS,List.getD,hk']
        rw [e,← List.append_assoc];exact az
       case measure=>simp only [intOf];omega
     · have ax:(xs.map numI).take k=xs.map numI:=List.take_of_length_le (by rw [List.length_map,HL.out];omega);rw [ax] at aa;have au:OwnsI wr w.heap.size u4 (Rw.items ⟨key,false,xs,wt,cell,no⟩):=by
        have e:Rw.items ⟨key,false,xs,wt,cell,no⟩=[⟨1,0,0,noS⟩,⟨4,0,key,noS⟩,⟨3,wt,0,noS⟩,⟨2,cell,0,noS⟩,⟨3,no,0,noS⟩,⟨1,(len:Nat),0,noS⟩] ++ xs.map numI:=by
         unfold Rw.items Rw.head;simp only [HL.out];rfl
        rw [e];exact aa.out
       obtain⟨a2,c2,ay,is2,_⟩:=au.is (Zd8 HF.out (by show xs.length≤4;rw [HL.out];exact h4));have ae:(Rw.items ⟨key,false,xs,wt,cell,no⟩).length=6+xs.length:=Zhc _;obtain⟨n2,ap⟩:∃n,(Rw.items ⟨key,false,xs,wt,cell,no⟩).length=n:=⟨_,rfl⟩;rw [ap] at ay is2 ae;subst ay;have ai:=hide (ZfB a2 n2 c2 _ wr is2 (by rw [HL.out] at ae;omega));rw [Zdf HM.out] at ai;clear ax aa au is2 ae ap;go_wp2_with fail;refine ai.out.mono ?_;rintro e w8 ⟨v8,rfl,an,ar,_⟩;have bc:=hide (Zac ad.out an);have ba:=hide ((ar (by trivial)).lower ad.out.size);clear an ar x2;go_wp2_with fail;go_ret;exact⟨_,rfl,ba.out,bc.out⟩
  · have ag:=hide (OwnsI.lit (w.alloc (.cells #[.float .f64 key,.bool true,.slice a len cap,.int .i64 wt,.int .i64 cell,.int .i64 no] 39)) w.heap.size [⟨1,1,0,noS⟩,⟨4,0,key,noS⟩,⟨3,wt,0,noS⟩,⟨2,cell,0,noS⟩,⟨3,no,0,noS⟩,⟨1,(len:Nat),0,noS⟩] (by simp) (by simp));have bd:=hide (ZaE w (.cells #[.float .f64 key,.bool true,.slice a len cap,.int .i64 wt,.int .i64 cell,.int .i64 no] 39) (.cells (ZaL [⟨1,1,0,noS⟩,⟨4,0,key,noS⟩,⟨3,wt,0,noS⟩,⟨2,cell,0,noS⟩,⟨3,no,0,noS⟩,⟨1,(len:Nat),0,noS⟩]).toArray 182));have bg:=hide (HX.out.keep (Zaa (w.alloc (.cells #[.float .f64 key,.bool true,.slice a len cap,.int .i64 wt,.int .i64 cell,.int .i64 no] 39)) (.cells (ZaL [⟨1,1,0,noS⟩,⟨4,0,key,noS⟩,⟨3,wt,0,noS⟩,⟨2,cell,0,noS⟩,⟨3,no,0,noS⟩,⟨1,(len:Nat),0,noS⟩]).toArray 182)));(have aw:(w.alloc (.cells #[.float .f64 key,.bool true,.slice a len cap,.int .i64 wt,.int .i64 cell,.int .i64 no] 39)).heap.size=w.heap.size+1:=by simp);rw [aw] at ag;clear aw HX;go_enter Tryz.func102,Tryz.ntmps102;go_wp2_with fail;go_loopw [4,5] (fun v i wr'=>∃k:Nat,k≤len∧i=.int .i64 k∧Hid (OwnsI wr' w.heap.size v ([⟨1,1,0,noS⟩,⟨4,0,key,noS⟩,⟨3,wt,0,noS⟩,⟨2,cell,0,noS⟩,⟨3,no,0,noS⟩,⟨1,(len:Nat),0,noS⟩] ++ (xs.map numI).take k))∧Hid (Below w.heap.size w wr')∧Hid (RwBlk wr' w.heap.size ⟨key,true,xs,wt,cell,no⟩ (.slice a len cap))) (fun _ i _=>len-(intOf i).toNat)
    case atStart=>exact ⟨0,by omega,rfl,ag,bd,bg⟩
    case round =>
     obtain⟨k,hk,rfl,aa,ad,al⟩:=hrel;have x2:=al.out.c2;rcases Nat.lt_or_ge k len with ao | bh
     · obtain⟨b,off,rfl,hc,ac,hx⟩:=(H.out.keep ad.out (Nat.le_refl _)).at k ao;obtain⟨x,af⟩:∃x,x=xs.getD k 0:=⟨_,rfl⟩;rw [← af] at hc ac hx;have bf:=hide af;have ah:=hide (aa.out.keep (Zaa wr (.cells #[.int .i64 4,.int .i64 0,.float .f64 x,.string ⟨#[]⟩] 182)) (Nat.le_refl _));have aj:=hide (Zac ad.out (Zaa wr (.cells #[.int .i64 4,.int .i64 0,.float .f64 x,.string ⟨#[]⟩] 182)));have ak:=hide (al.out.keep (Zaa wr (.cells #[.int .i64 4,.int .i64 0,.float .f64 x,.string ⟨#[]⟩] 182)));have HI:=hide (Zde wr (numI x) (Zgs x hx));unfold numI noS at HI;simp only at HI;(have ab:Hid ((([⟨1,1,0,noS⟩,⟨4,0,key,noS⟩,⟨3,wt,0,noS⟩,⟨2,cell,0,noS⟩,⟨3,no,0,noS⟩,⟨1,(len:Nat),0,noS⟩]:List It) ++ (xs.map numI).take k).length+1≤1000000):=by show _≤_;simp;omega);clear af ac hx;go_wp2_with (at_builtin;refine Zav _ rfl (.tmp 38) (.tmp 45) rfl w.heap.size _ _ rfl ah.out _ _ _ _ rfl HI.out (fun h=>by cases h) ab.out aj.out.size ?_);intro v7 w7 aq am av;have az:=hide aq;have bb:=hide (aj.out.trans am);have be:=hide (ak.out.stayI av);clear aq am av ah HI ab ak x2;go_wp2;go_roundw
       case rel =>
        (have hk':k<xs.length:=by rw [HL.out];exact ao);refine⟨k+1,by omega,by go_num,?_,bb,be⟩;have e:(xs.map numI).take (k+1)=(xs.map numI).take k ++ [⟨4,0,x,⟨#[]⟩⟩]:=by
         rw [List.take_succ_eq_append_getElem (by simpa using hk'),bf.out];simp [numI,noS,List.getD,hk']
        rw [e,← List.append_assoc];exact az
       case measure=>simp only [intOf];omega
     · have ax:(xs.map numI).take k=xs.map numI:=List.take_of_length_le (by rw [List.length_map,HL.out];omega);rw [ax] at aa;have au:OwnsI wr w.heap.size u4 (Rw.items ⟨key,true,xs,wt,cell,no⟩):=by
        have e:Rw.items ⟨key,true,xs,wt,cell,no⟩=[⟨1,1,0,noS⟩,⟨4,0,key,noS⟩,⟨3,wt,0,noS⟩,⟨2,cell,0,noS⟩,⟨3,no,0,noS⟩,⟨1,(len:Nat),0,noS⟩] ++ xs.map numI:=by
         unfold Rw.items Rw.head;simp only [HL.out];rfl
        rw [e];exact aa.out
       obtain⟨a2,c2,ay,is2,_⟩:=au.is (Zd8 HF.out (by show xs.length≤4;rw [HL.out];exact h4));have ae:(Rw.items ⟨key,true,xs,wt,cell,no⟩).length=6+xs.length:=Zhc _;obtain⟨n2,ap⟩:∃n,(Rw.items ⟨key,true,xs,wt,cell,no⟩).length=n:=⟨_,rfl⟩;rw [ap] at ay is2 ae;subst ay;have ai:=hide (ZfB a2 n2 c2 _ wr is2 (by rw [HL.out] at ae;omega));rw [Zdf HM.out] at ai;clear ax aa au is2 ae ap;go_wp2_with fail;refine ai.out.mono ?_;rintro e w8 ⟨v8,rfl,an,ar,_⟩;have bc:=hide (Zac ad.out an);have ba:=hide ((ar (by trivial)).lower ad.out.size);clear an ar x2;go_wp2_with fail;go_ret;exact⟨_,rfl,ba.out,bc.out⟩
theorem Pl.copyV {P:Program}{ops:Array Oper}{f:Nat→Value}(i:Nat)(t:TypeId)(x y:Operand)(v:Value)(w':World)(h:(Pl.op ops i).op=.call { callee:=.builtin .copy,args:=#[x,y],argTypes:=#[t,t] })(hx:Pl.inB n x=true)(hy:Pl.inB n y=true)
    (hv:∀ty,(Builtin.copy_ #[t,t] ty #[Pl.ev f x,Pl.ev f y]).run P w=.ok v w') :
    ∀A,Pl.At n A f→(execOp A.eval (Pl.op ops i)).run P w=.ok (.value v) w':=by
  intro A hA;unfold execOp;rw [h];simp [resolve,invoke,builtin,hA.ev x hx,hA.ev y hy,hv]
theorem szI (w:World):(sizeOf 3).run Tryz.prog w=.ok 1 w:=by
 obtain⟨i0,hi,ab,aa,ac⟩:=info_parts Zjy.info;simp [sizeOf,typeInfo,hi,aa]
theorem ZpX:Tryz.prog.elem 29=3:=by kernel_rfl
theorem Zi5 (a:Option Addr)(len cap k:Nat)(hk:k≤len)(w:World):(Instr.sliceAt 29 (.slice a len cap) (some (.int .i64 (k:Nat))) none none).run Tryz.prog w=.ok (.slice (fromA a cap k) (len-k) (cap-k)) w:=by
 (have aa:Tryz.prog.underlying 29=some (.slice (Tryz.prog.elem 29)):=by kernel_rfl);rw [run_sliceAt_slice w 29 _ _ _ _ aa,run_slice_l w 29 a len cap aa .i64 (k:Nat) (by omega) (by omega),ZpX,szI];simp [Result.andThen,sliced,fromA]
theorem Zi9 (a:Option Addr)(len cap k:Nat)(hk:k≤cap)(w:World):(Instr.sliceAt 29 (.slice a len cap) none (some (.int .i64 (k:Nat))) none).run Tryz.prog w=.ok (.slice (fromA a cap 0) k cap) w:=by
 (have aa:Tryz.prog.underlying 29=some (.slice (Tryz.prog.elem 29)):=by kernel_rfl);rw [run_sliceAt_slice w 29 _ _ _ _ aa,run_slice_h w 29 a len cap aa .i64 (k:Nat) (by omega) (by omega),ZpX,szI];simp [Result.andThen,sliced,fromA]
theorem ZoJ:∀n:Fin 256,bits .and .u64 (n.val:Int) 4294967295=(n.val:Int):=by decide +kernel
theorem Zmc (n:Nat)(hn:n≤255)(w:World):Calls Tryz.prog 216 #[.int .u64 1,.int .u64 (n:Nat)] w fun e w'=>e=.returned (.tuple #[.int .u64 0,.int .u64 (n:Nat)])∧w'=w:=by
 (have ab:bits .and .u64 1 4294967295=1:=by decide +kernel);(have aa:bits .and .u64 0 4294967295=0:=by decide +kernel);have ac:bits .and .u64 (n:Int) 4294967295=(n:Int):=ZoJ ⟨n,by omega⟩;(have hd:(n:Int) / 4294967296=0:=by omega);(have hw:IntKind.u64.wrap (n:Int)=(n:Int):=by rw [IntKind.wrap_u64];omega);(have h0:IntKind.u64.wrap 0=0:=by decide);clear hn;go_enter Tryz.func216,Tryz.ntmps216;go_wp2_with fail;go_ret2;exact⟨by simp,rfl⟩
theorem mul_one (n:Nat)(hn:n≤255)(w:World):Calls Tryz.prog 211 #[.int .u64 1,.int .u64 (n:Nat)] w fun e w'=>e=.returned (.tuple #[.int .u64 0,.int .u64 (n:Nat)])∧w'=w:=by
 have H:=hide (Zmc n hn);go_enter Tryz.func211,Tryz.ntmps211;go_wp2_with fail;refine(H.out _).mono ?_;rintro e w' ⟨rfl,hw⟩;obtain rfl:=hw.symm;go_wp2_with fail;go_ret2;exact⟨rfl,rfl⟩
def fours (n:Nat):List Value:=kVals (List.replicate n 4)
def noughts (n:Nat):List Value:=kVals (List.replicate n 0)
theorem Zap (n:Nat):(fours n).length=n:=by simp [fours,kVals]
theorem Zip (n:Nat):(noughts n).length=n:=by simp [noughts,kVals]
theorem Ze9 (n:Nat):∀u∈fours n,u.oneCell'=true:=Zhf _
theorem ZgV {v:Value}(h:(fours n)[j]? = some v):j<n∧v=.int .i64 4:=by
 have hl:=(List.getElem?_eq_some_iff.1 h).1;rw [Zap] at hl;simp [fours,kVals,hl] at h;exact⟨hl,h.symm⟩
def partly (n m:Nat):List Value:=fours m ++ noughts (n-m)
theorem Zf3 {m:Nat}(h:m≤n):(partly n m).length=n:=by
 simp [partly,Zap,Zip];omega
theorem ZkC {m:Nat}(h:j<m):(partly n m)[j]? = some (.int .i64 4):=by
 unfold partly;rw [List.getElem?_append_left (by rw [Zap];exact h)];simp [fours,kVals,h]
theorem ZeM (n m c:Nat):(partly n m).take m ++ fours c ++ (partly n m).drop (m+c)=partly n (m+c):=by
 have e1:(partly n m).take m=fours m:=by
  unfold partly;rw [List.take_append_of_le_length (by rw [Zap];exact Nat.le_refl _),List.take_of_length_le (by rw [Zap];exact Nat.le_refl _)]
 have e2:(partly n m).drop (m+c)=noughts (n-(m+c)):=by
  unfold partly;rw [List.drop_append,Zap,List.drop_eq_nil_of_le (by rw [Zap];omega)];(have e3:m+c-m=c:=by omega);rw [e3,List.nil_append];unfold noughts kVals;rw [← List.map_drop,List.drop_replicate];congr 2;omega
 rw [e1,e2];unfold partly fours kVals;rw [← List.map_append,List.replicate_append_replicate]
theorem Zis {m:Nat}(h:w.heap[g]? = some (Obj.cells (partly n m).toArray 3 (0,0)))(hj:j<m):w.cell? ⟨g,j,none⟩=some (.int .i64 4):=by
 simp only [World.cell?,h];simpa using ZkC (n:=n) hj
theorem Zi4 (g n m:Nat)(h:m<n)(w:World):(Instr.sliceAt 29 (.slice (some ⟨g,0,none⟩) n n) (some (.int .i64 (m:Nat))) none none).run Tryz.prog w=.ok (.slice (some ⟨g,m,none⟩) (n-m) (n-m)) w:=by
 rw [Zi5 _ n n m (by omega)];unfold fromA;rw [if_neg (by omega)];simp [Addr.add_lit]
theorem Zi8 (g n m:Nat)(h:m<n)(w:World):(Instr.sliceAt 29 (.slice (some ⟨g,0,none⟩) n n) none (some (.int .i64 (m:Nat))) none).run Tryz.prog w=.ok (.slice (some ⟨g,0,none⟩) m n) w:=by
 rw [Zi9 _ n n m (by omega)];unfold fromA;rw [if_neg (by omega)];simp [Addr.add_lit]
theorem Zlr (g n m:Nat)(hm:m<n)(w:World)(hg:w.heap[g]? = some (Obj.cells (partly n m).toArray 3 (0,0)))(ty:TypeId) :
    (Builtin.copy_ #[29,29] ty #[.slice (some ⟨g,m,none⟩) (n-m) (n-m),.slice (some ⟨g,0,none⟩) m n]).run Tryz.prog w=.ok (.int .i64 ((Nat.min m (n-m):Nat):Int)) (w.setRow g (partly n (m+Nat.min m (n-m))).toArray):=by
  have hc:Nat.min m (n-m)≤m∧Nat.min m (n-m)≤n-m:=⟨Nat.min_le_left _ _,Nat.min_le_right _ _⟩;generalize aa:Nat.min m (n-m)=c at *;have h:=run_copy_row (P:=Tryz.prog) w 29 29 ty 3 g m (n-m) (n-m) ⟨g,0,none⟩ m n (partly n m).toArray 3 (fours c) Tryz.underlying29 (by kernel_rfl) hg (by rw [Zap,aa])
   (fun j v hj=>by
    obtain⟨h1,rfl⟩:=ZgV hj;rw [Addr.add_lit,Nat.zero_add];exact Zis hg (by omega)) (by rw [Zap];simp [Zf3 (Nat.le_of_lt hm)];omega) (Ze9 c)
  rw [h,Zap];rw [ZeM n m c];rfl
theorem Zm6 {cur:Array Value}{t:TypeId}(h:w.heap[g]? = some (Obj.cells cur t (0,0)))(new:Array Value):(w.setRow g new).heap[g]? = some (Obj.cells new t (0,0)):=setRow_heap w g _ _ t _ h
theorem rep9 (w0 w:World)(g n m:Nat)(hm:m<n)(hn:n≤1000000)(hB:w0.heap.size≤g)(hg:w.heap[g]? = some (Obj.cells (partly n m).toArray 3 (0,0)))(hW:Below w0.heap.size w0 w)
    {Q:Exit→Act→World→Prop}{A:Act}(hsz:A.tmps.size=48)(hdf:A.defers=[])(s7:A.tmps.getD 7 undef=.slice (some ⟨g,0,none⟩) n n)(s8:A.tmps.getD 8 undef=.int .i64 (m:Nat))
    (hend:∀(u:Nat→Value) w',(Below w0.heap.size w0 w'∧w'.heap[g]? = some (Obj.cells (partly n (m+Nat.min m (n-m))).toArray 3 (0,0)))→Q .normal ((Pl.pu A u [38,39,40,41,42,43,44,45,46]).put (some 8) (.int .i64 ((m+Nat.min m (n-m):Nat):Int))) w') :
    (Code.region 9 (Pl.find 9 ((Tryz.f202.body).getD .skip)) true).wp Tryz.prog Q A w:=by
  have hS0:Below w0.heap.size w0 w.drew:=hW.drew
  have hA:=Pl.At.same (v:=.int .i64 (m:Nat)) (d:=8) (Pl.At.same (v:=.slice (some ⟨g,0,none⟩) n n) (d:=7) (Pl.At.here hsz hdf) s7) s8
  refine Pl.qa (S:=fun w'=>Below w0.heap.size w0 w') hA hS0 ?_
  rw [show (Pl.find 9 ((Tryz.f202.body).getD .skip)).size=10 by kernel_rfl]
  refine Pl.q0 0 38 (.int .i64 (m:Nat)) (Pl.q1) (Pl.q2 (.tmp 8)) hS0 ?_
  refine Pl.q0 1 39 (.slice (some ⟨g,0,none⟩) n n) (Pl.q1) (Pl.q2 (.tmp 7)) hS0 ?_
  refine Pl.q0 2 40 (.int .i64 (m:Nat)) (Pl.q1) (Pl.q2 (.tmp 8)) hS0 ?_
  refine Pl.q0 3 41 (.slice (some ⟨g,m,none⟩) (n-m) (n-m)) (Pl.q1) (Pl.qu 29 (.tmp 39) (some (.tmp 40)) none (fun w=>Zi4 g n m hm w)) hS0 ?_
  refine Pl.q0 4 42 (.slice (some ⟨g,0,none⟩) n n) (Pl.q1) (Pl.q2 (.tmp 7)) hS0 ?_
  refine Pl.q0 5 43 (.int .i64 (m:Nat)) (Pl.q1) (Pl.q2 (.tmp 8)) hS0 ?_
  refine Pl.q0 6 44 (.slice (some ⟨g,0,none⟩) m n) (Pl.q1) (Pl.qu 29 (.tmp 42) none (some (.tmp 43)) (fun w=>Zi8 g n m hm w)) hS0 ?_
  have hg1:=Zm6 (w:=w.drew) hg (partly n (m+Nat.min m (n-m))).toArray
  have hS1:Below w0.heap.size w0 (w.drew.setRow g (partly n (m+Nat.min m (n-m))).toArray):=below_setRow hS0 hB _
  refine Pl.qh 7 45 (.int .i64 ((Nat.min m (n-m):Nat):Int)) (w.drew.setRow g (partly n (m+Nat.min m (n-m))).toArray) (Pl.q1) (Pl.copyV 7 29 (.tmp 41) (.tmp 44) _ _ (by kernel_rfl) (by decide) (by decide) (fun ty=>Zlr g n m hm w.drew hg ty)) hS1 ?_
  refine Pl.q0 8 46 (.int .i64 ((m+Nat.min m (n-m):Nat):Int)) (Pl.q1) (Pl.qc .add 3 3 (.tmp 38) (.tmp 45) (.int .i64 (m:Nat)) (.int .i64 ((Nat.min m (n-m):Nat):Int)) (fun w=>Zlg m (Nat.min m (n-m)) _ _ (by have h1:Nat.min m (n-m)≤m:=Nat.min_le_left _ _;omega) w)) hS1 ?_
  refine Pl.q0 9 8 (.int .i64 ((m+Nat.min m (n-m):Nat):Int)) (Pl.q1) (Pl.qe (.tmp 46)) hS1 ?_
  refine Pl.q8 (fun A' hA'=>?_)
  rw [Pl.At.ext hA' ((((((((((hA.put 38 _).put 39 _).put 40 _).put 41 _).put 42 _).put 43 _).put 44 _).put 45 _).put 46 _).put 8 _)]
  exact hend hA'.fn _ ⟨hS1,hg1⟩
theorem Zhm {base cap:Nat}(h:w.ownsRow base 3 1 (.slice (some ⟨g,0,none⟩) n cap) n (madeCells #[Value.int .i64 0] n).toList)(hc:cap=n):w.heap[g]? = some (Obj.cells (partly n 0).toArray 3 (0,0)):=by
 have e:(madeCells #[Value.int .i64 0] n).toList=partly n 0:=by
  rw [toList_madeCells_one];simp [partly,fours,noughts,kVals]
 rw [e] at h;rcases h.2 with ⟨hv,_⟩ | ⟨g',cap',cur,hv,_,hg,_,_,aa,ab⟩
 · cases hv
 · simp only [Value.slice.injEq,Option.some.injEq,Addr.mk.injEq,and_true,true_and] at hv;obtain⟨rfl,rfl⟩:=hv;have:cur.toList=partly n 0:=by
    rw [← ab,List.take_of_length_le];rw [Array.length_toList,aa,hc];exact Nat.le_refl _
   rw [hg];congr 2;apply Array.toList_inj.1;simpa using this
theorem Zit {base:Nat}(hb:base≤g)(hn:n≤1000000)(h:w.heap[g]? = some (Obj.cells (partly n n).toArray 3 (0,0))):OwnsV 3 w base (.slice (some ⟨g,0,none⟩) n n) (fours n):=by
 (have e:partly n n=fours n:=by simp [partly,noughts,kVals]);rw [e] at h;unfold OwnsV;rw [Zap];refine⟨by rw [Zap,Nat.mul_one],.inr ⟨g,n,_,rfl,hb,h,Nat.le_refl _,by unfold maxLen;omega,?_,?_⟩⟩
 · simp [Zap]
 · rw [List.take_of_length_le (by simp [Zap])]
theorem ZjS (g b n:Nat)(w:World)(hg:w.heap[g]? = some (Obj.cells (partly n 0).toArray 3 (0,0)))(hb:w.cell? ⟨b,0,none⟩=some (.int .i64 4))(ty:TypeId) :
    (Builtin.copy_ #[29,29] ty #[.slice (some ⟨g,0,none⟩) n n,.slice (some ⟨b,0,none⟩) 1 1]).run Tryz.prog w=.ok (.int .i64 ((Nat.min 1 n:Nat):Int)) (w.setRow g (partly n (Nat.min 1 n)).toArray):=by
  have hc:Nat.min 1 n≤1∧Nat.min 1 n≤n:=⟨Nat.min_le_left _ _,Nat.min_le_right _ _⟩;generalize aa:Nat.min 1 n=c at *;have h:=run_copy_row (P:=Tryz.prog) w 29 29 ty 3 g 0 n n ⟨b,0,none⟩ 1 1 (partly n 0).toArray 3 (fours c) Tryz.underlying29 (by kernel_rfl) hg (by rw [Zap,aa])
   (fun j v hj=>by
    obtain⟨h1,rfl⟩:=ZgV hj;(obtain rfl:j=0:=by omega);simpa [Addr.add] using hb) (by rw [Zap];simp [Zf3 (Nat.zero_le n)];omega) (Ze9 c)
  rw [h,Zap];have e:=ZeM n 0 c;rw [e,Nat.zero_add];rfl
theorem ZkI (b n:Nat)(w:World)(hx:w.cell? ⟨b,0,none⟩=some (.int .i64 4))(hn:n≤255) :
    Calls Tryz.prog 202 #[.slice (some ⟨b,0,none⟩) 1 1,.int .i64 (n:Nat)] w fun e w'=>∃v,e=.returned v∧OwnsV 3 w' w.heap.size v (fours n)∧Below w.heap.size w w':=by
  obtain⟨i0,hi,ai,aj,ak⟩:=info_parts Zjy.info;have HM:=hide (mul_one n hn);have HX:=hide hx;(have av:IntKind.u64.wrap (n:Int)=(n:Int):=by rw [IntKind.wrap_u64];omega);(have aw:IntKind.i64.wrap (n:Int)=(n:Int):=by rw [IntKind.wrap_i64];omega);clear hx;go_enter Tryz.func202,Tryz.ntmps202;go_wp2_with fail;refine(HM.out _).mono ?_;rintro e w' ⟨rfl,hw⟩;obtain rfl:=hw.symm;go_wp2_with (at_make;refine wpList_make_full _ rfl _ _ 29 rfl w.heap.size 3 i0 (.int .i64 0) 1 Tryz.underlying29 hi ai aj _ _ _ _ n rfl rfl (by omega) (by omega) ?b2 ?b3 (Nat.le_refl _) ?_)
  case b2=>rw [ak];omega
  case b3=>unfold maxLen;omega
  intro w0 ab aa;have HG:=hide (Zhm ab rfl);have HW:Hid (Below w.heap.size w w0):=(Below.refl w.heap.size w).grown aa (Nat.le_refl _) (fun k hk=>by cases hk);have HC:Hid (w0.cell? ⟨b,0,none⟩=some (.int .i64 4)):=(HW.out.cell (World.block_lt_of_cell? w _ HX.out)).trans HX.out;have ac:Hid (Nat.min 1 n≤n∧(0<n→0<Nat.min 1 n)):=⟨Nat.min_le_right _ _,fun h=>by rw [Nat.lt_min];omega⟩;have af:=ZjS w.heap.size b n w0 HG.out HC.out;have am:=hide (Zm6 HG.out (partly n (Nat.min 1 n)).toArray);have ao:=hide (below_setRow HW.out (Nat.le_refl w.heap.size) (partly n (Nat.min 1 n)).toArray);generalize Nat.min 1 n=c at *;generalize w0.setRow w.heap.size (partly n c).toArray=w1 at *;clear ab aa hi ai aj ak HW HG;go_wp2_with fail;go_loopw [8] (fun i wr'=>∃m:Nat,m≤n∧(0<n→0<m)∧i=.int .i64 m∧Hid (wr'.heap[w.heap.size]? = some (Obj.cells (partly n m).toArray 3 (0,0)))∧Hid (Below w.heap.size w wr')) (fun i _=>n-(intOf i).toNat)
  case atStart=>exact ⟨c,ac.out.1,ac.out.2,rfl,am,ao⟩
  case round =>
   obtain⟨m,hm,aq,rfl,hg,ad⟩:=hrel;rcases Nat.lt_or_ge m n with ap | au
   · have HL:=hide ap;go_wp2_with fail;refine Pl.q9 (ops:=Pl.find 9 ((Tryz.f202.body).getD .skip)) ?_;refine rep9 w wr w.heap.size n m HL.out (by omega) (Nat.le_refl _) hg.out ad.out (by rfl) (by rfl) (by rfl) (by rfl) ?_;intro u w2 ⟨ae,ag⟩;simp only [Pl.pu,List.foldl,Act.put,List.setIfInBounds_toArray,List.set_cons_zero,List.set_cons_succ];have al:=hide ae;have an:=hide ag;have ar:Nat.min m (n-m)≤n-m∧0<Nat.min m (n-m):=⟨Nat.min_le_right _ _,by rw [Nat.lt_min];omega⟩;clear ae ag;generalize Nat.min m (n-m)=c2 at *;go_wp2_with fail;go_roundw
     case rel=>exact ⟨m+c2,by omega,by omega,by go_num,an,al⟩
     case measure=>simp only [intOf];omega
   · (have ah:m=n:=by omega);have HO:Hid (OwnsV 3 wr w.heap.size (.slice (some ⟨w.heap.size,0,none⟩) n n) (fours n)):=Zit (Nat.le_refl _) (by omega) (by have:=hg.out;rw [ah] at this;exact this);clear ah;go_wp2_with fail;go_ret;exact⟨_,rfl,HO.out,ad.out⟩
theorem Zj8 {xs:List Nat}(hx:Bytes xs)(hl:xs.length≤1000000):∀(ks:List Int)(l:List It)(q:Nat)(r:List It × Nat),(∀k∈ks,1≤k∧k≤5)→q≤xs.length→tks xs ks l q=some r→r.2≤xs.length
 | [],l,q,r,_,hq,h=>by
  simp only [tks,Option.some.injEq] at h
  rw [← h]
  exact hq
 | k :: ks,l,q,r,hk,hq,h=>by
  simp only [tks] at h
  split at h
  · cases h
  · rename_i i n hi
    have hb:Bytes (xs.drop q):=fun x hh=>hx x (List.mem_of_mem_drop hh)
    have:=(ZdL hb (by rw [List.length_drop];omega) (hk k (by simp)) hi).2
    rw [List.length_drop] at this
    exact Zj8 hx hl ks _ _ r (fun k' h'=>hk k' (by simp [h'])) (by omega) h
theorem Zex {xs:List Nat}(hx:Bytes xs)(hl:xs.length≤1000000):∀(ks:List Int)(l:List It)(q:Nat)(r:List It × Nat),(∀k∈ks,1≤k∧k≤5)→q≤xs.length→(∀i∈l,i.fits)→tks xs ks l q=some r→∀i∈r.1,i.fits
 | [],l,q,r,_,_,hf,h=>by
  simp only [tks,Option.some.injEq] at h
  rw [← h]
  exact hf
 | k :: ks,l,q,r,hk,hq,hf,h=>by
  simp only [tks] at h
  split at h
  · cases h
  · rename_i i n hi
    have hb:Bytes (xs.drop q):=fun x hh=>hx x (List.mem_of_mem_drop hh)
    have:=ZdL hb (by rw [List.length_drop];omega) (hk k (by simp)) hi
    rw [List.length_drop] at this
    refine Zex hx hl ks _ _ r (fun k' h'=>hk k' (by simp [h'])) (by omega) ?_ h
    intro j hj
    rcases List.mem_append.1 hj with h1 | h1
    · exact hf j h1
    · simp at h1
      rw [h1]
      exact this.1
theorem Zcm (xs:List Nat):∀(ks:List Int)(l:List It)(q:Nat)(r:List It × Nat),tks xs ks l q=some r→r.1.length=l.length+ks.length
 | [],l,q,r,h=>by
  simp only [tks,Option.some.injEq] at h
  rw [← h]
  simp
 | k :: ks,l,q,r,h=>by
  simp only [tks] at h
  split at h
  · cases h
  · have:=Zcm xs ks _ _ r h
    rw [this]
    simp
    omega
theorem Zmv (n:Nat):∀t,t<(List.replicate n (4:Int)).length→1≤(List.replicate n (4:Int)).getD t 0∧(List.replicate n (4:Int)).getD t 0≤5:=by
 intro t ht;rw [List.length_replicate] at ht;simp [List.getD,ht]
theorem Zjq {a:Option Addr}{len:Nat}{ks:List Int}(h:Vs w a len (kVals ks)):Ks w a len ks:=by
 (have hl:ks.length=len:=by have:=h.1;simpa [kVals] using this);refine⟨hl,fun j hj=>?_⟩;obtain⟨b,off,ha,hc⟩:=h.2.2 j hj;refine⟨b,off,ha,?_⟩;(have hj':j<ks.length:=by omega);rw [hc];simp [kVals,List.getD,hj']
theorem ZpS (w0 w:World)(v:Value)(a:Option Addr)(len cap q:Nat)(hq:q≤len)(hW:Below w0.heap.size w0 w)
    {Q:Exit→Act→World→Prop}{A:Act}(ac:A.tmps.size=42)(ab:A.defers=[])(s0:A.tmps.getD 0 undef=.slice a len cap)(s8:A.tmps.getD 8 undef=.int .i64 (q:Nat))(s10:A.tmps.getD 10 undef=v)
    (hend:∀(u:Nat→Value) w',(w'=w.drew)→Q .normal ((((Pl.pu A u [38,39,40,41]).put (some 4) (v)).put (some 5) (.slice (fromA a cap q) (len-q) (cap-q))).put (some 6) (.int .i64 0)) w') :
    (Code.region 10 (Pl.find 10 ((Tryz.f187.body).getD .skip)) true).wp Tryz.prog Q A w:=by
  have aa:Below w0.heap.size w0 w.drew:=hW.drew;have hA:=Pl.At.same (v:=v) (d:=10) (Pl.At.same (v:=.int .i64 (q:Nat)) (d:=8) (Pl.At.same (v:=.slice a len cap) (d:=0) (Pl.At.here ac ab) s0) s8) s10;refine Pl.qa (S:=fun w'=>Below w0.heap.size w0 w') hA aa ?_;rw [show (Pl.find 10 ((Tryz.f187.body).getD .skip)).size=7 by kernel_rfl];refine Pl.q0 0 38 (v) (Pl.q1) (Pl.q2 (.tmp 10)) aa ?_;refine Pl.q0 1 39 (.slice a len cap) (Pl.q1) (Pl.q2 (.tmp 0)) aa ?_;refine Pl.q0 2 40 (.int .i64 (q:Nat)) (Pl.q1) (Pl.q2 (.tmp 8)) aa ?_;refine Pl.q0 3 41 (.slice (fromA a cap q) (len-q) (cap-q)) (Pl.q1) (Pl.qu 107 (.tmp 39) (some (.tmp 40)) none (fun w=>Zc0 a len cap q hq w)) aa ?_;refine Pl.q0 4 4 (v) (Pl.q1) (Pl.qe (.tmp 38)) aa ?_;refine Pl.q0 5 5 (.slice (fromA a cap q) (len-q) (cap-q)) (Pl.q1) (Pl.qe (.tmp 41)) aa ?_;refine Pl.q0 6 6 (.int .i64 0) (Pl.q1) (Pl.qe (.const (.int .i64 0))) aa ?_;refine Pl.q8 (fun A' hA'=>?_);rw [Pl.At.ext hA' (((((((hA.put 38 _).put 39 _).put 40 _).put 41 _).put 4 _).put 5 _).put 6 _)];exact hend hA'.fn _ rfl
theorem Zef (a:Option Addr)(len cap n:Nat)(xs:List Nat)(w:World)(h:Came w a len cap xs)(hl:len≤100000)(hn:n≤255) :
    Calls Tryz.prog 187 #[.slice a len cap,.int .i64 (n:Nat)] w fun e w'=>Below w.heap.size w w' ∧
     (tks xs (List.replicate n 4) [] 0=none→e=.returned (.tuple #[.slice none 0 0,.slice none 0 0,.int .i64 4])) ∧
     (∀l q,tks xs (List.replicate n 4) [] 0=some (l,q)→q≤len∧(∀i∈l,i.fits)∧∃v,e=.returned (.tuple #[v,.slice (fromA a cap q) (len-q) (cap-q),.int .i64 0])∧OwnsV 32 w' w.heap.size v (fVals (l.map It.x))):=by
 have H:=hide h;have HR:=hide (ZkI w.heap.size n (w.alloc (.cells #[.int .i64 4] 3)) (by
  have:=heap_alloc_new w (.cells #[.int .i64 4] 3);simp only [World.cell?,this];rfl) hn)
 have HW:=hide (Zaa w (.cells #[.int .i64 4] 3));have an:=hide hl;have ar:=hide h.bs.1;have bp:=hide h.bs.2.1;clear h hl;go_enter Tryz.func187,Tryz.ntmps187;go_wp2_with fail;refine HR.out.mono ?_;rintro e w1 ⟨v1,rfl,ay,au⟩;have ah:=hide (Zac HW.out au);obtain⟨ka,kc,aw,al,_⟩:=ay.vs (Ze9 n);rw [Zap] at aw al;subst aw;have HT:=hide (Zj6 a len cap xs ka n kc (List.replicate n 4) w1 ⟨H.out.bs.keep ah.out (Nat.le_refl _),H.out.nil,H.out.le,H.out.big⟩ (Zjq al) an.out (by omega));unfold ZaM at HT;rw [ZbT (Zmv n)] at HT;clear ay au al HR;cases hT:tks xs (List.replicate n 4) [] 0 with
 | none =>
  rw [hT] at HT;simp only at HT;have bm:=hide hT;clear hT;go_wp2_with fail;refine HT.out.mono ?_;rintro e w2 ⟨v2,rfl,ad,_,_⟩;have ac:=hide (Zac ah.out ad);clear ad;go_wp2_with fail;go_ret3;exact⟨ac.out,fun _=>rfl,fun l q h=>by rw [bm.out] at h;cases h⟩
 | some lq =>
  obtain⟨l,q⟩:=lq;rw [hT] at HT;simp only at HT;have hq:q≤len:=by
   have:=Zj8 bp.out (by rw [ar.out];have:=an.out;omega) _ _ _ _ (fun k hk=>by rw [(List.mem_replicate.1 hk).2];decide) (Nat.zero_le _) hT;rw [ar.out] at this;exact this
  have HQ:=hide hq;have ag:=hide hT;clear hT hq;go_wp2_with fail;refine HT.out.mono ?_;rintro e w2 ⟨v2,rfl,ad,az,aj⟩;have ac:=hide (Zac ah.out ad);obtain⟨p2,q2,bc,is2,_⟩:=az.is aj;obtain⟨nl,ak⟩:∃nl,l.length=nl:=⟨_,rfl⟩;rw [ak] at bc is2;subst bc;have bj:=hide is2;have bi:=hide aj;have af:=hide ak;have bn:Hid (OwnsV 32 (w2.alloc (.cells #[] 32)) w2.heap.size (.slice (some ⟨w2.heap.size,0,none⟩) 0 0) (fVals [])):=OwnsV.lit 32 w2 _ [] (Nat.le_refl _) (by simp);have bg:=hide (Zaa w2 (.cells #[] 32));clear ad az aj is2 ak HT;have bv:∀(w:World) (a:Addr) (m:Mode) (x:Nat),(store a (.float .f64 x) m).run Tryz.prog w=stored Tryz.prog w a (.float .f64 x) m:=fun w a m x=>run_store Tryz.prog w a _ m rfl;go_wp2_with fail;go_loopw [10,28] (fun v i wr'=>∃k:Nat,k≤nl∧i=.int .i64 k∧Hid (OwnsV 32 wr' w2.heap.size v (fVals ((l.map It.x).take k)))∧Hid (Below w2.heap.size w2 wr')) (fun _ i _=>nl-(intOf i).toNat)
  case atStart=>exact ⟨0,by omega,rfl,bn,bg⟩
  case round =>
   obtain⟨k,hk,rfl,aa,ai⟩:=hrel;have ab:Hid (nl≤255):=by
    have:=Zcm _ _ _ _ _ ag.out;show nl≤255;rw [← af.out];simp at this;omega
   have br:nl≤255:=ab.out;rcases Nat.lt_or_ge k nl with ax | bu
   · obtain⟨b,off,rfl,c0,c1,c2,c3⟩:=(bj.out.keep ai.out (Nat.le_refl _)).2.2 k ax;obtain⟨x,hx⟩:∃x,x=l.getD k itD:=⟨_,rfl⟩;rw [← hx] at c0 c1 c2 c3;have HX:=hide hx;obtain⟨xk,bd⟩:∃n,n=x.kind:=⟨_,rfl⟩;obtain⟨xn,be⟩:∃n,n=x.n:=⟨_,rfl⟩;obtain⟨xx,am⟩:∃n,n=x.x:=⟨_,rfl⟩;obtain⟨xs',bf⟩:∃n,n=x.s:=⟨_,rfl⟩;rw [← bd] at c0;rw [← be] at c1;rw [← am] at c2;rw [← bf] at c3;have bq:=hide am;have ao:=hide ((aa.out.keep (Zaa wr (.cells #[.int .i64 xk,.int .i64 xn,.float .f64 xx,.string xs'] 182)) (Nat.le_refl _)).keep (Zaa _ (.cells #[.float .f64 xx] 32)) (Nat.le_refl _));have aq:=hide (Zac ai.out (ZaE wr (.cells #[.int .i64 xk,.int .i64 xn,.float .f64 xx,.string xs'] 182) (.cells #[.float .f64 xx] 32)));have ap:Hid (Vs ((wr.alloc (.cells #[.int .i64 xk,.int .i64 xn,.float .f64 xx,.string xs'] 182)).alloc (.cells #[.float .f64 xx] 32)) (some ⟨wr.heap.size+1,0,none⟩) 1 [.float .f64 xx]):=by
      have:=ZjB 32 (wr.alloc (.cells #[.int .i64 xk,.int .i64 xn,.float .f64 xx,.string xs'] 182)) (.float .f64 xx) rfl;exact hide (by simpa using this)
     have ae:Hid ((fVals ((l.map It.x).take k)).length+1≤1000000):=by
      show _≤_;have:=ab.out;simp [fVals];omega
     clear hx bd be am bf;go_wp2_with (at_builtin;refine ZaD Zmi _ rfl (.tmp 32) (.tmp 35) rfl w2.heap.size _ _ rfl ao.out _ _ _ [.float .f64 xx] rfl ap.out (fun h=>by cases h) ae.out aq.out.size ?_);intro v6 w6 ba av _;have bk:=hide ba;have bh:=hide (aq.out.trans av);clear ba av ao ap;go_wp2;go_roundw
     case rel =>
      (have hk':k<l.length:=by rw [af.out];exact ax);refine⟨k+1,by omega,by go_num,?_,bh⟩;have e:fVals ((l.map It.x).take (k+1))=fVals ((l.map It.x).take k) ++ [.float .f64 xx]:=by
       rw [List.take_succ_eq_append_getElem (by simpa using hk'),bq.out,HX.out];simp [fVals,List.getD,hk']
      rw [e];exact bk
     case measure=>simp only [intOf];omega
   · have bb:(l.map It.x).take k=l.map It.x:=List.take_of_length_le (by rw [List.length_map,af.out];omega);rw [bb] at aa;have bo:=hide (ac.out.trans (ai.out.mono ac.out.size));have bl:=hide ((aa.out.keep (Below.refl wr.heap.size wr).drew (Nat.le_refl _)).lower ac.out.size);clear bb;go_wp2_with fail;refine Pl.q9 (ops:=Pl.find 10 ((Tryz.f187.body).getD .skip)) ?_;refine ZpS wr wr _ a len cap q HQ.out (Below.refl _ _) (by rfl) (by rfl) (by rfl) (by rfl) (by rfl) ?_;intro u w5 bt;subst bt;simp only [Pl.pu,List.foldl,Act.put,List.setIfInBounds_toArray,List.set_cons_zero,List.set_cons_succ];go_wp2_with fail;go_ret3;refine⟨bo.out.drew,(fun h=>by rw [ag.out] at h;cases h),fun l' q' h=>?_⟩;rw [ag.out] at h;simp only [Option.some.injEq,Prod.mk.injEq] at h;obtain⟨rfl,rfl⟩:=h;exact⟨HQ.out,bi.out,_,rfl,bl.out⟩
end Go.Proofs.YtiecfcjlhldhdaaGreat
