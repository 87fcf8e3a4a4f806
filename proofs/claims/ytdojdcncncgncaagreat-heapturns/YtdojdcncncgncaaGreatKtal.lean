/-
  Lemmas.
-/
import Derived.Test.YtdojdcncncgncaaGreatKtak
import Derived.Laws.CopyOwn
namespace Go.Proofs.YtdojdcncncgncaaGreat
open Go.RowKit
set_option linter.unusedVariables false
set_option maxRecDepth 100000
set_option maxHeartbeats 4000000
variable {w:World}{n g base cap j m:Nat}{r:Rw}{l:List It}
def headK:List Int:=[1,4,3,2,3,1]
def headI (k:Int):It:=⟨k,0,0,noS⟩
def numI (x:Nat):It:=⟨4,0,x,noS⟩
def Rw.head (r:Rw):List It:=[⟨1,if r.dead then 1 else 0,0,noS⟩,⟨4,0,r.key,noS⟩,⟨3,r.wr,0,noS⟩,⟨2,r.cell,0,noS⟩,⟨3,r.no,0,noS⟩,⟨1,r.xs.length,0,noS⟩]
def Rw.items (r:Rw):List It:=r.head ++ r.xs.map numI
theorem Zno {p:Nat}{ks:List Int}{fr:Nat × Nat}(h:w.heap[p]? = some (Obj.cells (kVals ks).toArray 3 fr)):Ks w (some ⟨p,0,none⟩) ks.length ks:=by
 refine⟨rfl,fun j hj=>⟨p,0,rfl,?_⟩⟩;rw [Nat.zero_add];simp only [World.cell?,h];simp [kVals,List.getD,hj]
theorem Zdv (w:World):Calls Tryz.prog 155 #[] w fun e w'=>e=.returned (.slice (some ⟨w.heap.size,0,none⟩) 6 6)∧w'.heap[w.heap.size]? = some (Obj.cells (kVals headK).toArray 3 (0,0))∧Below w.heap.size w w':=by
 have HK:=hide (heap_alloc_new w (.cells (kVals headK).toArray 3));have HW:=hide (Zaa w (.cells #[.int .i64 1,.int .i64 4,.int .i64 3,.int .i64 2,.int .i64 3,.int .i64 1] 3));go_enter Tryz.func155,Tryz.ntmps155;go_wp2_with fail;go_ret;exact⟨rfl,HK.out,HW.out⟩
theorem RwBlk.stayI {w':World}{p:Nat}{c:Value}(h:RwBlk w p r c)(hs:Ze6 w w'):RwBlk w' p r c:=(hs p _ _ _ h (by decide)).trans h
theorem ZkL (k:Int)(hk:-9223372036854775808≤k∧k≤9223372036854775807):(headI k).fits:=⟨ZaE hk.1 hk.2,ZaE (n:=0) (by decide) (by decide),(by decide:(0:Nat)<18446744073709551616),Nat.zero_le _⟩
theorem Zd6 (x:Nat)(hx:x<18446744073709551616):(numI x).fits:=⟨ZaE (n:=4) (by decide) (by decide),ZaE (n:=0) (by decide) (by decide),hx,Nat.zero_le _⟩
theorem OwnsI.pos {v:Value}(h:OwnsI w base v l)(hp:0<l.length):∃g cap,v=.slice (some ⟨g,0,none⟩) l.length cap∧base≤g∧l.length≤cap:=by
 rcases h.2 with ⟨hv,h0⟩ | ⟨g,cap,cur,hv,aa,hg,ab,hr⟩
 · omega
 · exact⟨g,cap,hv,aa,ab⟩
theorem OwnsI.store {m:List It}(h:OwnsI w base (.slice (some ⟨g,0,none⟩) n cap) l)(hn:n=l.length)(i:Nat)(u:Value)(hm:(Za8 l).set i u=Za8 m)(hl:m.length=l.length):OwnsI (w.setCell ⟨g,i,none⟩ u) base (.slice (some ⟨g,0,none⟩) n cap) m:=by
 subst hn;have:=(World.ownsRow.stored h i u).1;unfold OwnsI;rw [hl,← hm];exact this
theorem OwnsI.cell (h:OwnsI w base (.slice (some ⟨g,0,none⟩) n cap) l)(hn:n=l.length)(i:Nat)(hi:i<l.length*4):w.cell? ⟨g,i,none⟩=(Za8 l)[i]?:=by
 subst hn;exact World.ownsRow.cellAt h i (by omega)
theorem Zf4 {cp:Nat}{d:Int}{key:Nat}{wt cell no n:Int}(h:OwnsI w base (.slice (some ⟨g,0,none⟩) 6 cp) (⟨1,d,0,noS⟩ :: headK.tail.map headI)) :
    OwnsI (((((w.setCell ⟨g,6,none⟩ (.float .f64 key)).setCell ⟨g,9,none⟩ (.int .i64 wt)).setCell ⟨g,13,none⟩ (.int .i64 cell)).setCell ⟨g,17,none⟩ (.int .i64 no)).setCell ⟨g,21,none⟩ (.int .i64 n)) base (.slice (some ⟨g,0,none⟩) 6 cp)
     [⟨1,d,0,noS⟩,⟨4,0,key,noS⟩,⟨3,wt,0,noS⟩,⟨2,cell,0,noS⟩,⟨3,no,0,noS⟩,⟨1,n,0,noS⟩]:=by
 have h1:=h.store (m:=[⟨1,d,0,noS⟩,⟨4,0,key,noS⟩,⟨3,0,0,noS⟩,⟨2,0,0,noS⟩,⟨3,0,0,noS⟩,⟨1,0,0,noS⟩]) rfl 6 (.float .f64 key) rfl rfl;have h2:=h1.store (m:=[⟨1,d,0,noS⟩,⟨4,0,key,noS⟩,⟨3,wt,0,noS⟩,⟨2,0,0,noS⟩,⟨3,0,0,noS⟩,⟨1,0,0,noS⟩]) rfl 9 (.int .i64 wt) rfl rfl;have h3:=h2.store (m:=[⟨1,d,0,noS⟩,⟨4,0,key,noS⟩,⟨3,wt,0,noS⟩,⟨2,cell,0,noS⟩,⟨3,0,0,noS⟩,⟨1,0,0,noS⟩]) rfl 13 (.int .i64 cell) rfl rfl;have h4:=h3.store (m:=[⟨1,d,0,noS⟩,⟨4,0,key,noS⟩,⟨3,wt,0,noS⟩,⟨2,cell,0,noS⟩,⟨3,no,0,noS⟩,⟨1,0,0,noS⟩]) rfl 17 (.int .i64 no) rfl rfl;exact h4.store rfl 21 (.int .i64 n) rfl rfl
theorem Zf3 {B:Nat}{w0:World}(hb:Below B w0 w)(hg:B≤g)(a b c d e:Value) :
    Below B w0 (((((w.setCell ⟨g,6,none⟩ a).setCell ⟨g,9,none⟩ b).setCell ⟨g,13,none⟩ c).setCell ⟨g,17,none⟩ d).setCell ⟨g,21,none⟩ e):=
  ((((hb.setCell (p:=⟨g,6,none⟩) hg _).setCell (p:=⟨g,9,none⟩) hg _).setCell (p:=⟨g,13,none⟩) hg _).setCell (p:=⟨g,17,none⟩) hg _).setCell (p:=⟨g,21,none⟩) hg _
theorem Zle (r:Rw)(a:Option Addr)(len cap:Nat)(w:World)(h:Fs w a len cap r.xs)(h4:len≤4) :
    Calls Tryz.prog 138 #[r.val (.slice a len cap)] w fun e w'=>∃v,e=.returned v∧OwnsI w' w.heap.size v r.items∧Below w.heap.size w w':=by
  obtain⟨key,dead,xs,wt,cell,no⟩:=r;have H:=hide h;have HL:=hide h.len;have HX:=hide (Zak w ⟨key,dead,xs,wt,cell,no⟩ (.slice a len cap));have HO:=hide (OwnsI.new (w.alloc (.cells #[.float .f64 key,.bool dead,.slice a len cap,.int .i64 wt,.int .i64 cell,.int .i64 no] 33)));have HW:=hide (ZbE w (.cells #[.float .f64 key,.bool dead,.slice a len cap,.int .i64 wt,.int .i64 cell,.int .i64 no] 33) (.cells #[] 158));have bf:=hide (Zaa (w.alloc (.cells #[.float .f64 key,.bool dead,.slice a len cap,.int .i64 wt,.int .i64 cell,.int .i64 no] 33)) (.cells #[] 158));have HH:=hide Zdv;clear h;simp only at HX;unfold Rw.val;simp only;go_enter Tryz.func138,Tryz.ntmps138;go_wp2_with fail;refine(HH.out _).mono ?_;rintro e w1 ⟨rfl,ba,aq⟩;have bs:=hide (Zad HW.out aq);have bg:=hide ((HX.out.keep bf.out).keep aq);have bd:Hid (OwnsI w1 w.heap.size (.slice (some ⟨w.heap.size+1,0,none⟩) 0 0) []):=by
   have:=((HO.out.keep aq (Nat.le_refl _)).lower (b':=w.heap.size) (by simp));exact hide (by simpa using this)
  (have bk:((w.alloc (.cells #[.float .f64 key,.bool dead,.slice a len cap,.int .i64 wt,.int .i64 cell,.int .i64 no] 33)).alloc (.cells #[] 158)).heap.size=w.heap.size+2:=by simp);rw [bk] at ba ⊢;have bc:=hide ba;clear ba aq bk HX HO HW bf HH;go_wp2_with fail;go_loopw [3,11] (fun v i wr'=>∃k:Nat,k≤6∧i=.int .i64 k∧Hid (OwnsI wr' w.heap.size v ((headK.map headI).take k))∧Hid (Below w.heap.size w wr')∧Hid (RwBlk wr' w.heap.size ⟨key,dead,xs,wt,cell,no⟩ (.slice a len cap))∧Hid (wr'.heap[w.heap.size+2]? = some (Obj.cells (kVals headK).toArray 3 (0,0)))) (fun _ i _=>6-(intOf i).toNat)
  case atStart=>exact ⟨0,by omega,rfl,bd,bs,bg,bc⟩
  case round =>
   obtain⟨k,hk,rfl,aa,ac,af,ap⟩:=hrel;rcases Nat.lt_or_ge k 6 with ag | bl
   · obtain⟨kd,ar⟩:∃kd,kd=headK.getD k 0:=⟨_,rfl⟩;have hc:wr.cell? ⟨w.heap.size+2,k,none⟩=some (.int .i64 kd):=by
      obtain⟨_,_,e,hc⟩:=(Zno ap.out).2 k ag;simp only [Option.some.injEq,Addr.mk.injEq,and_true] at e;obtain⟨rfl,rfl⟩:=e;rw [Nat.zero_add] at hc;rw [hc,ar]
     have bv:1≤kd∧kd≤4:=by
      rw [ar];(have:k=0∨k=1∨k=2∨k=3∨k=4∨k=5:=by omega);rcases this with rfl | rfl | rfl | rfl | rfl | rfl <;> decide
     have bq:=hide ar;have ah:=hide (aa.out.keep (Zaa wr (.cells #[.int .i64 kd,.int .i64 0,.float .f64 0,.string ⟨#[]⟩] 158)) (Nat.le_refl _));have bh:=hide (af.out.keep (Zaa wr (.cells #[.int .i64 kd,.int .i64 0,.float .f64 0,.string ⟨#[]⟩] 158)));have au:=hide (((Zaa wr (.cells #[.int .i64 kd,.int .i64 0,.float .f64 0,.string ⟨#[]⟩] 158)).block _ (Array.getElem?_eq_some_iff.1 ap.out).1).trans ap.out);have ai:=hide (Zad ac.out (Zaa wr (.cells #[.int .i64 kd,.int .i64 0,.float .f64 0,.string ⟨#[]⟩] 158)));have HI:=hide (Zcn wr (headI kd) (ZkL kd (by omega)));unfold headI noS at HI;simp only at HI;(have ab:Hid (((headK.map headI).take k).length+1≤1000000):=by show _≤_;simp [headK];omega);clear ar bv;go_wp2_with (at_builtin;refine Zat _ rfl (.tmp 15) (.tmp 18) rfl w.heap.size _ _ rfl ah.out _ _ _ _ rfl HI.out (fun h=>by cases h) ab.out ai.out.size ?_);intro v5 w5 bo bi bb;have br:=hide bo;have bt:=hide (ai.out.trans bi);have bu:=hide (bh.out.stayI bb);have bp:=hide ((bb _ _ _ _ au.out (by decide)).trans au.out);clear bo bi bb ah HI bh au;go_wp2;go_roundw
     case rel =>
      refine⟨k+1,by omega,by go_num,?_,bt,bu,bp⟩;have e:(headK.map headI).take (k+1)=(headK.map headI).take k ++ [⟨kd,0,0,⟨#[]⟩⟩]:=by
       rw [List.take_succ_eq_append_getElem (by simpa [headK] using ag),bq.out];simp [headI,noS,List.getD,show k<headK.length from ag]
      rw [e];exact br
     case measure=>simp only [intOf];omega
   · (have bm:k=6:=by omega);have ae:OwnsI wr w.heap.size u3 (headK.map headI):=by
      have:=aa.out;rw [bm] at this;exact this
     clear bm;obtain⟨g,cp,hv,az,bj⟩:=ae.pos (by decide);have bn:(headK.map headI).length=6:=rfl;rw [bn] at hv bj;subst hv;have be:=hide ae;have hz:=fun i=>World.ownsRow.frozenAt ae i;have e1:=ae.cell rfl 1 (by decide);have e6:=ae.cell rfl 6 (by decide);have e9:=ae.cell rfl 9 (by decide);have e13:=ae.cell rfl 13 (by decide);have e17:=ae.cell rfl 17 (by decide);have e21:=ae.cell rfl 21 (by decide);have bx:∀(w:World) (a:Addr) (m:Mode) (x:Nat),(store a (.float .f64 x) m).run Tryz.prog w=stored Tryz.prog w a (.float .f64 x) m:=fun w a m x=>run_store Tryz.prog w a _ m rfl;simp only [show (Za8 (headK.map headI))[1]? = some (.int .i64 0) from rfl] at e1;simp only [show (Za8 (headK.map headI))[6]? = some (.float .f64 0) from rfl] at e6;simp only [show (Za8 (headK.map headI))[9]? = some (.int .i64 0) from rfl] at e9;simp only [show (Za8 (headK.map headI))[13]? = some (.int .i64 0) from rfl] at e13;simp only [show (Za8 (headK.map headI))[17]? = some (.int .i64 0) from rfl] at e17;simp only [show (Za8 (headK.map headI))[21]? = some (.int .i64 0) from rfl] at e21;have x0:=af.out.c0;have x1:=af.out.c1;have x2:=af.out.c2;have x3:=af.out.c3;have x4:=af.out.c4;have x5:=af.out.c5;simp only at x0 x1 x2 x3 x4 x5;have z1:=hz 1;have z6:=hz 6;have z9:=hz 9;have z13:=hz 13;have z17:=hz 17;have z21:=hz 21;clear hz aa ae bn bj;have bw:=af;clear af ap bc bg bd;cases dead
     · have av:=hide (Zf4 (key:=key) (wt:=wt) (cell:=cell) (no:=no) (n:=(len:Nat)) be.out);have ax:=hide (Zf3 ac.out az (.float .f64 key) (.int .i64 wt) (.int .i64 cell) (.int .i64 no) (.int .i64 (len:Nat)));go_wp2_with fail;go_loopw [3,57] (fun v i wr'=>∃k:Nat,k≤len∧i=.int .i64 k∧Hid (OwnsI wr' w.heap.size v ([⟨1,0,0,noS⟩,⟨4,0,key,noS⟩,⟨3,wt,0,noS⟩,⟨2,cell,0,noS⟩,⟨3,no,0,noS⟩,⟨1,len,0,noS⟩] ++ (xs.map numI).take k))∧Hid (Below w.heap.size w wr')) (fun _ i _=>len-(intOf i).toNat)
       case atStart=>exact ⟨0,by omega,rfl,av,ax⟩
       case round =>
        obtain⟨k,hk,rfl,aa,ac⟩:=hrel;rcases Nat.lt_or_ge k len with ag | bl
        · obtain⟨b,off,rfl,hc,ad,hx⟩:=(H.out.keep ac.out (Nat.le_refl _)).at k ag;obtain⟨x,ak⟩:∃x,x=xs.getD k 0:=⟨_,rfl⟩;rw [← ak] at hc ad hx;have ay:=hide ak;have ah:=hide (aa.out.keep (Zaa wr (.cells #[.int .i64 4,.int .i64 0,.float .f64 x,.string ⟨#[]⟩] 158)) (Nat.le_refl _));have ai:=hide (Zad ac.out (Zaa wr (.cells #[.int .i64 4,.int .i64 0,.float .f64 x,.string ⟨#[]⟩] 158)));have HI:=hide (Zcn wr (numI x) (Zd6 x hx));unfold numI noS at HI;simp only at HI;(have ab:Hid ((([⟨1,0,0,noS⟩,⟨4,0,key,noS⟩,⟨3,wt,0,noS⟩,⟨2,cell,0,noS⟩,⟨3,no,0,noS⟩,⟨1,(len:Nat),0,noS⟩]:List It) ++ (xs.map numI).take k).length+1≤1000000):=by show _≤_;simp;omega);clear ak ad hx;go_wp2_with (at_builtin;refine Zat _ rfl (.tmp 61) (.tmp 64) rfl w.heap.size _ _ rfl ah.out _ _ _ _ rfl HI.out (fun h=>by cases h) ab.out ai.out.size ?_);intro v7 w7 an am _;have al:=hide an;have aw:=hide (ai.out.trans am);clear an am ah HI ab;go_wp2;go_roundw
          case rel =>
           (have hk':k<xs.length:=by rw [HL.out];exact ag);refine⟨k+1,by omega,by go_num,?_,aw⟩;have e:(xs.map numI).take (k+1)=(xs.map numI).take k ++ [⟨4,0,x,⟨#[]⟩⟩]:=by
            rw [List.take_succ_eq_append_getElem (by simpa using hk'),ay.out];simp [numI,noS,List.getD,hk']
           rw [e,← List.append_assoc];exact al
          case measure=>simp only [intOf];omega
        · have ao:(xs.map numI).take k=xs.map numI:=List.take_of_length_le (by rw [List.length_map,HL.out];omega);rw [ao] at aa;have aj:Hid (OwnsI wr w.heap.size u3 (Rw.items ⟨key,false,xs,wt,cell,no⟩)):=by
           have e:Rw.items ⟨key,false,xs,wt,cell,no⟩=[⟨1,0,0,noS⟩,⟨4,0,key,noS⟩,⟨3,wt,0,noS⟩,⟨2,cell,0,noS⟩,⟨3,no,0,noS⟩,⟨1,len,0,noS⟩] ++ xs.map numI:=by
            unfold Rw.items Rw.head;simp only [HL.out];rfl
           show OwnsI _ _ _ _;rw [e];exact aa.out
          clear ao aa;go_wp2_with fail;go_ret;exact⟨_,rfl,aj.out,ac.out⟩
     · have al:=hide (be.out.store (m:=⟨1,1,0,noS⟩ :: headK.tail.map headI) rfl 1 (.int .i64 1) rfl rfl);have av:=hide (Zf4 (key:=key) (wt:=wt) (cell:=cell) (no:=no) (n:=(len:Nat)) al.out);have ax:=hide (Zf3 (ac.out.setCell (p:=⟨g,1,none⟩) az (.int .i64 1)) az (.float .f64 key) (.int .i64 wt) (.int .i64 cell) (.int .i64 no) (.int .i64 (len:Nat)));go_wp2_with fail;go_loopw [3,57] (fun v i wr'=>∃k:Nat,k≤len∧i=.int .i64 k∧Hid (OwnsI wr' w.heap.size v ([⟨1,1,0,noS⟩,⟨4,0,key,noS⟩,⟨3,wt,0,noS⟩,⟨2,cell,0,noS⟩,⟨3,no,0,noS⟩,⟨1,len,0,noS⟩] ++ (xs.map numI).take k))∧Hid (Below w.heap.size w wr')) (fun _ i _=>len-(intOf i).toNat)
       case atStart=>exact ⟨0,by omega,rfl,av,ax⟩
       case round =>
        obtain⟨k,hk,rfl,aa,ac⟩:=hrel;rcases Nat.lt_or_ge k len with ag | bl
        · obtain⟨b,off,rfl,hc,ad,hx⟩:=(H.out.keep ac.out (Nat.le_refl _)).at k ag;obtain⟨x,ak⟩:∃x,x=xs.getD k 0:=⟨_,rfl⟩;rw [← ak] at hc ad hx;have ay:=hide ak;have ah:=hide (aa.out.keep (Zaa wr (.cells #[.int .i64 4,.int .i64 0,.float .f64 x,.string ⟨#[]⟩] 158)) (Nat.le_refl _));have ai:=hide (Zad ac.out (Zaa wr (.cells #[.int .i64 4,.int .i64 0,.float .f64 x,.string ⟨#[]⟩] 158)));have HI:=hide (Zcn wr (numI x) (Zd6 x hx));unfold numI noS at HI;simp only at HI;(have ab:Hid ((([⟨1,1,0,noS⟩,⟨4,0,key,noS⟩,⟨3,wt,0,noS⟩,⟨2,cell,0,noS⟩,⟨3,no,0,noS⟩,⟨1,(len:Nat),0,noS⟩]:List It) ++ (xs.map numI).take k).length+1≤1000000):=by show _≤_;simp;omega);clear ak ad hx;go_wp2_with (at_builtin;refine Zat _ rfl (.tmp 61) (.tmp 64) rfl w.heap.size _ _ rfl ah.out _ _ _ _ rfl HI.out (fun h=>by cases h) ab.out ai.out.size ?_);intro v7 w7 an am _;have al:=hide an;have aw:=hide (ai.out.trans am);clear an am ah HI ab;go_wp2;go_roundw
          case rel =>
           (have hk':k<xs.length:=by rw [HL.out];exact ag);refine⟨k+1,by omega,by go_num,?_,aw⟩;have e:(xs.map numI).take (k+1)=(xs.map numI).take k ++ [⟨4,0,x,⟨#[]⟩⟩]:=by
            rw [List.take_succ_eq_append_getElem (by simpa using hk'),ay.out];simp [numI,noS,List.getD,hk']
           rw [e,← List.append_assoc];exact al
          case measure=>simp only [intOf];omega
        · have ao:(xs.map numI).take k=xs.map numI:=List.take_of_length_le (by rw [List.length_map,HL.out];omega);rw [ao] at aa;have aj:Hid (OwnsI wr w.heap.size u3 (Rw.items ⟨key,true,xs,wt,cell,no⟩)):=by
           have e:Rw.items ⟨key,true,xs,wt,cell,no⟩=[⟨1,1,0,noS⟩,⟨4,0,key,noS⟩,⟨3,wt,0,noS⟩,⟨2,cell,0,noS⟩,⟨3,no,0,noS⟩,⟨1,len,0,noS⟩] ++ xs.map numI:=by
            unfold Rw.items Rw.head;simp only [HL.out];rfl
           show OwnsI _ _ _ _;rw [e];exact aa.out
          clear ao aa;go_wp2_with fail;go_ret;exact⟨_,rfl,aj.out,ac.out⟩
def Rw.bytes (r:Rw):List Nat:=putB r.items
theorem Rw.may_parts (h:r.may=true):r.key=Fl.key r.key∧r.xs.length≤4∧(r.dead=true→r.xs=[])∧(∀x∈r.xs,x=Fl.val x)∧(0≤r.wr∧r.wr<2147483648)∧(0≤r.cell∧r.cell<65536)∧(0≤r.no∧r.no<2147483648)∧(0<r.cell∨r.no=0):=by
 rw [Zlr] at h;unfold haveB at h;simp at h;obtain⟨⟨h1,⟨h2,h3⟩,h4⟩,⟨⟨⟨⟨⟨h5,h6⟩,h7⟩,h8⟩,h9⟩,aa⟩,ab⟩:=h;refine⟨h1,h2,fun hd=>?_,h4,⟨h5,h6⟩,⟨h7,h8⟩,⟨h9,aa⟩,ab⟩;rcases h3 with h3 | h3
 · rw [h3] at hd;cases hd
 · exact h3
theorem ZnY (x:Nat):(numI x).may=true:=by simp [numI,It.may,Zey]
theorem Zc0 (h:r.may=true):r.items.all It.may=true:=by
 obtain⟨_,h2,_,_,h5,h7,h9,_⟩:=Rw.may_parts h;unfold Rw.items Rw.head;rw [List.all_append];have e:(r.xs.map numI).all It.may=true:=by
  rw [List.all_eq_true];intro i hi;obtain⟨x,_,rfl⟩:=List.mem_map.1 hi;exact ZnY x
 rw [e];simp [It.may,Zey,h5.1,h5.2,h7.1,h7.2,h9.1,h9.2];refine⟨?_,by omega⟩;cases r.dead <;> simp
theorem ZcN (hf:r.fits)(h4:r.xs.length≤4):∀i∈r.items,i.fits:=by
 have f0:(Lit.int .i64 0).wf=true:=ZaE (n:=0) (by decide) (by decide);have f1:(Lit.int .i64 1).wf=true:=ZaE (n:=1) (by decide) (by decide);have f2:(Lit.int .i64 2).wf=true:=ZaE (n:=2) (by decide) (by decide);have f3:(Lit.int .i64 3).wf=true:=ZaE (n:=3) (by decide) (by decide);have f4:(Lit.int .i64 4).wf=true:=ZaE (n:=4) (by decide) (by decide);(have g0:(0:Nat)<18446744073709551616:=by decide);have s0:noS.size≤maxLen:=Nat.zero_le _;intro i hi;unfold Rw.items Rw.head at hi;simp only [List.mem_append,List.mem_cons,List.not_mem_nil,or_false] at hi;rcases hi with (rfl | rfl | rfl | rfl | rfl | rfl) | hi
 · refine⟨f1,?_,g0,s0⟩;cases r.dead
   · exact f0
   · exact f1
 · exact⟨f4,f0,hf.key,s0⟩
 · exact⟨f3,hf.wr,g0,s0⟩
 · exact⟨f2,hf.cell,g0,s0⟩
 · exact⟨f3,hf.no,g0,s0⟩
 · exact⟨f1,ZaE (n:=(r.xs.length:Nat)) (by omega) (by omega),g0,s0⟩
 · obtain⟨x,hx,rfl⟩:=List.mem_map.1 hi;exact Zd6 x (hf.xs x hx)
theorem ZeI (r:Rw):r.items.length=6+r.xs.length:=by simp [Rw.items,Rw.head];omega
theorem ZiX:∀xs:List Nat,(putB (xs.map numI)).length=8*xs.length
 | []=>rfl
 | x :: r=>by
  have:=ZiX r
  simp only [putB,List.map_cons,List.flatMap_cons,List.length_append,List.length_cons] at *
  rw [this]
  simp [numI,It.bytes,Zan]
  omega
theorem ZbF (r:Rw):r.bytes.length=20+8*r.xs.length:=by
 unfold Rw.bytes Rw.items;(have e:putB (r.head ++ r.xs.map numI)=putB r.head ++ putB (r.xs.map numI):=by simp [putB]);rw [e,List.length_append,ZiX];simp [putB,Rw.head,It.bytes,Zan]
theorem OwnsI.lit (w:World)(base:Nat)(l:List It)(hb:base≤w.heap.size)(hm:l.length≤1000000):OwnsI (w.alloc (.cells (Za8 l).toArray 158)) base (.slice (some ⟨w.heap.size,0,none⟩) l.length l.length) l:=by
 have:=World.ownsRow_lit (base:=base) (e:=158) (size:=4) w (Za8 l).toArray l.length hb (by unfold maxLen;omega) (by simp [Zbw]);simpa [OwnsI] using this
theorem Zb3 (h:r.may=true):Bytes r.bytes:=(Zg2 (List.all_eq_true.1 (Zc0 h))).2
theorem Zjy (r:Rw)(a:Option Addr)(len cap:Nat)(w:World)(h:Fs w a len cap r.xs)(hf:r.fits) :
    Calls Tryz.prog 102 #[r.val (.slice a len cap)] w fun e w'=>∃v,e=.returned (.tuple #[v,.int .i64 (chk r.may)])∧Below w.heap.size w w'∧(r.may=true→Owns w' w.heap.size v r.bytes)∧(r.may=false→v=.slice none 0 0):=by
  have HC:Hid (∀w',Below w.heap.size w w'→_):=fun w' hb=>Zbl r a len cap w' (h.keep hb (Nat.le_refl _)) hf;have HX:=hide (Zak w r (.slice a len cap));have HW:Hid (∀o,Below w.heap.size w (w.alloc o)):=Zaa w;have H:=hide h;have HF:=hide hf;clear h hf;cases hm:r.may
  · rw [hm] at HC;unfold chk at HC ⊢;unfold Rw.val at HC ⊢;go_enter Tryz.func102,Tryz.ntmps102;go_wp2_with fail;refine(HC.out _ (HW.out _)).mono ?_;rintro e w1 ⟨rfl,ab⟩;have ac:=hide (Zad (HW.out _) ab);clear ab;go_wp2_with fail;go_ret2;exact⟨_,rfl,ac.out,(fun h=>by cases h),fun _=>rfl⟩
  · have hp:=Rw.may_parts hm;(have am:Hid (len≤4):=by have:=hp.2.1;rw [H.out.len] at this;exact this);have HI:Hid (∀w',Below w.heap.size w w'→_):=fun w' hb=>Zle r a len cap w' (H.out.keep hb (Nat.le_refl _)) am.out;have HM:=hide hm;have HP:=hide hp;rw [hm] at HC;clear hp;unfold chk at HC ⊢;unfold Rw.val at HC HI ⊢;go_enter Tryz.func102,Tryz.ntmps102;go_wp2_with fail;refine(HC.out _ (HW.out _)).mono ?_;rintro e w1 ⟨rfl,ab⟩;have ac:=hide (Zad (HW.out _) ab);have aa:=hide (HX.out.keep ab);have x0:=aa.out.c0;have x1:=aa.out.c1;have x2:=aa.out.c2;have x3:=aa.out.c3;have x4:=aa.out.c4;have x5:=aa.out.c5;clear ab;go_wp2_with fail;refine(HI.out _ ac.out).mono ?_;rintro e w2 ⟨v2,rfl,aj,af⟩;have ae:=hide (Zad ac.out af);obtain⟨a2,c2,al,is2,_⟩:=aj.is (ZcN HF.out HP.out.2.1);have ah:=ZeI r;obtain⟨n2,ai⟩:∃n,r.items.length=n:=⟨_,rfl⟩;rw [ai] at al is2 ah;subst al;have ad:=hide (Zof a2 n2 c2 r.items w2 is2 (by have:=HP.out.2.1;omega));rw [Zc0 HM.out] at ad;unfold chk at ad;clear aj af is2 ah ai x0 x1 x2 x3 x4 x5;go_wp2_with fail;refine ad.out.mono ?_;rintro e w3 ⟨v3,rfl,ag,ak,_⟩;have ao:=hide (Zad ae.out ag);have an:=hide ((ak (by trivial)).lower ae.out.size);clear ag ak;go_wp2_with fail;go_ret2;exact⟨_,rfl,ao.out,fun _=>an.out,fun h=>by cases h⟩
theorem Zc4 (r:Rw)(a:Option Addr)(len cap:Nat)(w:World)(h:Fs w a len cap r.xs)(hf:r.fits)(hm:r.may=true) :
    Calls Tryz.prog 108 #[r.val (.slice a len cap)] w fun e w'=>∃v,e=.returned v∧Owns w' w.heap.size v r.bytes∧Below w.heap.size w w':=by
  (have h4:len≤4:=by have:=(Rw.may_parts hm).2.1;rw [h.len] at this;exact this);have HM:=hide hm;have HF:=hide hf;obtain⟨key,dead,xs,wt,cell,no⟩:=r;have H:=hide h;have HL:=hide h.len;have HX:=hide (Zak w ⟨key,dead,xs,wt,cell,no⟩ (.slice a len cap));clear h hf hm;simp only at HX HL H;unfold Rw.val;simp only;cases dead
  · have ag:=hide (OwnsI.lit (w.alloc (.cells #[.float .f64 key,.bool false,.slice a len cap,.int .i64 wt,.int .i64 cell,.int .i64 no] 33)) w.heap.size [⟨1,0,0,noS⟩,⟨4,0,key,noS⟩,⟨3,wt,0,noS⟩,⟨2,cell,0,noS⟩,⟨3,no,0,noS⟩,⟨1,(len:Nat),0,noS⟩] (by simp) (by simp));have bd:=hide (ZbE w (.cells #[.float .f64 key,.bool false,.slice a len cap,.int .i64 wt,.int .i64 cell,.int .i64 no] 33) (.cells (Za8 [⟨1,0,0,noS⟩,⟨4,0,key,noS⟩,⟨3,wt,0,noS⟩,⟨2,cell,0,noS⟩,⟨3,no,0,noS⟩,⟨1,(len:Nat),0,noS⟩]).toArray 158));have bg:=hide (HX.out.keep (Zaa (w.alloc (.cells #[.float .f64 key,.bool false,.slice a len cap,.int .i64 wt,.int .i64 cell,.int .i64 no] 33)) (.cells (Za8 [⟨1,0,0,noS⟩,⟨4,0,key,noS⟩,⟨3,wt,0,noS⟩,⟨2,cell,0,noS⟩,⟨3,no,0,noS⟩,⟨1,(len:Nat),0,noS⟩]).toArray 158)));(have aw:(w.alloc (.cells #[.float .f64 key,.bool false,.slice a len cap,.int .i64 wt,.int .i64 cell,.int .i64 no] 33)).heap.size=w.heap.size+1:=by simp);rw [aw] at ag;clear aw HX;go_enter Tryz.func108,Tryz.ntmps108;go_wp2_with fail;go_loopw [4,5] (fun v i wr'=>∃k:Nat,k≤len∧i=.int .i64 k∧Hid (OwnsI wr' w.heap.size v ([⟨1,0,0,noS⟩,⟨4,0,key,noS⟩,⟨3,wt,0,noS⟩,⟨2,cell,0,noS⟩,⟨3,no,0,noS⟩,⟨1,(len:Nat),0,noS⟩] ++ (xs.map numI).take k))∧Hid (Below w.heap.size w wr')∧Hid (RwBlk wr' w.heap.size ⟨key,false,xs,wt,cell,no⟩ (.slice a len cap))) (fun _ i _=>len-(intOf i).toNat)
    case atStart=>exact ⟨0,by omega,rfl,ag,bd,bg⟩
    case round =>
     obtain⟨k,hk,rfl,aa,ad,al⟩:=hrel;have x2:=al.out.c2;rcases Nat.lt_or_ge k len with ao | bh
     · obtain⟨b,off,rfl,hc,ac,hx⟩:=(H.out.keep ad.out (Nat.le_refl _)).at k ao;obtain⟨x,af⟩:∃x,x=xs.getD k 0:=⟨_,rfl⟩;rw [← af] at hc ac hx;have bf:=hide af;have ah:=hide (aa.out.keep (Zaa wr (.cells #[.int .i64 4,.int .i64 0,.float .f64 x,.string ⟨#[]⟩] 158)) (Nat.le_refl _));have aj:=hide (Zad ad.out (Zaa wr (.cells #[.int .i64 4,.int .i64 0,.float .f64 x,.string ⟨#[]⟩] 158)));have ak:=hide (al.out.keep (Zaa wr (.cells #[.int .i64 4,.int .i64 0,.float .f64 x,.string ⟨#[]⟩] 158)));have HI:=hide (Zcn wr (numI x) (Zd6 x hx));unfold numI noS at HI;simp only at HI;(have ab:Hid ((([⟨1,0,0,noS⟩,⟨4,0,key,noS⟩,⟨3,wt,0,noS⟩,⟨2,cell,0,noS⟩,⟨3,no,0,noS⟩,⟨1,(len:Nat),0,noS⟩]:List It) ++ (xs.map numI).take k).length+1≤1000000):=by show _≤_;simp;omega);clear af ac hx;go_wp2_with (at_builtin;refine Zat _ rfl (.tmp 38) (.tmp 45) rfl w.heap.size _ _ rfl ah.out _ _ _ _ rfl HI.out (fun h=>by cases h) ab.out aj.out.size ?_);intro v7 w7 aq am av;have az:=hide aq;have bb:=hide (aj.out.trans am);have be:=hide (ak.out.stayI av);clear aq am av ah HI ab ak x2;go_wp2;go_roundw
       case rel =>
        (have hk':k<xs.length:=by rw [HL.out];exact ao);refine⟨k+1,by omega,by go_num,?_,bb,be⟩;have e:(xs.map numI).take (k+1)=(xs.map numI).take k ++ [⟨4,0,x,⟨#[]⟩⟩]:=by
         rw [List.take_succ_eq_append_getElem (by simpa using hk'),bf.out];simp [numI,noS,List.getD,hk']
        rw [e,← List.append_assoc];exact az
       case measure=>simp only [intOf];omega
     · have ax:(xs.map numI).take k=xs.map numI:=List.take_of_length_le (by rw [List.length_map,HL.out];omega);rw [ax] at aa;have au:OwnsI wr w.heap.size u4 (Rw.items ⟨key,false,xs,wt,cell,no⟩):=by
        have e:Rw.items ⟨key,false,xs,wt,cell,no⟩=[⟨1,0,0,noS⟩,⟨4,0,key,noS⟩,⟨3,wt,0,noS⟩,⟨2,cell,0,noS⟩,⟨3,no,0,noS⟩,⟨1,(len:Nat),0,noS⟩] ++ xs.map numI:=by
         unfold Rw.items Rw.head;simp only [HL.out];rfl
        rw [e];exact aa.out
       obtain⟨a2,c2,ay,is2,_⟩:=au.is (ZcN HF.out (by show xs.length≤4;rw [HL.out];exact h4));have ae:(Rw.items ⟨key,false,xs,wt,cell,no⟩).length=6+xs.length:=ZeI _;obtain⟨n2,ap⟩:∃n,(Rw.items ⟨key,false,xs,wt,cell,no⟩).length=n:=⟨_,rfl⟩;rw [ap] at ay is2 ae;subst ay;have ai:=hide (ZfL a2 n2 c2 _ wr is2 (by rw [HL.out] at ae;omega));rw [Zc0 HM.out] at ai;clear ax aa au is2 ae ap;go_wp2_with fail;refine ai.out.mono ?_;rintro e w8 ⟨v8,rfl,an,ar,_⟩;have bc:=hide (Zad ad.out an);have ba:=hide ((ar (by trivial)).lower ad.out.size);clear an ar x2;go_wp2_with fail;go_ret;exact⟨_,rfl,ba.out,bc.out⟩
  · have ag:=hide (OwnsI.lit (w.alloc (.cells #[.float .f64 key,.bool true,.slice a len cap,.int .i64 wt,.int .i64 cell,.int .i64 no] 33)) w.heap.size [⟨1,1,0,noS⟩,⟨4,0,key,noS⟩,⟨3,wt,0,noS⟩,⟨2,cell,0,noS⟩,⟨3,no,0,noS⟩,⟨1,(len:Nat),0,noS⟩] (by simp) (by simp));have bd:=hide (ZbE w (.cells #[.float .f64 key,.bool true,.slice a len cap,.int .i64 wt,.int .i64 cell,.int .i64 no] 33) (.cells (Za8 [⟨1,1,0,noS⟩,⟨4,0,key,noS⟩,⟨3,wt,0,noS⟩,⟨2,cell,0,noS⟩,⟨3,no,0,noS⟩,⟨1,(len:Nat),0,noS⟩]).toArray 158));have bg:=hide (HX.out.keep (Zaa (w.alloc (.cells #[.float .f64 key,.bool true,.slice a len cap,.int .i64 wt,.int .i64 cell,.int .i64 no] 33)) (.cells (Za8 [⟨1,1,0,noS⟩,⟨4,0,key,noS⟩,⟨3,wt,0,noS⟩,⟨2,cell,0,noS⟩,⟨3,no,0,noS⟩,⟨1,(len:Nat),0,noS⟩]).toArray 158)));(have aw:(w.alloc (.cells #[.float .f64 key,.bool true,.slice a len cap,.int .i64 wt,.int .i64 cell,.int .i64 no] 33)).heap.size=w.heap.size+1:=by simp);rw [aw] at ag;clear aw HX;go_enter Tryz.func108,Tryz.ntmps108;go_wp2_with fail;go_loopw [4,5] (fun v i wr'=>∃k:Nat,k≤len∧i=.int .i64 k∧Hid (OwnsI wr' w.heap.size v ([⟨1,1,0,noS⟩,⟨4,0,key,noS⟩,⟨3,wt,0,noS⟩,⟨2,cell,0,noS⟩,⟨3,no,0,noS⟩,⟨1,(len:Nat),0,noS⟩] ++ (xs.map numI).take k))∧Hid (Below w.heap.size w wr')∧Hid (RwBlk wr' w.heap.size ⟨key,true,xs,wt,cell,no⟩ (.slice a len cap))) (fun _ i _=>len-(intOf i).toNat)
    case atStart=>exact ⟨0,by omega,rfl,ag,bd,bg⟩
    case round =>
     obtain⟨k,hk,rfl,aa,ad,al⟩:=hrel;have x2:=al.out.c2;rcases Nat.lt_or_ge k len with ao | bh
     · obtain⟨b,off,rfl,hc,ac,hx⟩:=(H.out.keep ad.out (Nat.le_refl _)).at k ao;obtain⟨x,af⟩:∃x,x=xs.getD k 0:=⟨_,rfl⟩;rw [← af] at hc ac hx;have bf:=hide af;have ah:=hide (aa.out.keep (Zaa wr (.cells #[.int .i64 4,.int .i64 0,.float .f64 x,.string ⟨#[]⟩] 158)) (Nat.le_refl _));have aj:=hide (Zad ad.out (Zaa wr (.cells #[.int .i64 4,.int .i64 0,.float .f64 x,.string ⟨#[]⟩] 158)));have ak:=hide (al.out.keep (Zaa wr (.cells #[.int .i64 4,.int .i64 0,.float .f64 x,.string ⟨#[]⟩] 158)));have HI:=hide (Zcn wr (numI x) (Zd6 x hx));unfold numI noS at HI;simp only at HI;(have ab:Hid ((([⟨1,1,0,noS⟩,⟨4,0,key,noS⟩,⟨3,wt,0,noS⟩,⟨2,cell,0,noS⟩,⟨3,no,0,noS⟩,⟨1,(len:Nat),0,noS⟩]:List It) ++ (xs.map numI).take k).length+1≤1000000):=by show _≤_;simp;omega);clear af ac hx;go_wp2_with (at_builtin;refine Zat _ rfl (.tmp 38) (.tmp 45) rfl w.heap.size _ _ rfl ah.out _ _ _ _ rfl HI.out (fun h=>by cases h) ab.out aj.out.size ?_);intro v7 w7 aq am av;have az:=hide aq;have bb:=hide (aj.out.trans am);have be:=hide (ak.out.stayI av);clear aq am av ah HI ab ak x2;go_wp2;go_roundw
       case rel =>
        (have hk':k<xs.length:=by rw [HL.out];exact ao);refine⟨k+1,by omega,by go_num,?_,bb,be⟩;have e:(xs.map numI).take (k+1)=(xs.map numI).take k ++ [⟨4,0,x,⟨#[]⟩⟩]:=by
         rw [List.take_succ_eq_append_getElem (by simpa using hk'),bf.out];simp [numI,noS,List.getD,hk']
        rw [e,← List.append_assoc];exact az
       case measure=>simp only [intOf];omega
     · have ax:(xs.map numI).take k=xs.map numI:=List.take_of_length_le (by rw [List.length_map,HL.out];omega);rw [ax] at aa;have au:OwnsI wr w.heap.size u4 (Rw.items ⟨key,true,xs,wt,cell,no⟩):=by
        have e:Rw.items ⟨key,true,xs,wt,cell,no⟩=[⟨1,1,0,noS⟩,⟨4,0,key,noS⟩,⟨3,wt,0,noS⟩,⟨2,cell,0,noS⟩,⟨3,no,0,noS⟩,⟨1,(len:Nat),0,noS⟩] ++ xs.map numI:=by
         unfold Rw.items Rw.head;simp only [HL.out];rfl
        rw [e];exact aa.out
       obtain⟨a2,c2,ay,is2,_⟩:=au.is (ZcN HF.out (by show xs.length≤4;rw [HL.out];exact h4));have ae:(Rw.items ⟨key,true,xs,wt,cell,no⟩).length=6+xs.length:=ZeI _;obtain⟨n2,ap⟩:∃n,(Rw.items ⟨key,true,xs,wt,cell,no⟩).length=n:=⟨_,rfl⟩;rw [ap] at ay is2 ae;subst ay;have ai:=hide (ZfL a2 n2 c2 _ wr is2 (by rw [HL.out] at ae;omega));rw [Zc0 HM.out] at ai;clear ax aa au is2 ae ap;go_wp2_with fail;refine ai.out.mono ?_;rintro e w8 ⟨v8,rfl,an,ar,_⟩;have bc:=hide (Zad ad.out an);have ba:=hide ((ar (by trivial)).lower ad.out.size);clear an ar x2;go_wp2_with fail;go_ret;exact⟨_,rfl,ba.out,bc.out⟩
theorem Pl.copyV {P:Program}{ops:Array Oper}{f:Nat→Value}(i:Nat)(t:TypeId)(x y:Operand)(v:Value)(w':World)(h:(Pl.op ops i).op=.call { callee:=.builtin .copy,args:=#[x,y],argTypes:=#[t,t] })(hx:Pl.inB n x=true)(hy:Pl.inB n y=true)
    (hv:∀ty,(Builtin.copy_ #[t,t] ty #[Pl.ev f x,Pl.ev f y]).run P w=.ok v w') :
    ∀A,Pl.At n A f→(execOp A.eval (Pl.op ops i)).run P w=.ok (.value v) w':=by
  intro A hA;unfold execOp;rw [h];simp [resolve,invoke,builtin,hA.ev x hx,hA.ev y hy,hv]
theorem szI (w:World):(sizeOf 3).run Tryz.prog w=.ok 1 w:=by
 obtain⟨i0,hi,ab,aa,ac⟩:=info_parts Zlv.info;simp [sizeOf,typeInfo,hi,aa]
theorem Zo3:Tryz.prog.elem 46=3:=by kernel_rfl
theorem Zin (a:Option Addr)(len cap k:Nat)(hk:k≤len)(w:World):(Instr.sliceAt 46 (.slice a len cap) (some (.int .i64 (k:Nat))) none none).run Tryz.prog w=.ok (.slice (fromA a cap k) (len-k) (cap-k)) w:=by
 (have aa:Tryz.prog.underlying 46=some (.slice (Tryz.prog.elem 46)):=by kernel_rfl);rw [run_sliceAt_slice w 46 _ _ _ _ aa,run_slice_l w 46 a len cap aa .i64 (k:Nat) (by omega) (by omega),Zo3,szI];simp [Result.andThen,sliced,fromA]
theorem Zip (a:Option Addr)(len cap k:Nat)(hk:k≤cap)(w:World):(Instr.sliceAt 46 (.slice a len cap) none (some (.int .i64 (k:Nat))) none).run Tryz.prog w=.ok (.slice (fromA a cap 0) k cap) w:=by
 (have aa:Tryz.prog.underlying 46=some (.slice (Tryz.prog.elem 46)):=by kernel_rfl);rw [run_sliceAt_slice w 46 _ _ _ _ aa,run_slice_h w 46 a len cap aa .i64 (k:Nat) (by omega) (by omega),Zo3,szI];simp [Result.andThen,sliced,fromA]
theorem Zny:∀n:Fin 256,bits .and .u64 (n.val:Int) 4294967295=(n.val:Int):=by decide +kernel
theorem Zlt (n:Nat)(hn:n≤255)(w:World):Calls Tryz.prog 191 #[.int .u64 1,.int .u64 (n:Nat)] w fun e w'=>e=.returned (.tuple #[.int .u64 0,.int .u64 (n:Nat)])∧w'=w:=by
 (have ab:bits .and .u64 1 4294967295=1:=by decide +kernel);(have aa:bits .and .u64 0 4294967295=0:=by decide +kernel);have ac:bits .and .u64 (n:Int) 4294967295=(n:Int):=Zny ⟨n,by omega⟩;(have hd:(n:Int) / 4294967296=0:=by omega);(have hw:IntKind.u64.wrap (n:Int)=(n:Int):=by rw [IntKind.wrap_u64];omega);(have h0:IntKind.u64.wrap 0=0:=by decide);clear hn;go_enter Tryz.func191,Tryz.ntmps191;go_wp2_with fail;go_ret2;exact⟨by simp,rfl⟩
theorem mul_one (n:Nat)(hn:n≤255)(w:World):Calls Tryz.prog 188 #[.int .u64 1,.int .u64 (n:Nat)] w fun e w'=>e=.returned (.tuple #[.int .u64 0,.int .u64 (n:Nat)])∧w'=w:=by
 have H:=hide (Zlt n hn);go_enter Tryz.func188,Tryz.ntmps188;go_wp2_with fail;refine(H.out _).mono ?_;rintro e w' ⟨rfl,hw⟩;obtain rfl:=hw.symm;go_wp2_with fail;go_ret2;exact⟨rfl,rfl⟩
def fours (n:Nat):List Value:=kVals (List.replicate n 4)
def noughts (n:Nat):List Value:=kVals (List.replicate n 0)
theorem Zay (n:Nat):(fours n).length=n:=by simp [fours,kVals]
theorem Zia (n:Nat):(noughts n).length=n:=by simp [noughts,kVals]
theorem ZeC (n:Nat):∀u∈fours n,u.oneCell'=true:=Zhf _
theorem ZgV {v:Value}(h:(fours n)[j]? = some v):j<n∧v=.int .i64 4:=by
 have hl:=(List.getElem?_eq_some_iff.1 h).1;rw [Zay] at hl;simp [fours,kVals,hl] at h;exact⟨hl,h.symm⟩
def partly (n m:Nat):List Value:=fours m ++ noughts (n-m)
theorem ZfG (h:m≤n):(partly n m).length=n:=by
 simp [partly,Zay,Zia];omega
theorem ZjS (h:j<m):(partly n m)[j]? = some (.int .i64 4):=by
 unfold partly;rw [List.getElem?_append_left (by rw [Zay];exact h)];simp [fours,kVals,h]
theorem ZeT (n m c:Nat):(partly n m).take m ++ fours c ++ (partly n m).drop (m+c)=partly n (m+c):=by
 have e1:(partly n m).take m=fours m:=by
  unfold partly;rw [List.take_append_of_le_length (by rw [Zay];exact Nat.le_refl _),List.take_of_length_le (by rw [Zay];exact Nat.le_refl _)]
 have e2:(partly n m).drop (m+c)=noughts (n-(m+c)):=by
  unfold partly;rw [List.drop_append,Zay,List.drop_eq_nil_of_le (by rw [Zay];omega)];(have e3:m+c-m=c:=by omega);rw [e3,List.nil_append];unfold noughts kVals;rw [← List.map_drop,List.drop_replicate];congr 2;omega
 rw [e1,e2];unfold partly fours kVals;rw [← List.map_append,List.replicate_append_replicate]
theorem Zic (h:w.heap[g]? = some (Obj.cells (partly n m).toArray 3 (0,0)))(hj:j<m):w.cell? ⟨g,j,none⟩=some (.int .i64 4):=by
 simp only [World.cell?,h];simpa using ZjS (n:=n) hj
theorem Zim (g n m:Nat)(h:m<n)(w:World):(Instr.sliceAt 46 (.slice (some ⟨g,0,none⟩) n n) (some (.int .i64 (m:Nat))) none none).run Tryz.prog w=.ok (.slice (some ⟨g,m,none⟩) (n-m) (n-m)) w:=by
 rw [Zin _ n n m (by omega)];unfold fromA;rw [if_neg (by omega)];simp [Addr.add_lit]
theorem Zio (g n m:Nat)(h:m<n)(w:World):(Instr.sliceAt 46 (.slice (some ⟨g,0,none⟩) n n) none (some (.int .i64 (m:Nat))) none).run Tryz.prog w=.ok (.slice (some ⟨g,0,none⟩) m n) w:=by
 rw [Zip _ n n m (by omega)];unfold fromA;rw [if_neg (by omega)];simp [Addr.add_lit]
theorem Zk1 (g n m:Nat)(hm:m<n)(w:World)(hg:w.heap[g]? = some (Obj.cells (partly n m).toArray 3 (0,0)))(ty:TypeId) :
    (Builtin.copy_ #[46,46] ty #[.slice (some ⟨g,m,none⟩) (n-m) (n-m),.slice (some ⟨g,0,none⟩) m n]).run Tryz.prog w=.ok (.int .i64 ((Nat.min m (n-m):Nat):Int)) (w.setRow g (partly n (m+Nat.min m (n-m))).toArray):=by
  have hc:Nat.min m (n-m)≤m∧Nat.min m (n-m)≤n-m:=⟨Nat.min_le_left _ _,Nat.min_le_right _ _⟩;generalize aa:Nat.min m (n-m)=c at *;have h:=run_copy_row (P:=Tryz.prog) w 46 46 ty 3 g m (n-m) (n-m) ⟨g,0,none⟩ m n (partly n m).toArray 3 (fours c) Tryz.underlying46 (by kernel_rfl) hg (by rw [Zay,aa])
   (fun j v hj=>by
    obtain⟨h1,rfl⟩:=ZgV hj;rw [Addr.add_lit,Nat.zero_add];exact Zic hg (by omega)) (by rw [Zay];simp [ZfG (Nat.le_of_lt hm)];omega) (ZeC c)
  rw [h,Zay];rw [ZeT n m c];rfl
theorem ZlB {cur:Array Value}{t:TypeId}(h:w.heap[g]? = some (Obj.cells cur t (0,0)))(new:Array Value):(w.setRow g new).heap[g]? = some (Obj.cells new t (0,0)):=setRow_heap w g _ _ t _ h
theorem rep9 (w0 w:World)(g n m:Nat)(hm:m<n)(hn:n≤1000000)(hB:w0.heap.size≤g)(hg:w.heap[g]? = some (Obj.cells (partly n m).toArray 3 (0,0)))(hW:Below w0.heap.size w0 w)
    {Q:Exit→Act→World→Prop}{A:Act}(hsz:A.tmps.size=48)(hdf:A.defers=[])(s7:A.tmps.getD 7 undef=.slice (some ⟨g,0,none⟩) n n)(s8:A.tmps.getD 8 undef=.int .i64 (m:Nat))
    (hend:∀(u:Nat→Value) w',(Below w0.heap.size w0 w'∧w'.heap[g]? = some (Obj.cells (partly n (m+Nat.min m (n-m))).toArray 3 (0,0)))→Q .normal (((((((((((A).put (some 38) (u 38)).put (some 39) (u 39)).put (some 40) (u 40)).put (some 41) (u 41)).put (some 42) (u 42)).put (some 43) (u 43)).put (some 44) (u 44)).put (some 45) (u 45)).put (some 46) (u 46)).put (some 8) (.int .i64 ((m+Nat.min m (n-m):Nat):Int))) w') :
    (Code.region 9 (Pl.find 9 ((Tryz.f178.body).getD .skip)) true).wp Tryz.prog Q A w:=by
  have hS0:Below w0.heap.size w0 w.drew:=hW.drew
  have hA:=Pl.At.same (v:=.int .i64 (m:Nat)) (d:=8) (Pl.At.same (v:=.slice (some ⟨g,0,none⟩) n n) (d:=7) (Pl.At.here hsz hdf) s7) s8
  refine Pl.qa (S:=fun w'=>Below w0.heap.size w0 w') hA hS0 ?_
  rw [show (Pl.find 9 ((Tryz.f178.body).getD .skip)).size=10 by kernel_rfl]
  refine Pl.q0 0 38 (.int .i64 (m:Nat)) (Pl.q1) (Pl.q2 (.tmp 8)) hS0 ?_
  refine Pl.q0 1 39 (.slice (some ⟨g,0,none⟩) n n) (Pl.q1) (Pl.q2 (.tmp 7)) hS0 ?_
  refine Pl.q0 2 40 (.int .i64 (m:Nat)) (Pl.q1) (Pl.q2 (.tmp 8)) hS0 ?_
  refine Pl.q0 3 41 (.slice (some ⟨g,m,none⟩) (n-m) (n-m)) (Pl.q1) (Pl.q_36 46 (.tmp 39) (some (.tmp 40)) none (fun w=>Zim g n m hm w)) hS0 ?_
  refine Pl.q0 4 42 (.slice (some ⟨g,0,none⟩) n n) (Pl.q1) (Pl.q2 (.tmp 7)) hS0 ?_
  refine Pl.q0 5 43 (.int .i64 (m:Nat)) (Pl.q1) (Pl.q2 (.tmp 8)) hS0 ?_
  refine Pl.q0 6 44 (.slice (some ⟨g,0,none⟩) m n) (Pl.q1) (Pl.q_36 46 (.tmp 42) none (some (.tmp 43)) (fun w=>Zio g n m hm w)) hS0 ?_
  have hg1:=ZlB (w:=w.drew) hg (partly n (m+Nat.min m (n-m))).toArray
  have hS1:Below w0.heap.size w0 (w.drew.setRow g (partly n (m+Nat.min m (n-m))).toArray):=below_setRow hS0 hB _
  refine Pl.qo 7 45 (.int .i64 ((Nat.min m (n-m):Nat):Int)) (w.drew.setRow g (partly n (m+Nat.min m (n-m))).toArray) (Pl.q1) (Pl.copyV 7 46 (.tmp 41) (.tmp 44) _ _ (by kernel_rfl) (by decide) (by decide) (fun ty=>Zk1 g n m hm w.drew hg ty)) hS1 ?_
  refine Pl.q0 8 46 (.int .i64 ((m+Nat.min m (n-m):Nat):Int)) (Pl.q1) (Pl.qe .add 3 3 (.tmp 38) (.tmp 45) (.int .i64 (m:Nat)) (.int .i64 ((Nat.min m (n-m):Nat):Int)) (fun w=>Zkt m (Nat.min m (n-m)) _ _ (by have h1:Nat.min m (n-m)≤m:=Nat.min_le_left _ _;omega) w)) hS1 ?_
  refine Pl.q0 9 8 (.int .i64 ((m+Nat.min m (n-m):Nat):Int)) (Pl.q1) (Pl.qf (.tmp 46)) hS1 ?_
  refine Pl.q7 (fun A' hA'=>?_)
  rw [Pl.At.ext hA' ((((((((((hA.put 38 _).put 39 _).put 40 _).put 41 _).put 42 _).put 43 _).put 44 _).put 45 _).put 46 _).put 8 _)]
  exact hend hA'.fn _ ⟨hS1,hg1⟩
theorem Zhk (h:w.ownsRow base 3 1 (.slice (some ⟨g,0,none⟩) n cap) n (madeCells #[Value.int .i64 0] n).toList)(hc:cap=n):w.heap[g]? = some (Obj.cells (partly n 0).toArray 3 (0,0)):=by
 have e:(madeCells #[Value.int .i64 0] n).toList=partly n 0:=by
  rw [toList_madeCells_one];simp [partly,fours,noughts,kVals]
 rw [e] at h;rcases h.2 with ⟨hv,_⟩ | ⟨g',cap',cur,hv,_,hg,_,_,aa,ab⟩
 · cases hv
 · simp only [Value.slice.injEq,Option.some.injEq,Addr.mk.injEq,and_true,true_and] at hv;obtain⟨rfl,rfl⟩:=hv;have:cur.toList=partly n 0:=by
    rw [← ab,List.take_of_length_le];rw [Array.length_toList,aa,hc];exact Nat.le_refl _
   rw [hg];congr 2;apply Array.toList_inj.1;simpa using this
theorem Zid (hb:base≤g)(hn:n≤1000000)(h:w.heap[g]? = some (Obj.cells (partly n n).toArray 3 (0,0))):OwnsV 3 w base (.slice (some ⟨g,0,none⟩) n n) (fours n):=by
 (have e:partly n n=fours n:=by simp [partly,noughts,kVals]);rw [e] at h;unfold OwnsV;rw [Zay];refine⟨by rw [Zay,Nat.mul_one],.inr ⟨g,n,_,rfl,hb,h,Nat.le_refl _,by unfold maxLen;omega,?_,?_⟩⟩
 · simp [Zay]
 · rw [List.take_of_length_le (by simp [Zay])]
theorem Zju (g b n:Nat)(w:World)(hg:w.heap[g]? = some (Obj.cells (partly n 0).toArray 3 (0,0)))(hb:w.cell? ⟨b,0,none⟩=some (.int .i64 4))(ty:TypeId) :
    (Builtin.copy_ #[46,46] ty #[.slice (some ⟨g,0,none⟩) n n,.slice (some ⟨b,0,none⟩) 1 1]).run Tryz.prog w=.ok (.int .i64 ((Nat.min 1 n:Nat):Int)) (w.setRow g (partly n (Nat.min 1 n)).toArray):=by
  have hc:Nat.min 1 n≤1∧Nat.min 1 n≤n:=⟨Nat.min_le_left _ _,Nat.min_le_right _ _⟩;generalize aa:Nat.min 1 n=c at *;have h:=run_copy_row (P:=Tryz.prog) w 46 46 ty 3 g 0 n n ⟨b,0,none⟩ 1 1 (partly n 0).toArray 3 (fours c) Tryz.underlying46 (by kernel_rfl) hg (by rw [Zay,aa])
   (fun j v hj=>by
    obtain⟨h1,rfl⟩:=ZgV hj;(obtain rfl:j=0:=by omega);simpa [Addr.add] using hb) (by rw [Zay];simp [ZfG (Nat.zero_le n)];omega) (ZeC c)
  rw [h,Zay];have e:=ZeT n 0 c;rw [e,Nat.zero_add];rfl
theorem ZjW (b n:Nat)(w:World)(hx:w.cell? ⟨b,0,none⟩=some (.int .i64 4))(hn:n≤255) :
    Calls Tryz.prog 178 #[.slice (some ⟨b,0,none⟩) 1 1,.int .i64 (n:Nat)] w fun e w'=>∃v,e=.returned v∧OwnsV 3 w' w.heap.size v (fours n)∧Below w.heap.size w w':=by
  obtain⟨i0,hi,ai,aj,ak⟩:=info_parts Zlv.info;have HM:=hide (mul_one n hn);have HX:=hide hx;(have av:IntKind.u64.wrap (n:Int)=(n:Int):=by rw [IntKind.wrap_u64];omega);(have aw:IntKind.i64.wrap (n:Int)=(n:Int):=by rw [IntKind.wrap_i64];omega);clear hx;go_enter Tryz.func178,Tryz.ntmps178;go_wp2_with fail;refine(HM.out _).mono ?_;rintro e w' ⟨rfl,hw⟩;obtain rfl:=hw.symm;go_wp2_with (at_make;refine wpList_make_full _ rfl _ _ 46 rfl w.heap.size 3 i0 (.int .i64 0) 1 Tryz.underlying46 hi ai aj _ _ _ _ n rfl rfl (by omega) (by omega) ?b2 ?b3 (Nat.le_refl _) ?_)
  case b2=>rw [ak];omega
  case b3=>unfold maxLen;omega
  intro w0 ab aa;have HG:=hide (Zhk ab rfl);have HW:Hid (Below w.heap.size w w0):=(Below.refl w.heap.size w).grown aa (Nat.le_refl _) (fun k hk=>by cases hk);have HC:Hid (w0.cell? ⟨b,0,none⟩=some (.int .i64 4)):=(HW.out.cell (World.block_lt_of_cell? w _ HX.out)).trans HX.out;have ac:Hid (Nat.min 1 n≤n∧(0<n→0<Nat.min 1 n)):=⟨Nat.min_le_right _ _,fun h=>by rw [Nat.lt_min];omega⟩;have af:=Zju w.heap.size b n w0 HG.out HC.out;have am:=hide (ZlB HG.out (partly n (Nat.min 1 n)).toArray);have ao:=hide (below_setRow HW.out (Nat.le_refl w.heap.size) (partly n (Nat.min 1 n)).toArray);generalize Nat.min 1 n=c at *;generalize w0.setRow w.heap.size (partly n c).toArray=w1 at *;clear ab aa hi ai aj ak HW HG;go_wp2_with fail;go_loopw [8] (fun i wr'=>∃m:Nat,m≤n∧(0<n→0<m)∧i=.int .i64 m∧Hid (wr'.heap[w.heap.size]? = some (Obj.cells (partly n m).toArray 3 (0,0)))∧Hid (Below w.heap.size w wr')) (fun i _=>n-(intOf i).toNat)
  case atStart=>exact ⟨c,ac.out.1,ac.out.2,rfl,am,ao⟩
  case round =>
   obtain⟨m,hm,aq,rfl,hg,ad⟩:=hrel;rcases Nat.lt_or_ge m n with ap | au
   · have HL:=hide ap;go_wp2_with fail;refine Pl.q9 (ops:=Pl.find 9 ((Tryz.f178.body).getD .skip)) ?_;refine rep9 w wr w.heap.size n m HL.out (by omega) (Nat.le_refl _) hg.out ad.out (by rfl) (by rfl) (by rfl) (by rfl) ?_;intro u w2 ⟨ae,ag⟩;simp only [Act.put,List.setIfInBounds_toArray,List.set_cons_zero,List.set_cons_succ];have al:=hide ae;have an:=hide ag;have ar:Nat.min m (n-m)≤n-m∧0<Nat.min m (n-m):=⟨Nat.min_le_right _ _,by rw [Nat.lt_min];omega⟩;clear ae ag;generalize Nat.min m (n-m)=c2 at *;go_wp2_with fail;go_roundw
     case rel=>exact ⟨m+c2,by omega,by omega,by go_num,an,al⟩
     case measure=>simp only [intOf];omega
   · (have ah:m=n:=by omega);have HO:Hid (OwnsV 3 wr w.heap.size (.slice (some ⟨w.heap.size,0,none⟩) n n) (fours n)):=Zid (Nat.le_refl _) (by omega) (by have:=hg.out;rw [ah] at this;exact this);clear ah;go_wp2_with fail;go_ret;exact⟨_,rfl,HO.out,ad.out⟩
theorem Zjj {xs:List Nat}(hx:Bytes xs)(hl:xs.length≤1000000):∀(ks:List Int)(l:List It)(q:Nat)(r:List It × Nat),(∀k∈ks,1≤k∧k≤5)→q≤xs.length→tks xs ks l q=some r→r.2≤xs.length
 | [],l,q,r,_,hq,h=>by
  simp only [tks,Option.some.injEq] at h
  rw [← h]
  exact hq
 | k :: ks,l,q,r,hk,hq,h=>by
  simp only [tks] at h
  split at h
  · cases h
  · rename_i i n hi
    have hb:Bytes (xs.drop q):=fun x hh=>hx x (List.mem_of_mem_drop hh)
    have:=(Zec hb (by rw [List.length_drop];omega) (hk k (by simp)) hi).2
    rw [List.length_drop] at this
    exact Zjj hx hl ks _ _ r (fun k' h'=>hk k' (by simp [h'])) (by omega) h
theorem Ze2 {xs:List Nat}(hx:Bytes xs)(hl:xs.length≤1000000):∀(ks:List Int)(l:List It)(q:Nat)(r:List It × Nat),(∀k∈ks,1≤k∧k≤5)→q≤xs.length→(∀i∈l,i.fits)→tks xs ks l q=some r→∀i∈r.1,i.fits
 | [],l,q,r,_,_,hf,h=>by
  simp only [tks,Option.some.injEq] at h
  rw [← h]
  exact hf
 | k :: ks,l,q,r,hk,hq,hf,h=>by
  simp only [tks] at h
  split at h
  · cases h
  · rename_i i n hi
    have hb:Bytes (xs.drop q):=fun x hh=>hx x (List.mem_of_mem_drop hh)
    have:=Zec hb (by rw [List.length_drop];omega) (hk k (by simp)) hi
    rw [List.length_drop] at this
    refine Ze2 hx hl ks _ _ r (fun k' h'=>hk k' (by simp [h'])) (by omega) ?_ h
    intro j hj
    rcases List.mem_append.1 hj with h1 | h1
    · exact hf j h1
    · simp at h1
      rw [h1]
      exact this.1
theorem ZcB (xs:List Nat):∀(ks:List Int)(l:List It)(q:Nat)(r:List It × Nat),tks xs ks l q=some r→r.1.length=l.length+ks.length
 | [],l,q,r,h=>by
  simp only [tks,Option.some.injEq] at h
  rw [← h]
  simp
 | k :: ks,l,q,r,h=>by
  simp only [tks] at h
  split at h
  · cases h
  · have:=ZcB xs ks _ _ r h
    rw [this]
    simp
    omega
theorem Zl4 (n:Nat):∀t,t<(List.replicate n (4:Int)).length→1≤(List.replicate n (4:Int)).getD t 0∧(List.replicate n (4:Int)).getD t 0≤5:=by
 intro t ht;rw [List.length_replicate] at ht;simp [List.getD,ht]
theorem ZiQ {a:Option Addr}{len:Nat}{ks:List Int}(h:Vs w a len (kVals ks)):Ks w a len ks:=by
 (have hl:ks.length=len:=by have:=h.1;simpa [kVals] using this);refine⟨hl,fun j hj=>?_⟩;obtain⟨b,off,ha,hc⟩:=h.2.2 j hj;refine⟨b,off,ha,?_⟩;(have hj':j<ks.length:=by omega);rw [hc];simp [kVals,List.getD,hj']
theorem Zo1 (w0 w:World)(v:Value)(a:Option Addr)(len cap q:Nat)(hq:q≤len)(hW:Below w0.heap.size w0 w)
    {Q:Exit→Act→World→Prop}{A:Act}(ac:A.tmps.size=42)(ab:A.defers=[])(s0:A.tmps.getD 0 undef=.slice a len cap)(s8:A.tmps.getD 8 undef=.int .i64 (q:Nat))(s10:A.tmps.getD 10 undef=v)
    (hend:∀(u:Nat→Value) w',(w'=w.drew)→Q .normal ((((((((A).put (some 38) (u 38)).put (some 39) (u 39)).put (some 40) (u 40)).put (some 41) (u 41)).put (some 4) (v)).put (some 5) (.slice (fromA a cap q) (len-q) (cap-q))).put (some 6) (.int .i64 0)) w') :
    (Code.region 10 (Pl.find 10 ((Tryz.f160.body).getD .skip)) true).wp Tryz.prog Q A w:=by
  have aa:Below w0.heap.size w0 w.drew:=hW.drew;have hA:=Pl.At.same (v:=v) (d:=10) (Pl.At.same (v:=.int .i64 (q:Nat)) (d:=8) (Pl.At.same (v:=.slice a len cap) (d:=0) (Pl.At.here ac ab) s0) s8) s10;refine Pl.qa (S:=fun w'=>Below w0.heap.size w0 w') hA aa ?_;rw [show (Pl.find 10 ((Tryz.f160.body).getD .skip)).size=7 by kernel_rfl];refine Pl.q0 0 38 (v) (Pl.q1) (Pl.q2 (.tmp 10)) aa ?_;refine Pl.q0 1 39 (.slice a len cap) (Pl.q1) (Pl.q2 (.tmp 0)) aa ?_;refine Pl.q0 2 40 (.int .i64 (q:Nat)) (Pl.q1) (Pl.q2 (.tmp 8)) aa ?_;refine Pl.q0 3 41 (.slice (fromA a cap q) (len-q) (cap-q)) (Pl.q1) (Pl.q_36 56 (.tmp 39) (some (.tmp 40)) none (fun w=>ZcS a len cap q hq w)) aa ?_;refine Pl.q0 4 4 (v) (Pl.q1) (Pl.qf (.tmp 38)) aa ?_;refine Pl.q0 5 5 (.slice (fromA a cap q) (len-q) (cap-q)) (Pl.q1) (Pl.qf (.tmp 41)) aa ?_;refine Pl.q0 6 6 (.int .i64 0) (Pl.q1) (Pl.qf (.const (.int .i64 0))) aa ?_;refine Pl.q7 (fun A' hA'=>?_);rw [Pl.At.ext hA' (((((((hA.put 38 _).put 39 _).put 40 _).put 41 _).put 4 _).put 5 _).put 6 _)];exact hend hA'.fn _ rfl
theorem Zeq (a:Option Addr)(len cap n:Nat)(xs:List Nat)(w:World)(h:Came w a len cap xs)(hl:len≤100000)(hn:n≤255) :
    Calls Tryz.prog 160 #[.slice a len cap,.int .i64 (n:Nat)] w fun e w'=>Below w.heap.size w w' ∧
     (tks xs (List.replicate n 4) [] 0=none→e=.returned (.tuple #[.slice none 0 0,.slice none 0 0,.int .i64 4])) ∧
     (∀l q,tks xs (List.replicate n 4) [] 0=some (l,q)→q≤len∧(∀i∈l,i.fits)∧∃v,e=.returned (.tuple #[v,.slice (fromA a cap q) (len-q) (cap-q),.int .i64 0])∧OwnsV 23 w' w.heap.size v (fVals (l.map It.x))):=by
 have H:=hide h;have HR:=hide (ZjW w.heap.size n (w.alloc (.cells #[.int .i64 4] 3)) (by
  have:=heap_alloc_new w (.cells #[.int .i64 4] 3);simp only [World.cell?,this];rfl) hn)
 have HW:=hide (Zaa w (.cells #[.int .i64 4] 3));have an:=hide hl;have ar:=hide h.bs.1;have bp:=hide h.bs.2.1;clear h hl;go_enter Tryz.func160,Tryz.ntmps160;go_wp2_with fail;refine HR.out.mono ?_;rintro e w1 ⟨v1,rfl,ay,au⟩;have ah:=hide (Zad HW.out au);obtain⟨ka,kc,aw,al,_⟩:=ay.vs (ZeC n);rw [Zay] at aw al;subst aw;have HT:=hide (Zjh a len cap xs ka n kc (List.replicate n 4) w1 ⟨H.out.bs.keep ah.out (Nat.le_refl _),H.out.nil,H.out.le,H.out.big⟩ (ZiQ al) an.out (by omega));unfold ZaU at HT;rw [Zcf (Zl4 n)] at HT;clear ay au al HR;cases hT:tks xs (List.replicate n 4) [] 0 with
 | none =>
  rw [hT] at HT;simp only at HT;have bm:=hide hT;clear hT;go_wp2_with fail;refine HT.out.mono ?_;rintro e w2 ⟨v2,rfl,ad,_,_⟩;have ac:=hide (Zad ah.out ad);clear ad;go_wp2_with fail;go_ret3;exact⟨ac.out,fun _=>rfl,fun l q h=>by rw [bm.out] at h;cases h⟩
 | some lq =>
  obtain⟨l,q⟩:=lq;rw [hT] at HT;simp only at HT;have hq:q≤len:=by
   have:=Zjj bp.out (by rw [ar.out];have:=an.out;omega) _ _ _ _ (fun k hk=>by rw [(List.mem_replicate.1 hk).2];decide) (Nat.zero_le _) hT;rw [ar.out] at this;exact this
  have HQ:=hide hq;have ag:=hide hT;clear hT hq;go_wp2_with fail;refine HT.out.mono ?_;rintro e w2 ⟨v2,rfl,ad,az,aj⟩;have ac:=hide (Zad ah.out ad);obtain⟨p2,q2,bc,is2,_⟩:=az.is aj;obtain⟨nl,ak⟩:∃nl,l.length=nl:=⟨_,rfl⟩;rw [ak] at bc is2;subst bc;have bj:=hide is2;have bi:=hide aj;have af:=hide ak;have bn:Hid (OwnsV 23 (w2.alloc (.cells #[] 23)) w2.heap.size (.slice (some ⟨w2.heap.size,0,none⟩) 0 0) (fVals [])):=OwnsV.lit 23 w2 _ [] (Nat.le_refl _) (by simp);have bg:=hide (Zaa w2 (.cells #[] 23));clear ad az aj is2 ak HT;have bv:∀(w:World) (a:Addr) (m:Mode) (x:Nat),(store a (.float .f64 x) m).run Tryz.prog w=stored Tryz.prog w a (.float .f64 x) m:=fun w a m x=>run_store Tryz.prog w a _ m rfl;go_wp2_with fail;go_loopw [10,28] (fun v i wr'=>∃k:Nat,k≤nl∧i=.int .i64 k∧Hid (OwnsV 23 wr' w2.heap.size v (fVals ((l.map It.x).take k)))∧Hid (Below w2.heap.size w2 wr')) (fun _ i _=>nl-(intOf i).toNat)
  case atStart=>exact ⟨0,by omega,rfl,bn,bg⟩
  case round =>
   obtain⟨k,hk,rfl,aa,ai⟩:=hrel;have ab:Hid (nl≤255):=by
    have:=ZcB _ _ _ _ _ ag.out;show nl≤255;rw [← af.out];simp at this;omega
   have br:nl≤255:=ab.out;rcases Nat.lt_or_ge k nl with ax | bu
   · obtain⟨b,off,rfl,c0,c1,c2,c3⟩:=(bj.out.keep ai.out (Nat.le_refl _)).2.2 k ax;obtain⟨x,hx⟩:∃x,x=l.getD k itD:=⟨_,rfl⟩;rw [← hx] at c0 c1 c2 c3;have HX:=hide hx;obtain⟨xk,bd⟩:∃n,n=x.kind:=⟨_,rfl⟩;obtain⟨xn,be⟩:∃n,n=x.n:=⟨_,rfl⟩;obtain⟨xx,am⟩:∃n,n=x.x:=⟨_,rfl⟩;obtain⟨xs',bf⟩:∃n,n=x.s:=⟨_,rfl⟩;rw [← bd] at c0;rw [← be] at c1;rw [← am] at c2;rw [← bf] at c3;have bq:=hide am;have ao:=hide ((aa.out.keep (Zaa wr (.cells #[.int .i64 xk,.int .i64 xn,.float .f64 xx,.string xs'] 158)) (Nat.le_refl _)).keep (Zaa _ (.cells #[.float .f64 xx] 23)) (Nat.le_refl _));have aq:=hide (Zad ai.out (ZbE wr (.cells #[.int .i64 xk,.int .i64 xn,.float .f64 xx,.string xs'] 158) (.cells #[.float .f64 xx] 23)));have ap:Hid (Vs ((wr.alloc (.cells #[.int .i64 xk,.int .i64 xn,.float .f64 xx,.string xs'] 158)).alloc (.cells #[.float .f64 xx] 23)) (some ⟨wr.heap.size+1,0,none⟩) 1 [.float .f64 xx]):=by
      have:=ZlV 23 (wr.alloc (.cells #[.int .i64 xk,.int .i64 xn,.float .f64 xx,.string xs'] 158)) (.float .f64 xx) rfl;exact hide (by simpa using this)
     have ae:Hid ((fVals ((l.map It.x).take k)).length+1≤1000000):=by
      show _≤_;have:=ab.out;simp [fVals];omega
     clear hx bd be am bf;go_wp2_with (at_builtin;refine ZbA Znp _ rfl (.tmp 32) (.tmp 35) rfl w2.heap.size _ _ rfl ao.out _ _ _ [.float .f64 xx] rfl ap.out (fun h=>by cases h) ae.out aq.out.size ?_);intro v6 w6 ba av _;have bk:=hide ba;have bh:=hide (aq.out.trans av);clear ba av ao ap;go_wp2;go_roundw
     case rel =>
      (have hk':k<l.length:=by rw [af.out];exact ax);refine⟨k+1,by omega,by go_num,?_,bh⟩;have e:fVals ((l.map It.x).take (k+1))=fVals ((l.map It.x).take k) ++ [.float .f64 xx]:=by
       rw [List.take_succ_eq_append_getElem (by simpa using hk'),bq.out,HX.out];simp [fVals,List.getD,hk']
      rw [e];exact bk
     case measure=>simp only [intOf];omega
   · have bb:(l.map It.x).take k=l.map It.x:=List.take_of_length_le (by rw [List.length_map,af.out];omega);rw [bb] at aa;have bo:=hide (ac.out.trans (ai.out.mono ac.out.size));have bl:=hide ((aa.out.keep (Below.refl wr.heap.size wr).drew (Nat.le_refl _)).lower ac.out.size);clear bb;go_wp2_with fail;refine Pl.q9 (ops:=Pl.find 10 ((Tryz.f160.body).getD .skip)) ?_;refine Zo1 wr wr _ a len cap q HQ.out (Below.refl _ _) (by rfl) (by rfl) (by rfl) (by rfl) (by rfl) ?_;intro u w5 bt;subst bt;simp only [Act.put,List.setIfInBounds_toArray,List.set_cons_zero,List.set_cons_succ];go_wp2_with fail;go_ret3;refine⟨bo.out.drew,(fun h=>by rw [ag.out] at h;cases h),fun l' q' h=>?_⟩;rw [ag.out] at h;simp only [Option.some.injEq,Prod.mk.injEq] at h;obtain⟨rfl,rfl⟩:=h;exact⟨HQ.out,bi.out,_,rfl,bl.out⟩
end Go.Proofs.YtdojdcncncgncaaGreat
