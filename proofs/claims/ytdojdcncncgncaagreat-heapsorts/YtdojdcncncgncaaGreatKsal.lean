/-
  Lemmas.
-/
import Derived.Test.YtdojdcncncgncaaGreatKsak
import Derived.Laws.CopyOwn
namespace Go.Proofs.YtdojdcncncgncaaGreat
open Go.RowKit
set_option linter.unusedVariables false
set_option maxRecDepth 100000
set_option maxHeartbeats 4000000
variable {w:World}{n g base cap j m:Nat}{r:Rw}{l:List It}
def headK : List Int := [1, 4, 3, 2, 3, 1]
def headI (k : Int) : It := ⟨k, 0, 0, noS⟩
def numI (x : Nat) : It := ⟨4, 0, x, noS⟩
def Rw.head (r : Rw) : List It := [⟨1, if r.dead then 1 else 0, 0, noS⟩, ⟨4, 0, r.key, noS⟩, ⟨3, r.wr, 0, noS⟩, ⟨2, r.cell, 0, noS⟩, ⟨3, r.no, 0, noS⟩, ⟨1, r.xs.length, 0, noS⟩]
def Rw.items (r : Rw) : List It := r.head ++ r.xs.map numI
theorem Zm2 {p : Nat} {ks : List Int} {fr : Nat × Nat} (h : w.heap[p]? = some (Obj.cells (kVals ks).toArray 3 fr)) : Ks w (some ⟨p, 0, none⟩) ks.length ks := by
 refine ⟨rfl, fun j hj => ⟨p, 0, rfl, ?_⟩⟩
 rw [Nat.zero_add]
 simp only [World.cell?, h]
 simp [kVals, List.getD, hj]
theorem Zdd (w : World) : Calls Tryz.prog 155 #[] w fun e w' => e = .returned (.slice (some ⟨w.heap.size, 0, none⟩) 6 6) ∧ w'.heap[w.heap.size]? = some (Obj.cells (kVals headK).toArray 3 (0, 0)) ∧ Below w.heap.size w w' := by
 have HK := hide (heap_alloc_new w (.cells (kVals headK).toArray 3))
 have HW := hide (Zaa w (.cells #[.int .i64 1, .int .i64 4, .int .i64 3, .int .i64 2, .int .i64 3, .int .i64 1] 3))
 go_enter Tryz.func155, Tryz.ntmps155
 go_wp2_with fail
 go_ret
 exact ⟨rfl, HK.out, HW.out⟩
theorem RwBlk.stayI {w w' : World} {p : Nat} {r : Rw} {c : Value} (h : RwBlk w p r c) (hs : Zeg w w') : RwBlk w' p r c := (hs p _ _ _ h (by decide)).trans h
theorem Zkb (k : Int) (hk : -9223372036854775808 ≤ k ∧ k ≤ 9223372036854775807) : (headI k).fits := ⟨Za5 hk.1 hk.2, Za5 (n := 0) (by decide) (by decide), (by decide : (0 : Nat) < 18446744073709551616), Nat.zero_le _⟩
theorem Zdo (x : Nat) (hx : x < 18446744073709551616) : (numI x).fits := ⟨Za5 (n := 4) (by decide) (by decide), Za5 (n := 0) (by decide) (by decide), hx, Nat.zero_le _⟩
theorem OwnsI.pos {v : Value} (h : OwnsI w base v l) (hp : 0 < l.length) : ∃ g cap, v = .slice (some ⟨g, 0, none⟩) l.length cap ∧ base ≤ g ∧ l.length ≤ cap := by
 rcases h.2 with ⟨hv, h0⟩ | ⟨g, cap, cur, hv, hbg, hg, hle, hr⟩
 · omega
 · exact ⟨g, cap, hv, hbg, hle⟩
theorem OwnsI.store {m:List It}(h : OwnsI w base (.slice (some ⟨g, 0, none⟩) n cap) l) (hn : n = l.length) (i : Nat) (u : Value) (hm : (Zay l).set i u = Zay m) (hl : m.length = l.length) : OwnsI (w.setCell ⟨g, i, none⟩ u) base (.slice (some ⟨g, 0, none⟩) n cap) m := by
 subst hn
 have := (World.ownsRow.stored h i u).1
 unfold OwnsI
 rw [hl, ← hm]
 exact this
theorem OwnsI.cell (h : OwnsI w base (.slice (some ⟨g, 0, none⟩) n cap) l) (hn : n = l.length) (i : Nat) (hi : i < l.length * 4) : w.cell? ⟨g, i, none⟩ = (Zay l)[i]? := by
 subst hn
 exact World.ownsRow.cellAt h i (by omega)
theorem Zfa {cp:Nat}{d : Int} {key : Nat} {wt cell no n : Int} (h : OwnsI w base (.slice (some ⟨g, 0, none⟩) 6 cp) (⟨1, d, 0, noS⟩ :: headK.tail.map headI)) :
    OwnsI (((((w.setCell ⟨g, 6, none⟩ (.float .f64 key)).setCell ⟨g, 9, none⟩ (.int .i64 wt)).setCell ⟨g, 13, none⟩ (.int .i64 cell)).setCell ⟨g, 17, none⟩ (.int .i64 no)).setCell ⟨g, 21, none⟩ (.int .i64 n)) base (.slice (some ⟨g, 0, none⟩) 6 cp)
     [⟨1, d, 0, noS⟩, ⟨4, 0, key, noS⟩, ⟨3, wt, 0, noS⟩, ⟨2, cell, 0, noS⟩, ⟨3, no, 0, noS⟩, ⟨1, n, 0, noS⟩] := by
 have h1 := h.store (m := [⟨1, d, 0, noS⟩, ⟨4, 0, key, noS⟩, ⟨3, 0, 0, noS⟩, ⟨2, 0, 0, noS⟩, ⟨3, 0, 0, noS⟩, ⟨1, 0, 0, noS⟩]) rfl 6 (.float .f64 key) rfl rfl
 have h2 := h1.store (m := [⟨1, d, 0, noS⟩, ⟨4, 0, key, noS⟩, ⟨3, wt, 0, noS⟩, ⟨2, 0, 0, noS⟩, ⟨3, 0, 0, noS⟩, ⟨1, 0, 0, noS⟩]) rfl 9 (.int .i64 wt) rfl rfl
 have h3 := h2.store (m := [⟨1, d, 0, noS⟩, ⟨4, 0, key, noS⟩, ⟨3, wt, 0, noS⟩, ⟨2, cell, 0, noS⟩, ⟨3, 0, 0, noS⟩, ⟨1, 0, 0, noS⟩]) rfl 13 (.int .i64 cell) rfl rfl
 have h4 := h3.store (m := [⟨1, d, 0, noS⟩, ⟨4, 0, key, noS⟩, ⟨3, wt, 0, noS⟩, ⟨2, cell, 0, noS⟩, ⟨3, no, 0, noS⟩, ⟨1, 0, 0, noS⟩]) rfl 17 (.int .i64 no) rfl rfl
 exact h4.store rfl 21 (.int .i64 n) rfl rfl
theorem ZeZ {B g : Nat} {w0 w : World} (hb : Below B w0 w) (hg : B ≤ g) (a b c d e : Value) :
    Below B w0 (((((w.setCell ⟨g, 6, none⟩ a).setCell ⟨g, 9, none⟩ b).setCell ⟨g, 13, none⟩ c).setCell ⟨g, 17, none⟩ d).setCell ⟨g, 21, none⟩ e) :=
  ((((hb.setCell (p := ⟨g, 6, none⟩) hg _).setCell (p := ⟨g, 9, none⟩) hg _).setCell (p := ⟨g, 13, none⟩) hg _).setCell (p := ⟨g, 17, none⟩) hg _).setCell (p := ⟨g, 21, none⟩) hg _
theorem Zks (r:Rw)(a:Option Addr)(len cap:Nat)(w:World)(h:Fs w a len cap r.xs)(h4:len≤4) :
    Calls Tryz.prog 138 #[r.val (.slice a len cap)] w fun e w'=>∃v,e=.returned v∧OwnsI w' w.heap.size v r.items∧Below w.heap.size w w':=by
  obtain⟨key,dead,xs,wt,cell,no⟩:=r
  have H:=hide h
  have HL:=hide h.len
  have HX:=hide (Zai w ⟨key,dead,xs,wt,cell,no⟩ (.slice a len cap))
  have HO:=hide (OwnsI.new (w.alloc (.cells #[.float .f64 key,.bool dead,.slice a len cap,.int .i64 wt,.int .i64 cell,.int .i64 no] 33)))
  have HW:=hide (Zbm w (.cells #[.float .f64 key,.bool dead,.slice a len cap,.int .i64 wt,.int .i64 cell,.int .i64 no] 33) (.cells #[] 158))
  have HWa:=hide (Zaa (w.alloc (.cells #[.float .f64 key,.bool dead,.slice a len cap,.int .i64 wt,.int .i64 cell,.int .i64 no] 33)) (.cells #[] 158))
  have HH:=hide Zdd
  clear h
  simp only at HX
  unfold Rw.val
  simp only
  go_enter Tryz.func138,Tryz.ntmps138
  go_wp2_with fail
  refine(HH.out _).mono ?_
  rintro e w1 ⟨rfl,hk1,hb1⟩
  have HW1:=hide (Zab HW.out hb1)
  have HX1:=hide ((HX.out.keep HWa.out).keep hb1)
  have HO1:Hid (OwnsI w1 w.heap.size (.slice (some ⟨w.heap.size+1,0,none⟩) 0 0) []):=by
   have:=((HO.out.keep hb1 (Nat.le_refl _)).lower (b':=w.heap.size) (by simp))
   exact hide (by simpa using this)
  have hg1:((w.alloc (.cells #[.float .f64 key,.bool dead,.slice a len cap,.int .i64 wt,.int .i64 cell,.int .i64 no] 33)).alloc (.cells #[] 158)).heap.size=w.heap.size+2:=by simp
  rw [hg1] at hk1 ⊢
  have HK1:=hide hk1
  clear hk1 hb1 hg1 HX HO HW HWa HH
  go_wp2_with fail
  go_loopw [3,11] (fun v i wr'=>∃k:Nat,k≤6∧i=.int .i64 k∧Hid (OwnsI wr' w.heap.size v ((headK.map headI).take k))∧Hid (Below w.heap.size w wr')∧Hid (RwBlk wr' w.heap.size ⟨key,dead,xs,wt,cell,no⟩ (.slice a len cap))∧Hid (wr'.heap[w.heap.size+2]? = some (Obj.cells (kVals headK).toArray 3 (0,0)))) (fun _ i _=>6-(intOf i).toNat)
  case atStart=>exact ⟨0,by omega,rfl,HO1,HW1,HX1,HK1⟩
  case round =>
   obtain⟨k,hk,rfl,hown,hWr,hXr,hKr⟩:=hrel
   rcases Nat.lt_or_ge k 6 with hlt | hge
   · obtain⟨kd,hkd⟩:∃kd,kd=headK.getD k 0:=⟨_,rfl⟩
     have hc:wr.cell? ⟨w.heap.size+2,k,none⟩=some (.int .i64 kd):=by
      obtain⟨_,_,e,hc⟩:=(Zm2 hKr.out).2 k hlt
      simp only [Option.some.injEq,Addr.mk.injEq,and_true] at e
      obtain⟨rfl,rfl⟩:=e
      rw [Nat.zero_add] at hc
      rw [hc,hkd]
     have hkr:1≤kd∧kd≤4:=by
      rw [hkd]
      have:k=0∨k=1∨k=2∨k=3∨k=4∨k=5:=by omega
      rcases this with rfl | rfl | rfl | rfl | rfl | rfl <;> decide
     have HKD:=hide hkd
     have HOk:=hide (hown.out.keep (Zaa wr (.cells #[.int .i64 kd,.int .i64 0,.float .f64 0,.string ⟨#[]⟩] 158)) (Nat.le_refl _))
     have HXk:=hide (hXr.out.keep (Zaa wr (.cells #[.int .i64 kd,.int .i64 0,.float .f64 0,.string ⟨#[]⟩] 158)))
     have HKk:=hide (((Zaa wr (.cells #[.int .i64 kd,.int .i64 0,.float .f64 0,.string ⟨#[]⟩] 158)).block _ (Array.getElem?_eq_some_iff.1 hKr.out).1).trans hKr.out)
     have HWk:=hide (Zab hWr.out (Zaa wr (.cells #[.int .i64 kd,.int .i64 0,.float .f64 0,.string ⟨#[]⟩] 158)))
     have HI:=hide (ZbV wr (headI kd) (Zkb kd (by omega)))
     unfold headI noS at HI
     simp only at HI
     have HLEN:Hid (((headK.map headI).take k).length+1≤1000000):=by show _≤_;simp [headK];omega
     clear hkd hkr
     go_wp2_with (at_builtin;refine Zaq _ rfl (.tmp 15) (.tmp 18) rfl w.heap.size _ _ rfl HOk.out _ _ _ _ rfl HI.out (fun h=>by cases h) HLEN.out HWk.out.size ?_)
     intro v5 w5 ho5 hb5 hs5
     have HO5:=hide ho5
     have HW5:=hide (HWk.out.trans hb5)
     have HX5:=hide (HXk.out.stayI hs5)
     have HK5:=hide ((hs5 _ _ _ _ HKk.out (by decide)).trans HKk.out)
     clear ho5 hb5 hs5 HOk HI HXk HKk
     go_wp2
     go_roundw
     case rel =>
      refine⟨k+1,by omega,by go_num,?_,HW5,HX5,HK5⟩
      have e:(headK.map headI).take (k+1)=(headK.map headI).take k ++ [⟨kd,0,0,⟨#[]⟩⟩]:=by
       rw [List.take_succ_eq_append_getElem (by simpa [headK] using hlt),HKD.out]
       simp [headI,noS,List.getD,show k<headK.length from hlt]
      rw [e]
      exact HO5
     case measure=>simp only [intOf];omega
   · have hk6:k=6:=by omega
     have ho6:OwnsI wr w.heap.size u3 (headK.map headI):=by
      have:=hown.out
      rw [hk6] at this
      exact this
     clear hk6
     obtain⟨g,cp,hv,hbg,hcp⟩:=ho6.pos (by decide)
     have hl6:(headK.map headI).length=6:=rfl
     rw [hl6] at hv hcp
     subst hv
     have HO6:=hide ho6
     have hz:=fun i=>World.ownsRow.frozenAt ho6 i
     have e1:=ho6.cell rfl 1 (by decide)
     have e6:=ho6.cell rfl 6 (by decide)
     have e9:=ho6.cell rfl 9 (by decide)
     have e13:=ho6.cell rfl 13 (by decide)
     have e17:=ho6.cell rfl 17 (by decide)
     have e21:=ho6.cell rfl 21 (by decide)
     have hsf:∀(w:World) (a:Addr) (m:Mode) (x:Nat),(store a (.float .f64 x) m).run Tryz.prog w=stored Tryz.prog w a (.float .f64 x) m:=fun w a m x=>run_store Tryz.prog w a _ m rfl
     simp only [show (Zay (headK.map headI))[1]? = some (.int .i64 0) from rfl] at e1
     simp only [show (Zay (headK.map headI))[6]? = some (.float .f64 0) from rfl] at e6
     simp only [show (Zay (headK.map headI))[9]? = some (.int .i64 0) from rfl] at e9
     simp only [show (Zay (headK.map headI))[13]? = some (.int .i64 0) from rfl] at e13
     simp only [show (Zay (headK.map headI))[17]? = some (.int .i64 0) from rfl] at e17
     simp only [show (Zay (headK.map headI))[21]? = some (.int .i64 0) from rfl] at e21
     have x0:=hXr.out.c0
     have x1:=hXr.out.c1
     have x2:=hXr.out.c2
     have x3:=hXr.out.c3
     have x4:=hXr.out.c4
     have x5:=hXr.out.c5
     simp only at x0 x1 x2 x3 x4 x5
     have z1:=hz 1
     have z6:=hz 6
     have z9:=hz 9
     have z13:=hz 13
     have z17:=hz 17
     have z21:=hz 21
     clear hz hown ho6 hl6 hcp
     have hX2:=hXr
     clear hXr hKr HK1 HX1 HO1
     cases dead
     · have HOf:=hide (Zfa (key:=key) (wt:=wt) (cell:=cell) (no:=no) (n:=(len:Nat)) HO6.out)
       have HWf:=hide (ZeZ hWr.out hbg (.float .f64 key) (.int .i64 wt) (.int .i64 cell) (.int .i64 no) (.int .i64 (len:Nat)))
       go_wp2_with fail
       go_loopw [3,57] (fun v i wr'=>∃k:Nat,k≤len∧i=.int .i64 k∧Hid (OwnsI wr' w.heap.size v ([⟨1,0,0,noS⟩,⟨4,0,key,noS⟩,⟨3,wt,0,noS⟩,⟨2,cell,0,noS⟩,⟨3,no,0,noS⟩,⟨1,len,0,noS⟩] ++ (xs.map numI).take k))∧Hid (Below w.heap.size w wr')) (fun _ i _=>len-(intOf i).toNat)
       case atStart=>exact ⟨0,by omega,rfl,HOf,HWf⟩
       case round =>
        obtain⟨k,hk,rfl,hown,hWr⟩:=hrel
        rcases Nat.lt_or_ge k len with hlt | hge
        · obtain⟨b,off,rfl,hc,hmem,hx⟩:=(H.out.keep hWr.out (Nat.le_refl _)).at k hlt
          obtain⟨x,hxe⟩:∃x,x=xs.getD k 0:=⟨_,rfl⟩
          rw [← hxe] at hc hmem hx
          have HXE:=hide hxe
          have HOk:=hide (hown.out.keep (Zaa wr (.cells #[.int .i64 4,.int .i64 0,.float .f64 x,.string ⟨#[]⟩] 158)) (Nat.le_refl _))
          have HWk:=hide (Zab hWr.out (Zaa wr (.cells #[.int .i64 4,.int .i64 0,.float .f64 x,.string ⟨#[]⟩] 158)))
          have HI:=hide (ZbV wr (numI x) (Zdo x hx))
          unfold numI noS at HI
          simp only at HI
          have HLEN:Hid ((([⟨1,0,0,noS⟩,⟨4,0,key,noS⟩,⟨3,wt,0,noS⟩,⟨2,cell,0,noS⟩,⟨3,no,0,noS⟩,⟨1,(len:Nat),0,noS⟩]:List It) ++ (xs.map numI).take k).length+1≤1000000):=by show _≤_;simp;omega
          clear hxe hmem hx
          go_wp2_with (at_builtin;refine Zaq _ rfl (.tmp 61) (.tmp 64) rfl w.heap.size _ _ rfl HOk.out _ _ _ _ rfl HI.out (fun h=>by cases h) HLEN.out HWk.out.size ?_)
          intro v7 w7 ho7 hb7 _
          have HO7:=hide ho7
          have HW7:=hide (HWk.out.trans hb7)
          clear ho7 hb7 HOk HI HLEN
          go_wp2
          go_roundw
          case rel =>
           have hk':k<xs.length:=by rw [HL.out];exact hlt
           refine⟨k+1,by omega,by go_num,?_,HW7⟩
           have e:(xs.map numI).take (k+1)=(xs.map numI).take k ++ [⟨4,0,x,⟨#[]⟩⟩]:=by
            rw [List.take_succ_eq_append_getElem (by simpa using hk'),HXE.out]
            simp [numI,noS,List.getD,hk']
           rw [e,← List.append_assoc]
           exact HO7
          case measure=>simp only [intOf];omega
        · have htk:(xs.map numI).take k=xs.map numI:=List.take_of_length_le (by rw [List.length_map,HL.out];omega)
          rw [htk] at hown
          have HFin:Hid (OwnsI wr w.heap.size u3 (Rw.items ⟨key,false,xs,wt,cell,no⟩)):=by
           have e:Rw.items ⟨key,false,xs,wt,cell,no⟩=[⟨1,0,0,noS⟩,⟨4,0,key,noS⟩,⟨3,wt,0,noS⟩,⟨2,cell,0,noS⟩,⟨3,no,0,noS⟩,⟨1,len,0,noS⟩] ++ xs.map numI:=by
            unfold Rw.items Rw.head
            simp only [HL.out]
            rfl
           show OwnsI _ _ _ _
           rw [e]
           exact hown.out
          clear htk hown
          go_wp2_with fail
          go_ret
          exact⟨_,rfl,HFin.out,hWr.out⟩
     · have HO7:=hide (HO6.out.store (m:=⟨1,1,0,noS⟩ :: headK.tail.map headI) rfl 1 (.int .i64 1) rfl rfl)
       have HOf:=hide (Zfa (key:=key) (wt:=wt) (cell:=cell) (no:=no) (n:=(len:Nat)) HO7.out)
       have HWf:=hide (ZeZ (hWr.out.setCell (p:=⟨g,1,none⟩) hbg (.int .i64 1)) hbg (.float .f64 key) (.int .i64 wt) (.int .i64 cell) (.int .i64 no) (.int .i64 (len:Nat)))
       go_wp2_with fail
       go_loopw [3,57] (fun v i wr'=>∃k:Nat,k≤len∧i=.int .i64 k∧Hid (OwnsI wr' w.heap.size v ([⟨1,1,0,noS⟩,⟨4,0,key,noS⟩,⟨3,wt,0,noS⟩,⟨2,cell,0,noS⟩,⟨3,no,0,noS⟩,⟨1,len,0,noS⟩] ++ (xs.map numI).take k))∧Hid (Below w.heap.size w wr')) (fun _ i _=>len-(intOf i).toNat)
       case atStart=>exact ⟨0,by omega,rfl,HOf,HWf⟩
       case round =>
        obtain⟨k,hk,rfl,hown,hWr⟩:=hrel
        rcases Nat.lt_or_ge k len with hlt | hge
        · obtain⟨b,off,rfl,hc,hmem,hx⟩:=(H.out.keep hWr.out (Nat.le_refl _)).at k hlt
          obtain⟨x,hxe⟩:∃x,x=xs.getD k 0:=⟨_,rfl⟩
          rw [← hxe] at hc hmem hx
          have HXE:=hide hxe
          have HOk:=hide (hown.out.keep (Zaa wr (.cells #[.int .i64 4,.int .i64 0,.float .f64 x,.string ⟨#[]⟩] 158)) (Nat.le_refl _))
          have HWk:=hide (Zab hWr.out (Zaa wr (.cells #[.int .i64 4,.int .i64 0,.float .f64 x,.string ⟨#[]⟩] 158)))
          have HI:=hide (ZbV wr (numI x) (Zdo x hx))
          unfold numI noS at HI
          simp only at HI
          have HLEN:Hid ((([⟨1,1,0,noS⟩,⟨4,0,key,noS⟩,⟨3,wt,0,noS⟩,⟨2,cell,0,noS⟩,⟨3,no,0,noS⟩,⟨1,(len:Nat),0,noS⟩]:List It) ++ (xs.map numI).take k).length+1≤1000000):=by show _≤_;simp;omega
          clear hxe hmem hx
          go_wp2_with (at_builtin;refine Zaq _ rfl (.tmp 61) (.tmp 64) rfl w.heap.size _ _ rfl HOk.out _ _ _ _ rfl HI.out (fun h=>by cases h) HLEN.out HWk.out.size ?_)
          intro v7 w7 ho7 hb7 _
          have HO7:=hide ho7
          have HW7:=hide (HWk.out.trans hb7)
          clear ho7 hb7 HOk HI HLEN
          go_wp2
          go_roundw
          case rel =>
           have hk':k<xs.length:=by rw [HL.out];exact hlt
           refine⟨k+1,by omega,by go_num,?_,HW7⟩
           have e:(xs.map numI).take (k+1)=(xs.map numI).take k ++ [⟨4,0,x,⟨#[]⟩⟩]:=by
            rw [List.take_succ_eq_append_getElem (by simpa using hk'),HXE.out]
            simp [numI,noS,List.getD,hk']
           rw [e,← List.append_assoc]
           exact HO7
          case measure=>simp only [intOf];omega
        · have htk:(xs.map numI).take k=xs.map numI:=List.take_of_length_le (by rw [List.length_map,HL.out];omega)
          rw [htk] at hown
          have HFin:Hid (OwnsI wr w.heap.size u3 (Rw.items ⟨key,true,xs,wt,cell,no⟩)):=by
           have e:Rw.items ⟨key,true,xs,wt,cell,no⟩=[⟨1,1,0,noS⟩,⟨4,0,key,noS⟩,⟨3,wt,0,noS⟩,⟨2,cell,0,noS⟩,⟨3,no,0,noS⟩,⟨1,len,0,noS⟩] ++ xs.map numI:=by
            unfold Rw.items Rw.head
            simp only [HL.out]
            rfl
           show OwnsI _ _ _ _
           rw [e]
           exact hown.out
          clear htk hown
          go_wp2_with fail
          go_ret
          exact⟨_,rfl,HFin.out,hWr.out⟩
def Rw.bytes (r : Rw) : List Nat := putB r.items
theorem Rw.may_parts (h:r.may=true):r.key=Fl.key r.key∧r.xs.length≤4∧(r.dead=true→r.xs=[])∧(∀x∈r.xs,x=Fl.val x)∧(0≤r.wr∧r.wr<2147483648)∧(0≤r.cell∧r.cell<65536)∧(0≤r.no∧r.no<2147483648)∧(0<r.cell∨r.no=0):=by
 rw [Zk7] at h
 unfold haveB at h
 simp at h
 obtain⟨⟨h1,⟨h2,h3⟩,h4⟩,⟨⟨⟨⟨⟨h5,h6⟩,h7⟩,h8⟩,h9⟩,h10⟩,h11⟩:=h
 refine⟨h1,h2,fun hd=>?_,h4,⟨h5,h6⟩,⟨h7,h8⟩,⟨h9,h10⟩,h11⟩
 rcases h3 with h3 | h3
 · rw [h3] at hd;cases hd
 · exact h3
theorem Znf (x : Nat) : (numI x).may = true := by simp [numI, It.may, Zec]
theorem Zcf (h : r.may = true) : r.items.all It.may = true := by
 obtain ⟨_, h2, _, _, h5, h7, h9, _⟩ := Rw.may_parts h
 unfold Rw.items Rw.head
 rw [List.all_append]
 have e : (r.xs.map numI).all It.may = true := by
  rw [List.all_eq_true]
  intro i hi
  obtain ⟨x, _, rfl⟩ := List.mem_map.1 hi
  exact Znf x
 rw [e]
 simp [It.may, Zec, h5.1, h5.2, h7.1, h7.2, h9.1, h9.2]
 refine ⟨?_, by omega⟩
 cases r.dead <;> simp
theorem Zc3 (hf : r.fits) (h4 : r.xs.length ≤ 4) : ∀ i ∈ r.items, i.fits := by
 have f0 : (Lit.int .i64 0).wf = true := Za5 (n := 0) (by decide) (by decide)
 have f1 : (Lit.int .i64 1).wf = true := Za5 (n := 1) (by decide) (by decide)
 have f2 : (Lit.int .i64 2).wf = true := Za5 (n := 2) (by decide) (by decide)
 have f3 : (Lit.int .i64 3).wf = true := Za5 (n := 3) (by decide) (by decide)
 have f4 : (Lit.int .i64 4).wf = true := Za5 (n := 4) (by decide) (by decide)
 have g0 : (0 : Nat) < 18446744073709551616 := by decide
 have s0 : noS.size ≤ maxLen := Nat.zero_le _
 intro i hi
 unfold Rw.items Rw.head at hi
 simp only [List.mem_append, List.mem_cons, List.not_mem_nil, or_false] at hi
 rcases hi with (rfl | rfl | rfl | rfl | rfl | rfl) | hi
 · refine ⟨f1, ?_, g0, s0⟩
   cases r.dead
   · exact f0
   · exact f1
 · exact ⟨f4, f0, hf.key, s0⟩
 · exact ⟨f3, hf.wr, g0, s0⟩
 · exact ⟨f2, hf.cell, g0, s0⟩
 · exact ⟨f3, hf.no, g0, s0⟩
 · exact ⟨f1, Za5 (n := (r.xs.length : Nat)) (by omega) (by omega), g0, s0⟩
 · obtain ⟨x, hx, rfl⟩ := List.mem_map.1 hi
   exact Zdo x (hf.xs x hx)
theorem Zer (r : Rw) : r.items.length = 6 + r.xs.length := by simp [Rw.items, Rw.head]; omega
theorem Zim : ∀ xs : List Nat, (putB (xs.map numI)).length = 8 * xs.length
  | [] => rfl
  | x :: r => by
    have := Zim r
    simp only [putB, List.map_cons, List.flatMap_cons, List.length_append, List.length_cons] at *
    rw [this]
    simp [numI, It.bytes, Zal]
    omega
theorem Zb4 (r : Rw) : r.bytes.length = 20 + 8 * r.xs.length := by
 unfold Rw.bytes Rw.items
 have e : putB (r.head ++ r.xs.map numI) = putB r.head ++ putB (r.xs.map numI) := by simp [putB]
 rw [e, List.length_append, Zim]
 simp [putB, Rw.head, It.bytes, Zal]
theorem OwnsI.lit (w : World) (base : Nat) (l : List It) (hb : base ≤ w.heap.size) (hm : l.length ≤ 1000000) : OwnsI (w.alloc (.cells (Zay l).toArray 158)) base (.slice (some ⟨w.heap.size, 0, none⟩) l.length l.length) l := by
 have := World.ownsRow_lit (base := base) (e := 158) (size := 4) w (Zay l).toArray l.length hb (by unfold maxLen; omega) (by simp [Zbg])
 simpa [OwnsI] using this
theorem Zbn {r : Rw} (h : r.may = true) : Bytes r.bytes := (ZfP (List.all_eq_true.1 (Zcf h))).2
theorem ZiB (r:Rw)(a:Option Addr)(len cap:Nat)(w:World)(h:Fs w a len cap r.xs)(hf:r.fits) :
    Calls Tryz.prog 102 #[r.val (.slice a len cap)] w fun e w'=>∃v,e=.returned (.tuple #[v,.int .i64 (chk r.may)])∧Below w.heap.size w w'∧(r.may=true→Owns w' w.heap.size v r.bytes)∧(r.may=false→v=.slice none 0 0):=by
  have HC:Hid (∀w',Below w.heap.size w w'→_):=fun w' hb=>Zbb r a len cap w' (h.keep hb (Nat.le_refl _)) hf
  have HX:=hide (Zai w r (.slice a len cap))
  have HW:Hid (∀o,Below w.heap.size w (w.alloc o)):=Zaa w
  have H:=hide h
  have HF:=hide hf
  clear h hf
  cases hm:r.may
  · rw [hm] at HC
    unfold chk at HC ⊢
    unfold Rw.val at HC ⊢
    go_enter Tryz.func102,Tryz.ntmps102
    go_wp2_with fail
    refine(HC.out _ (HW.out _)).mono ?_
    rintro e w1 ⟨rfl,hb1⟩
    have HW1:=hide (Zab (HW.out _) hb1)
    clear hb1
    go_wp2_with fail
    go_ret2
    exact⟨_,rfl,HW1.out,(fun h=>by cases h),fun _=>rfl⟩
  · have hp:=Rw.may_parts hm
    have HL4:Hid (len≤4):=by have:=hp.2.1;rw [H.out.len] at this;exact this
    have HI:Hid (∀w',Below w.heap.size w w'→_):=fun w' hb=>Zks r a len cap w' (H.out.keep hb (Nat.le_refl _)) HL4.out
    have HM:=hide hm
    have HP:=hide hp
    rw [hm] at HC
    clear hp
    unfold chk at HC ⊢
    unfold Rw.val at HC HI ⊢
    go_enter Tryz.func102,Tryz.ntmps102
    go_wp2_with fail
    refine(HC.out _ (HW.out _)).mono ?_
    rintro e w1 ⟨rfl,hb1⟩
    have HW1:=hide (Zab (HW.out _) hb1)
    have HX1:=hide (HX.out.keep hb1)
    have x0:=HX1.out.c0
    have x1:=HX1.out.c1
    have x2:=HX1.out.c2
    have x3:=HX1.out.c3
    have x4:=HX1.out.c4
    have x5:=HX1.out.c5
    clear hb1
    go_wp2_with fail
    refine(HI.out _ HW1.out).mono ?_
    rintro e w2 ⟨v2,rfl,ho2,hb2⟩
    have HW2:=hide (Zab HW1.out hb2)
    obtain⟨a2,c2,hv2,is2,_⟩:=ho2.is (Zc3 HF.out HP.out.2.1)
    have hil:=Zer r
    obtain⟨n2,hn2⟩:∃n,r.items.length=n:=⟨_,rfl⟩
    rw [hn2] at hv2 is2 hil
    subst hv2
    have HP2:=hide (Znn a2 n2 c2 r.items w2 is2 (by have:=HP.out.2.1;omega))
    rw [Zcf HM.out] at HP2
    unfold chk at HP2
    clear ho2 hb2 is2 hil hn2 x0 x1 x2 x3 x4 x5
    go_wp2_with fail
    refine HP2.out.mono ?_
    rintro e w3 ⟨v3,rfl,hb3,ho3,_⟩
    have HW3:=hide (Zab HW2.out hb3)
    have HO3:=hide ((ho3 (by trivial)).lower HW2.out.size)
    clear hb3 ho3
    go_wp2_with fail
    go_ret2
    exact⟨_,rfl,HW3.out,fun _=>HO3.out,fun h=>by cases h⟩
theorem Zck (r:Rw)(a:Option Addr)(len cap:Nat)(w:World)(h:Fs w a len cap r.xs)(hf:r.fits)(hm:r.may=true) :
    Calls Tryz.prog 108 #[r.val (.slice a len cap)] w fun e w'=>∃v,e=.returned v∧Owns w' w.heap.size v r.bytes∧Below w.heap.size w w':=by
  have h4:len≤4:=by have:=(Rw.may_parts hm).2.1;rw [h.len] at this;exact this
  have HM:=hide hm
  have HF:=hide hf
  obtain⟨key,dead,xs,wt,cell,no⟩:=r
  have H:=hide h
  have HL:=hide h.len
  have HX:=hide (Zai w ⟨key,dead,xs,wt,cell,no⟩ (.slice a len cap))
  clear h hf hm
  simp only at HX HL H
  unfold Rw.val
  simp only
  cases dead
  · have HOf:=hide (OwnsI.lit (w.alloc (.cells #[.float .f64 key,.bool false,.slice a len cap,.int .i64 wt,.int .i64 cell,.int .i64 no] 33)) w.heap.size [⟨1,0,0,noS⟩,⟨4,0,key,noS⟩,⟨3,wt,0,noS⟩,⟨2,cell,0,noS⟩,⟨3,no,0,noS⟩,⟨1,(len:Nat),0,noS⟩] (by simp) (by simp))
    have HWf:=hide (Zbm w (.cells #[.float .f64 key,.bool false,.slice a len cap,.int .i64 wt,.int .i64 cell,.int .i64 no] 33) (.cells (Zay [⟨1,0,0,noS⟩,⟨4,0,key,noS⟩,⟨3,wt,0,noS⟩,⟨2,cell,0,noS⟩,⟨3,no,0,noS⟩,⟨1,(len:Nat),0,noS⟩]).toArray 158))
    have HXf:=hide (HX.out.keep (Zaa (w.alloc (.cells #[.float .f64 key,.bool false,.slice a len cap,.int .i64 wt,.int .i64 cell,.int .i64 no] 33)) (.cells (Zay [⟨1,0,0,noS⟩,⟨4,0,key,noS⟩,⟨3,wt,0,noS⟩,⟨2,cell,0,noS⟩,⟨3,no,0,noS⟩,⟨1,(len:Nat),0,noS⟩]).toArray 158)))
    have hsz:(w.alloc (.cells #[.float .f64 key,.bool false,.slice a len cap,.int .i64 wt,.int .i64 cell,.int .i64 no] 33)).heap.size=w.heap.size+1:=by simp
    rw [hsz] at HOf
    clear hsz HX
    go_enter Tryz.func108,Tryz.ntmps108
    go_wp2_with fail
    go_loopw [4,5] (fun v i wr'=>∃k:Nat,k≤len∧i=.int .i64 k∧Hid (OwnsI wr' w.heap.size v ([⟨1,0,0,noS⟩,⟨4,0,key,noS⟩,⟨3,wt,0,noS⟩,⟨2,cell,0,noS⟩,⟨3,no,0,noS⟩,⟨1,(len:Nat),0,noS⟩] ++ (xs.map numI).take k))∧Hid (Below w.heap.size w wr')∧Hid (RwBlk wr' w.heap.size ⟨key,false,xs,wt,cell,no⟩ (.slice a len cap))) (fun _ i _=>len-(intOf i).toNat)
    case atStart=>exact ⟨0,by omega,rfl,HOf,HWf,HXf⟩
    case round =>
     obtain⟨k,hk,rfl,hown,hWr,hXr⟩:=hrel
     have x2:=hXr.out.c2
     rcases Nat.lt_or_ge k len with hlt | hge
     · obtain⟨b,off,rfl,hc,hmem,hx⟩:=(H.out.keep hWr.out (Nat.le_refl _)).at k hlt
       obtain⟨x,hxe⟩:∃x,x=xs.getD k 0:=⟨_,rfl⟩
       rw [← hxe] at hc hmem hx
       have HXE:=hide hxe
       have HOk:=hide (hown.out.keep (Zaa wr (.cells #[.int .i64 4,.int .i64 0,.float .f64 x,.string ⟨#[]⟩] 158)) (Nat.le_refl _))
       have HWk:=hide (Zab hWr.out (Zaa wr (.cells #[.int .i64 4,.int .i64 0,.float .f64 x,.string ⟨#[]⟩] 158)))
       have HXk:=hide (hXr.out.keep (Zaa wr (.cells #[.int .i64 4,.int .i64 0,.float .f64 x,.string ⟨#[]⟩] 158)))
       have HI:=hide (ZbV wr (numI x) (Zdo x hx))
       unfold numI noS at HI
       simp only at HI
       have HLEN:Hid ((([⟨1,0,0,noS⟩,⟨4,0,key,noS⟩,⟨3,wt,0,noS⟩,⟨2,cell,0,noS⟩,⟨3,no,0,noS⟩,⟨1,(len:Nat),0,noS⟩]:List It) ++ (xs.map numI).take k).length+1≤1000000):=by show _≤_;simp;omega
       clear hxe hmem hx
       go_wp2_with (at_builtin;refine Zaq _ rfl (.tmp 38) (.tmp 45) rfl w.heap.size _ _ rfl HOk.out _ _ _ _ rfl HI.out (fun h=>by cases h) HLEN.out HWk.out.size ?_)
       intro v7 w7 ho7 hb7 hs7
       have HO7:=hide ho7
       have HW7:=hide (HWk.out.trans hb7)
       have HX7:=hide (HXk.out.stayI hs7)
       clear ho7 hb7 hs7 HOk HI HLEN HXk x2
       go_wp2
       go_roundw
       case rel =>
        have hk':k<xs.length:=by rw [HL.out];exact hlt
        refine⟨k+1,by omega,by go_num,?_,HW7,HX7⟩
        have e:(xs.map numI).take (k+1)=(xs.map numI).take k ++ [⟨4,0,x,⟨#[]⟩⟩]:=by
         rw [List.take_succ_eq_append_getElem (by simpa using hk'),HXE.out]
         simp [numI,noS,List.getD,hk']
        rw [e,← List.append_assoc]
        exact HO7
       case measure=>simp only [intOf];omega
     · have htk:(xs.map numI).take k=xs.map numI:=List.take_of_length_le (by rw [List.length_map,HL.out];omega)
       rw [htk] at hown
       have hoi:OwnsI wr w.heap.size u4 (Rw.items ⟨key,false,xs,wt,cell,no⟩):=by
        have e:Rw.items ⟨key,false,xs,wt,cell,no⟩=[⟨1,0,0,noS⟩,⟨4,0,key,noS⟩,⟨3,wt,0,noS⟩,⟨2,cell,0,noS⟩,⟨3,no,0,noS⟩,⟨1,(len:Nat),0,noS⟩] ++ xs.map numI:=by
         unfold Rw.items Rw.head
         simp only [HL.out]
         rfl
        rw [e]
        exact hown.out
       obtain⟨a2,c2,hv2,is2,_⟩:=hoi.is (Zc3 HF.out (by show xs.length≤4;rw [HL.out];exact h4))
       have hil:(Rw.items ⟨key,false,xs,wt,cell,no⟩).length=6+xs.length:=Zer _
       obtain⟨n2,hn2⟩:∃n,(Rw.items ⟨key,false,xs,wt,cell,no⟩).length=n:=⟨_,rfl⟩
       rw [hn2] at hv2 is2 hil
       subst hv2
       have HP2:=hide (Zfo a2 n2 c2 _ wr is2 (by rw [HL.out] at hil;omega))
       rw [Zcf HM.out] at HP2
       clear htk hown hoi is2 hil hn2
       go_wp2_with fail
       refine HP2.out.mono ?_
       rintro e w8 ⟨v8,rfl,hb8,ho8,_⟩
       have HW8:=hide (Zab hWr.out hb8)
       have HO8:=hide ((ho8 (by trivial)).lower hWr.out.size)
       clear hb8 ho8 x2
       go_wp2_with fail
       go_ret
       exact⟨_,rfl,HO8.out,HW8.out⟩
  · have HOf:=hide (OwnsI.lit (w.alloc (.cells #[.float .f64 key,.bool true,.slice a len cap,.int .i64 wt,.int .i64 cell,.int .i64 no] 33)) w.heap.size [⟨1,1,0,noS⟩,⟨4,0,key,noS⟩,⟨3,wt,0,noS⟩,⟨2,cell,0,noS⟩,⟨3,no,0,noS⟩,⟨1,(len:Nat),0,noS⟩] (by simp) (by simp))
    have HWf:=hide (Zbm w (.cells #[.float .f64 key,.bool true,.slice a len cap,.int .i64 wt,.int .i64 cell,.int .i64 no] 33) (.cells (Zay [⟨1,1,0,noS⟩,⟨4,0,key,noS⟩,⟨3,wt,0,noS⟩,⟨2,cell,0,noS⟩,⟨3,no,0,noS⟩,⟨1,(len:Nat),0,noS⟩]).toArray 158))
    have HXf:=hide (HX.out.keep (Zaa (w.alloc (.cells #[.float .f64 key,.bool true,.slice a len cap,.int .i64 wt,.int .i64 cell,.int .i64 no] 33)) (.cells (Zay [⟨1,1,0,noS⟩,⟨4,0,key,noS⟩,⟨3,wt,0,noS⟩,⟨2,cell,0,noS⟩,⟨3,no,0,noS⟩,⟨1,(len:Nat),0,noS⟩]).toArray 158)))
    have hsz:(w.alloc (.cells #[.float .f64 key,.bool true,.slice a len cap,.int .i64 wt,.int .i64 cell,.int .i64 no] 33)).heap.size=w.heap.size+1:=by simp
    rw [hsz] at HOf
    clear hsz HX
    go_enter Tryz.func108,Tryz.ntmps108
    go_wp2_with fail
    go_loopw [4,5] (fun v i wr'=>∃k:Nat,k≤len∧i=.int .i64 k∧Hid (OwnsI wr' w.heap.size v ([⟨1,1,0,noS⟩,⟨4,0,key,noS⟩,⟨3,wt,0,noS⟩,⟨2,cell,0,noS⟩,⟨3,no,0,noS⟩,⟨1,(len:Nat),0,noS⟩] ++ (xs.map numI).take k))∧Hid (Below w.heap.size w wr')∧Hid (RwBlk wr' w.heap.size ⟨key,true,xs,wt,cell,no⟩ (.slice a len cap))) (fun _ i _=>len-(intOf i).toNat)
    case atStart=>exact ⟨0,by omega,rfl,HOf,HWf,HXf⟩
    case round =>
     obtain⟨k,hk,rfl,hown,hWr,hXr⟩:=hrel
     have x2:=hXr.out.c2
     rcases Nat.lt_or_ge k len with hlt | hge
     · obtain⟨b,off,rfl,hc,hmem,hx⟩:=(H.out.keep hWr.out (Nat.le_refl _)).at k hlt
       obtain⟨x,hxe⟩:∃x,x=xs.getD k 0:=⟨_,rfl⟩
       rw [← hxe] at hc hmem hx
       have HXE:=hide hxe
       have HOk:=hide (hown.out.keep (Zaa wr (.cells #[.int .i64 4,.int .i64 0,.float .f64 x,.string ⟨#[]⟩] 158)) (Nat.le_refl _))
       have HWk:=hide (Zab hWr.out (Zaa wr (.cells #[.int .i64 4,.int .i64 0,.float .f64 x,.string ⟨#[]⟩] 158)))
       have HXk:=hide (hXr.out.keep (Zaa wr (.cells #[.int .i64 4,.int .i64 0,.float .f64 x,.string ⟨#[]⟩] 158)))
       have HI:=hide (ZbV wr (numI x) (Zdo x hx))
       unfold numI noS at HI
       simp only at HI
       have HLEN:Hid ((([⟨1,1,0,noS⟩,⟨4,0,key,noS⟩,⟨3,wt,0,noS⟩,⟨2,cell,0,noS⟩,⟨3,no,0,noS⟩,⟨1,(len:Nat),0,noS⟩]:List It) ++ (xs.map numI).take k).length+1≤1000000):=by show _≤_;simp;omega
       clear hxe hmem hx
       go_wp2_with (at_builtin;refine Zaq _ rfl (.tmp 38) (.tmp 45) rfl w.heap.size _ _ rfl HOk.out _ _ _ _ rfl HI.out (fun h=>by cases h) HLEN.out HWk.out.size ?_)
       intro v7 w7 ho7 hb7 hs7
       have HO7:=hide ho7
       have HW7:=hide (HWk.out.trans hb7)
       have HX7:=hide (HXk.out.stayI hs7)
       clear ho7 hb7 hs7 HOk HI HLEN HXk x2
       go_wp2
       go_roundw
       case rel =>
        have hk':k<xs.length:=by rw [HL.out];exact hlt
        refine⟨k+1,by omega,by go_num,?_,HW7,HX7⟩
        have e:(xs.map numI).take (k+1)=(xs.map numI).take k ++ [⟨4,0,x,⟨#[]⟩⟩]:=by
         rw [List.take_succ_eq_append_getElem (by simpa using hk'),HXE.out]
         simp [numI,noS,List.getD,hk']
        rw [e,← List.append_assoc]
        exact HO7
       case measure=>simp only [intOf];omega
     · have htk:(xs.map numI).take k=xs.map numI:=List.take_of_length_le (by rw [List.length_map,HL.out];omega)
       rw [htk] at hown
       have hoi:OwnsI wr w.heap.size u4 (Rw.items ⟨key,true,xs,wt,cell,no⟩):=by
        have e:Rw.items ⟨key,true,xs,wt,cell,no⟩=[⟨1,1,0,noS⟩,⟨4,0,key,noS⟩,⟨3,wt,0,noS⟩,⟨2,cell,0,noS⟩,⟨3,no,0,noS⟩,⟨1,(len:Nat),0,noS⟩] ++ xs.map numI:=by
         unfold Rw.items Rw.head
         simp only [HL.out]
         rfl
        rw [e]
        exact hown.out
       obtain⟨a2,c2,hv2,is2,_⟩:=hoi.is (Zc3 HF.out (by show xs.length≤4;rw [HL.out];exact h4))
       have hil:(Rw.items ⟨key,true,xs,wt,cell,no⟩).length=6+xs.length:=Zer _
       obtain⟨n2,hn2⟩:∃n,(Rw.items ⟨key,true,xs,wt,cell,no⟩).length=n:=⟨_,rfl⟩
       rw [hn2] at hv2 is2 hil
       subst hv2
       have HP2:=hide (Zfo a2 n2 c2 _ wr is2 (by rw [HL.out] at hil;omega))
       rw [Zcf HM.out] at HP2
       clear htk hown hoi is2 hil hn2
       go_wp2_with fail
       refine HP2.out.mono ?_
       rintro e w8 ⟨v8,rfl,hb8,ho8,_⟩
       have HW8:=hide (Zab hWr.out hb8)
       have HO8:=hide ((ho8 (by trivial)).lower hWr.out.size)
       clear hb8 ho8 x2
       go_wp2_with fail
       go_ret
       exact⟨_,rfl,HO8.out,HW8.out⟩
theorem Pl.copyV {P : Program} {ops : Array Oper} {n : Nat} {f : Nat → Value} {w : World} (i : Nat) (t : TypeId) (x y : Operand) (v : Value) (w' : World) (h : (Pl.op ops i).op = .call { callee := .builtin .copy, args := #[x, y], argTypes := #[t, t] }) (hx : Pl.inB n x = true) (hy : Pl.inB n y = true)
    (hv : ∀ ty, (Builtin.copy_ #[t, t] ty #[Pl.ev f x, Pl.ev f y]).run P w = .ok v w') :
    ∀ A, Pl.At n A f → (execOp A.eval (Pl.op ops i)).run P w = .ok (.value v) w' := by
  intro A hA
  unfold execOp
  rw [h]
  simp [resolve, invoke, builtin, hA.ev x hx, hA.ev y hy, hv]
theorem szI (w:World):(sizeOf 3).run Tryz.prog w=.ok 1 w:=by
 obtain⟨i0,hi,hz0,hz1,hz2⟩:=info_parts ZkB.info
 simp [sizeOf,typeInfo,hi,hz1]
theorem ZnC : Tryz.prog.elem 46 = 3 := by kernel_rfl
theorem Zh2 (a:Option Addr)(len cap k:Nat)(hk:k≤len)(w:World):(Instr.sliceAt 46 (.slice a len cap) (some (.int .i64 (k:Nat))) none none).run Tryz.prog w=.ok (.slice (fromA a cap k) (len-k) (cap-k)) w:=by
 have h22:Tryz.prog.underlying 46=some (.slice (Tryz.prog.elem 46)):=by kernel_rfl
 rw [run_sliceAt_slice w 46 _ _ _ _ h22,run_slice_l w 46 a len cap h22 .i64 (k:Nat) (by omega) (by omega),ZnC,szI]
 simp [Result.andThen,sliced,fromA]
theorem Zh4 (a:Option Addr)(len cap k:Nat)(hk:k≤cap)(w:World):(Instr.sliceAt 46 (.slice a len cap) none (some (.int .i64 (k:Nat))) none).run Tryz.prog w=.ok (.slice (fromA a cap 0) k cap) w:=by
 have h22:Tryz.prog.underlying 46=some (.slice (Tryz.prog.elem 46)):=by kernel_rfl
 rw [run_sliceAt_slice w 46 _ _ _ _ h22,run_slice_h w 46 a len cap h22 .i64 (k:Nat) (by omega) (by omega),ZnC,szI]
 simp [Result.andThen,sliced,fromA]
theorem ZmA : ∀ n : Fin 256, bits .and .u64 ((n.val : Nat) : Int) 4294967295 = ((n.val : Nat) : Int) := by decide +kernel
theorem Zk9 (n:Nat)(hn:n≤255)(w:World):Calls Tryz.prog 191 #[.int .u64 1,.int .u64 (n:Nat)] w fun e w'=>e=.returned (.tuple #[.int .u64 0,.int .u64 (n:Nat)])∧w'=w:=by
 have hb1:bits .and .u64 1 4294967295=1:=by decide +kernel
 have hb0:bits .and .u64 0 4294967295=0:=by decide +kernel
 have hbn:bits .and .u64 (n:Int) 4294967295=(n:Int):=ZmA ⟨n,by omega⟩
 have hd:(n:Int) / 4294967296=0:=by omega
 have hw:IntKind.u64.wrap (n:Int)=(n:Int):=by rw [IntKind.wrap_u64];omega
 have h0:IntKind.u64.wrap 0=0:=by decide
 clear hn
 go_enter Tryz.func191,Tryz.ntmps191
 go_wp2_with fail
 go_ret2
 exact⟨by simp,rfl⟩
theorem mul_one (n : Nat) (hn : n ≤ 255) (w : World) : Calls Tryz.prog 188 #[.int .u64 1, .int .u64 (n : Nat)] w fun e w' => e = .returned (.tuple #[.int .u64 0, .int .u64 (n : Nat)]) ∧ w' = w := by
 have H := hide (Zk9 n hn)
 go_enter Tryz.func188, Tryz.ntmps188
 go_wp2_with fail
 refine (H.out _).mono ?_
 rintro e w' ⟨rfl, hw⟩
 obtain rfl := hw.symm
 go_wp2_with fail
 go_ret2
 exact ⟨rfl, rfl⟩
def fours (n : Nat) : List Value := kVals (List.replicate n 4)
def noughts (n : Nat) : List Value := kVals (List.replicate n 0)
theorem Zau (n : Nat) : (fours n).length = n := by simp [fours, kVals]
theorem Zho (n : Nat) : (noughts n).length = n := by simp [noughts, kVals]
theorem Zen (n : Nat) : ∀ u ∈ fours n, u.oneCell' = true := Zg0 _
theorem Zgr {v : Value} (h : (fours n)[j]? = some v) : j < n ∧ v = .int .i64 4 := by
 have hl := (List.getElem?_eq_some_iff.1 h).1
 rw [Zau] at hl
 simp [fours, kVals, hl] at h
 exact ⟨hl, h.symm⟩
def partly (n m : Nat) : List Value := fours m ++ noughts (n - m)
theorem Zfj (h : m ≤ n) : (partly n m).length = n := by
 simp [partly, Zau, Zho]
 omega
theorem Zjf (h : j < m) : (partly n m)[j]? = some (.int .i64 4) := by
 unfold partly
 rw [List.getElem?_append_left (by rw [Zau]; exact h)]
 simp [fours, kVals, h]
theorem Ze3 (n m c : Nat) : (partly n m).take m ++ fours c ++ (partly n m).drop (m + c) = partly n (m + c) := by
 have e1 : (partly n m).take m = fours m := by
  unfold partly
  rw [List.take_append_of_le_length (by rw [Zau]; exact Nat.le_refl _), List.take_of_length_le (by rw [Zau]; exact Nat.le_refl _)]
 have e2 : (partly n m).drop (m + c) = noughts (n - (m + c)) := by
  unfold partly
  rw [List.drop_append, Zau, List.drop_eq_nil_of_le (by rw [Zau]; omega)]
  have e3 : m + c - m = c := by omega
  rw [e3, List.nil_append]
  unfold noughts kVals
  rw [← List.map_drop, List.drop_replicate]
  congr 2
  omega
 rw [e1, e2]
 unfold partly fours kVals
 rw [← List.map_append, List.replicate_append_replicate]
theorem Zhq (h : w.heap[g]? = some (Obj.cells (partly n m).toArray 3 (0, 0))) (hj : j < m) : w.cell? ⟨g, j, none⟩ = some (.int .i64 4) := by
 simp only [World.cell?, h]
 simpa using Zjf (n := n) hj
theorem Zh1 (g n m : Nat) (h : m < n) (w : World) : (Instr.sliceAt 46 (.slice (some ⟨g, 0, none⟩) n n) (some (.int .i64 (m : Nat))) none none).run Tryz.prog w = .ok (.slice (some ⟨g, m, none⟩) (n - m) (n - m)) w := by
 rw [Zh2 _ n n m (by omega)]
 unfold fromA
 rw [if_neg (by omega)]
 simp [Addr.add_lit]
theorem Zh3 (g n m : Nat) (h : m < n) (w : World) : (Instr.sliceAt 46 (.slice (some ⟨g, 0, none⟩) n n) none (some (.int .i64 (m : Nat))) none).run Tryz.prog w = .ok (.slice (some ⟨g, 0, none⟩) m n) w := by
 rw [Zh4 _ n n m (by omega)]
 unfold fromA
 rw [if_neg (by omega)]
 simp [Addr.add_lit]
theorem ZjG (g n m:Nat)(hm:m<n)(w:World)(hg:w.heap[g]? = some (Obj.cells (partly n m).toArray 3 (0,0)))(ty:TypeId) :
    (Builtin.copy_ #[46,46] ty #[.slice (some ⟨g,m,none⟩) (n-m) (n-m),.slice (some ⟨g,0,none⟩) m n]).run Tryz.prog w=.ok (.int .i64 ((Nat.min m (n-m):Nat):Int)) (w.setRow g (partly n (m+Nat.min m (n-m))).toArray):=by
  have hc:Nat.min m (n-m)≤m∧Nat.min m (n-m)≤n-m:=⟨Nat.min_le_left _ _,Nat.min_le_right _ _⟩
  generalize hcc:Nat.min m (n-m)=c at *
  have h:=run_copy_row (P:=Tryz.prog) w 46 46 ty 3 g m (n-m) (n-m) ⟨g,0,none⟩ m n (partly n m).toArray 3 (fours c) Tryz.underlying46 (by kernel_rfl) hg (by rw [Zau,hcc])
   (fun j v hj=>by
    obtain⟨h1,rfl⟩:=Zgr hj
    rw [Addr.add_lit,Nat.zero_add]
    exact Zhq hg (by omega)) (by rw [Zau];simp [Zfj (Nat.le_of_lt hm)];omega) (Zen c)
  rw [h,Zau]
  rw [Ze3 n m c]
  rfl
theorem ZkR {w : World} {g : Nat} {cur : Array Value} {t : TypeId} (h : w.heap[g]? = some (Obj.cells cur t (0, 0))) (new : Array Value) : (w.setRow g new).heap[g]? = some (Obj.cells new t (0, 0)) := setRow_heap w g _ _ t _ h
theorem rep9 (w0 w:World)(g n m:Nat)(hm:m<n)(hn:n≤1000000)(hB:w0.heap.size≤g)(hg:w.heap[g]? = some (Obj.cells (partly n m).toArray 3 (0,0)))(hW:Below w0.heap.size w0 w)
    {Q:Exit→Act→World→Prop}{A:Act}(hsz:A.tmps.size=48)(hdf:A.defers=[])(s7:A.tmps.getD 7 undef=.slice (some ⟨g,0,none⟩) n n)(s8:A.tmps.getD 8 undef=.int .i64 (m:Nat))
    (hend:∀(u:Nat→Value) w',(Below w0.heap.size w0 w'∧w'.heap[g]? = some (Obj.cells (partly n (m+Nat.min m (n-m))).toArray 3 (0,0)))→Q .normal (((((((((((A).put (some 38) (u 38)).put (some 39) (u 39)).put (some 40) (u 40)).put (some 41) (u 41)).put (some 42) (u 42)).put (some 43) (u 43)).put (some 44) (u 44)).put (some 45) (u 45)).put (some 46) (u 46)).put (some 8) (.int .i64 ((m+Nat.min m (n-m):Nat):Int))) w') :
    (Code.region 9 (Pl.find 9 ((Tryz.f178.body).getD .skip)) true).wp Tryz.prog Q A w:=by
  have hS0:Below w0.heap.size w0 w.drew:=hW.drew
  have hA:=Pl.At.same (v:=.int .i64 (m:Nat)) (d:=8) (Pl.At.same (v:=.slice (some ⟨g,0,none⟩) n n) (d:=7) (Pl.At.here hsz hdf) s7) s8
  refine Pl.qa (S:=fun w'=>Below w0.heap.size w0 w') hA hS0 ?_
  rw [show (Pl.find 9 ((Tryz.f178.body).getD .skip)).size=10 by kernel_rfl]
  refine Pl.q0 0 38 (.int .i64 (m:Nat)) (Pl.q1) (Pl.q2 (.tmp 8)) hS0 ?_
  refine Pl.q0 1 39 (.slice (some ⟨g,0,none⟩) n n) (Pl.q1) (Pl.q2 (.tmp 7)) hS0 ?_
  refine Pl.q0 2 40 (.int .i64 (m:Nat)) (Pl.q1) (Pl.q2 (.tmp 8)) hS0 ?_
  refine Pl.q0 3 41 (.slice (some ⟨g,m,none⟩) (n-m) (n-m)) (Pl.q1) (Pl.q_36 46 (.tmp 39) (some (.tmp 40)) none (fun w=>Zh1 g n m hm w)) hS0 ?_
  refine Pl.q0 4 42 (.slice (some ⟨g,0,none⟩) n n) (Pl.q1) (Pl.q2 (.tmp 7)) hS0 ?_
  refine Pl.q0 5 43 (.int .i64 (m:Nat)) (Pl.q1) (Pl.q2 (.tmp 8)) hS0 ?_
  refine Pl.q0 6 44 (.slice (some ⟨g,0,none⟩) m n) (Pl.q1) (Pl.q_36 46 (.tmp 42) none (some (.tmp 43)) (fun w=>Zh3 g n m hm w)) hS0 ?_
  have hg1:=ZkR (w:=w.drew) hg (partly n (m+Nat.min m (n-m))).toArray
  have hS1:Below w0.heap.size w0 (w.drew.setRow g (partly n (m+Nat.min m (n-m))).toArray):=below_setRow hS0 hB _
  refine Pl.qp 7 45 (.int .i64 ((Nat.min m (n-m):Nat):Int)) (w.drew.setRow g (partly n (m+Nat.min m (n-m))).toArray) (Pl.q1) (Pl.copyV 7 46 (.tmp 41) (.tmp 44) _ _ (by kernel_rfl) (by decide) (by decide) (fun ty=>ZjG g n m hm w.drew hg ty)) hS1 ?_
  refine Pl.q0 8 46 (.int .i64 ((m+Nat.min m (n-m):Nat):Int)) (Pl.q1) (Pl.qc .add 3 3 (.tmp 38) (.tmp 45) (.int .i64 (m:Nat)) (.int .i64 ((Nat.min m (n-m):Nat):Int)) (fun w=>Zj8 m (Nat.min m (n-m)) _ _ (by have h1:Nat.min m (n-m)≤m:=Nat.min_le_left _ _;omega) w)) hS1 ?_
  refine Pl.q0 9 8 (.int .i64 ((m+Nat.min m (n-m):Nat):Int)) (Pl.q1) (Pl.qf (.tmp 46)) hS1 ?_
  refine Pl.q7 (fun A' hA'=>?_)
  rw [Pl.At.ext hA' ((((((((((hA.put 38 _).put 39 _).put 40 _).put 41 _).put 42 _).put 43 _).put 44 _).put 45 _).put 46 _).put 8 _)]
  exact hend hA'.fn _ ⟨hS1,hg1⟩
theorem Zg6 (h:w.ownsRow base 3 1 (.slice (some ⟨g,0,none⟩) n cap) n (madeCells #[Value.int .i64 0] n).toList)(hc:cap=n):w.heap[g]? = some (Obj.cells (partly n 0).toArray 3 (0,0)):=by
 have e:(madeCells #[Value.int .i64 0] n).toList=partly n 0:=by
  rw [toList_madeCells_one]
  simp [partly,fours,noughts,kVals]
 rw [e] at h
 rcases h.2 with ⟨hv,_⟩ | ⟨g',cap',cur,hv,_,hg,_,_,hsz,htk⟩
 · cases hv
 · simp only [Value.slice.injEq,Option.some.injEq,Addr.mk.injEq,and_true,true_and] at hv
   obtain⟨rfl,rfl⟩:=hv
   have:cur.toList=partly n 0:=by
    rw [← htk,List.take_of_length_le]
    rw [Array.length_toList,hsz,hc]
    exact Nat.le_refl _
   rw [hg]
   congr 2
   apply Array.toList_inj.1
   simpa using this
theorem Zhr (hb : base ≤ g) (hn : n ≤ 1000000) (h : w.heap[g]? = some (Obj.cells (partly n n).toArray 3 (0, 0))) : OwnsV 3 w base (.slice (some ⟨g, 0, none⟩) n n) (fours n) := by
 have e : partly n n = fours n := by simp [partly, noughts, kVals]
 rw [e] at h
 unfold OwnsV
 rw [Zau]
 refine ⟨by rw [Zau, Nat.mul_one], .inr ⟨g, n, _, rfl, hb, h, Nat.le_refl _, by unfold maxLen; omega, ?_, ?_⟩⟩
 · simp [Zau]
 · rw [List.take_of_length_le (by simp [Zau])]
theorem Zi5 (g b n:Nat)(w:World)(hg:w.heap[g]? = some (Obj.cells (partly n 0).toArray 3 (0,0)))(hb:w.cell? ⟨b,0,none⟩=some (.int .i64 4))(ty:TypeId) :
    (Builtin.copy_ #[46,46] ty #[.slice (some ⟨g,0,none⟩) n n,.slice (some ⟨b,0,none⟩) 1 1]).run Tryz.prog w=.ok (.int .i64 ((Nat.min 1 n:Nat):Int)) (w.setRow g (partly n (Nat.min 1 n)).toArray):=by
  have hc:Nat.min 1 n≤1∧Nat.min 1 n≤n:=⟨Nat.min_le_left _ _,Nat.min_le_right _ _⟩
  generalize hcc:Nat.min 1 n=c at *
  have h:=run_copy_row (P:=Tryz.prog) w 46 46 ty 3 g 0 n n ⟨b,0,none⟩ 1 1 (partly n 0).toArray 3 (fours c) Tryz.underlying46 (by kernel_rfl) hg (by rw [Zau,hcc])
   (fun j v hj=>by
    obtain⟨h1,rfl⟩:=Zgr hj
    obtain rfl:j=0:=by omega
    simpa [Addr.add] using hb) (by rw [Zau];simp [Zfj (Nat.zero_le n)];omega) (Zen c)
  rw [h,Zau]
  have e:=Ze3 n 0 c
  rw [e,Nat.zero_add]
  rfl
theorem Zjk (b n:Nat)(w:World)(hx:w.cell? ⟨b,0,none⟩=some (.int .i64 4))(hn:n≤255) :
    Calls Tryz.prog 178 #[.slice (some ⟨b,0,none⟩) 1 1,.int .i64 (n:Nat)] w fun e w'=>∃v,e=.returned v∧OwnsV 3 w' w.heap.size v (fours n)∧Below w.heap.size w w':=by
  obtain⟨i0,hi,hz0,hz1,hz2⟩:=info_parts ZkB.info
  have HM:=hide (mul_one n hn)
  have HX:=hide hx
  have hw1:IntKind.u64.wrap (n:Int)=(n:Int):=by rw [IntKind.wrap_u64];omega
  have hw2:IntKind.i64.wrap (n:Int)=(n:Int):=by rw [IntKind.wrap_i64];omega
  clear hx
  go_enter Tryz.func178,Tryz.ntmps178
  go_wp2_with fail
  refine(HM.out _).mono ?_
  rintro e w' ⟨rfl,hw⟩
  obtain rfl:=hw.symm
  go_wp2_with (at_make;refine wpList_make_full _ rfl _ _ 46 rfl w.heap.size 3 i0 (.int .i64 0) 1 Tryz.underlying46 hi hz0 hz1 _ _ _ _ n rfl rfl (by omega) (by omega) ?b2 ?b3 (Nat.le_refl _) ?_)
  case b2=>rw [hz2];omega
  case b3=>unfold maxLen;omega
  intro w0 hown0 hgrow0
  have HG:=hide (Zg6 hown0 rfl)
  have HW:Hid (Below w.heap.size w w0):=(Below.refl w.heap.size w).grown hgrow0 (Nat.le_refl _) (fun k hk=>by cases hk)
  have HC:Hid (w0.cell? ⟨b,0,none⟩=some (.int .i64 4)):=(HW.out.cell (World.block_lt_of_cell? w _ HX.out)).trans HX.out
  have HMin:Hid (Nat.min 1 n≤n∧(0<n→0<Nat.min 1 n)):=⟨Nat.min_le_right _ _,fun h=>by rw [Nat.lt_min];omega⟩
  have hcopy:=Zi5 w.heap.size b n w0 HG.out HC.out
  have HG1:=hide (ZkR HG.out (partly n (Nat.min 1 n)).toArray)
  have HW1:=hide (below_setRow HW.out (Nat.le_refl w.heap.size) (partly n (Nat.min 1 n)).toArray)
  generalize Nat.min 1 n=c at *
  generalize w0.setRow w.heap.size (partly n c).toArray=w1 at *
  clear hown0 hgrow0 hi hz0 hz1 hz2 HW HG
  go_wp2_with fail
  go_loopw [8] (fun i wr'=>∃m:Nat,m≤n∧(0<n→0<m)∧i=.int .i64 m∧Hid (wr'.heap[w.heap.size]? = some (Obj.cells (partly n m).toArray 3 (0,0)))∧Hid (Below w.heap.size w wr')) (fun i _=>n-(intOf i).toNat)
  case atStart=>exact ⟨c,HMin.out.1,HMin.out.2,rfl,HG1,HW1⟩
  case round =>
   obtain⟨m,hm,hpos,rfl,hg,hWr⟩:=hrel
   rcases Nat.lt_or_ge m n with hlt | hge
   · have HL:=hide hlt
     go_wp2_with fail
     refine Pl.q9 (ops:=Pl.find 9 ((Tryz.f178.body).getD .skip)) ?_
     refine rep9 w wr w.heap.size n m HL.out (by omega) (Nat.le_refl _) hg.out hWr.out (by rfl) (by rfl) (by rfl) (by rfl) ?_
     intro u w2 ⟨hb2,hg2⟩
     simp only [Act.put,List.setIfInBounds_toArray,List.set_cons_zero,List.set_cons_succ]
     have HB2:=hide hb2
     have HG2:=hide hg2
     have hc2:Nat.min m (n-m)≤n-m∧0<Nat.min m (n-m):=⟨Nat.min_le_right _ _,by rw [Nat.lt_min];omega⟩
     clear hb2 hg2
     generalize Nat.min m (n-m)=c2 at *
     go_wp2_with fail
     go_roundw
     case rel=>exact ⟨m+c2,by omega,by omega,by go_num,HG2,HB2⟩
     case measure=>simp only [intOf];omega
   · have hmn:m=n:=by omega
     have HO:Hid (OwnsV 3 wr w.heap.size (.slice (some ⟨w.heap.size,0,none⟩) n n) (fours n)):=Zhr (Nat.le_refl _) (by omega) (by have:=hg.out;rw [hmn] at this;exact this)
     clear hmn
     go_wp2_with fail
     go_ret
     exact⟨_,rfl,HO.out,hWr.out⟩
theorem Ziu {xs : List Nat} (hx : Bytes xs) (hl : xs.length ≤ 1000000) : ∀ (ks : List Int) (l : List It) (q : Nat) (r : List It × Nat), (∀ k ∈ ks, 1 ≤ k ∧ k ≤ 5) → q ≤ xs.length → tks xs ks l q = some r → r.2 ≤ xs.length
  | [], l, q, r, _, hq, h => by
    simp only [tks, Option.some.injEq] at h
    rw [← h]
    exact hq
  | k :: ks, l, q, r, hk, hq, h => by
    simp only [tks] at h
    split at h
    · cases h
    · rename_i i n hi
      have hb : Bytes (xs.drop q) := fun x hh => hx x (List.mem_of_mem_drop hh)
      have := (ZdI hb (by rw [List.length_drop]; omega) (hk k (by simp)) hi).2
      rw [List.length_drop] at this
      exact Ziu hx hl ks _ _ r (fun k' h' => hk k' (by simp [h'])) (by omega) h
theorem Zee {xs : List Nat} (hx : Bytes xs) (hl : xs.length ≤ 1000000) : ∀ (ks : List Int) (l : List It) (q : Nat) (r : List It × Nat), (∀ k ∈ ks, 1 ≤ k ∧ k ≤ 5) → q ≤ xs.length → (∀ i ∈ l, i.fits) → tks xs ks l q = some r → ∀ i ∈ r.1, i.fits
  | [], l, q, r, _, _, hf, h => by
    simp only [tks, Option.some.injEq] at h
    rw [← h]
    exact hf
  | k :: ks, l, q, r, hk, hq, hf, h => by
    simp only [tks] at h
    split at h
    · cases h
    · rename_i i n hi
      have hb : Bytes (xs.drop q) := fun x hh => hx x (List.mem_of_mem_drop hh)
      have := ZdI hb (by rw [List.length_drop]; omega) (hk k (by simp)) hi
      rw [List.length_drop] at this
      refine Zee hx hl ks _ _ r (fun k' h' => hk k' (by simp [h'])) (by omega) ?_ h
      intro j hj
      rcases List.mem_append.1 hj with h1 | h1
      · exact hf j h1
      · simp at h1
        rw [h1]
        exact this.1
theorem Zct (xs : List Nat) : ∀ (ks : List Int) (l : List It) (q : Nat) (r : List It × Nat), tks xs ks l q = some r → r.1.length = l.length + ks.length
  | [], l, q, r, h => by
    simp only [tks, Option.some.injEq] at h
    rw [← h]
    simp
  | k :: ks, l, q, r, h => by
    simp only [tks] at h
    split at h
    · cases h
    · have := Zct xs ks _ _ r h
      rw [this]
      simp
      omega
theorem ZkK (n : Nat) : ∀ t, t < (List.replicate n (4 : Int)).length → 1 ≤ (List.replicate n (4 : Int)).getD t 0 ∧ (List.replicate n (4 : Int)).getD t 0 ≤ 5 := by
 intro t ht
 rw [List.length_replicate] at ht
 simp [List.getD, ht]
theorem Zii {a : Option Addr} {len : Nat} {ks : List Int} (h : Vs w a len (kVals ks)) : Ks w a len ks := by
 have hl : ks.length = len := by have := h.1; simpa [kVals] using this
 refine ⟨hl, fun j hj => ?_⟩
 obtain ⟨b, off, ha, hc⟩ := h.2.2 j hj
 refine ⟨b, off, ha, ?_⟩
 have hj' : j < ks.length := by omega
 rw [hc]
 simp [kVals, List.getD, hj']
theorem ZnA (w0 w:World)(v:Value)(a:Option Addr)(len cap q:Nat)(hq:q≤len)(hW:Below w0.heap.size w0 w)
    {Q:Exit→Act→World→Prop}{A:Act}(hsz:A.tmps.size=42)(hdf:A.defers=[])(s0:A.tmps.getD 0 undef=.slice a len cap)(s8:A.tmps.getD 8 undef=.int .i64 (q:Nat))(s10:A.tmps.getD 10 undef=v)
    (hend:∀(u:Nat→Value) w',(w'=w.drew)→Q .normal ((((((((A).put (some 38) (u 38)).put (some 39) (u 39)).put (some 40) (u 40)).put (some 41) (u 41)).put (some 4) (v)).put (some 5) (.slice (fromA a cap q) (len-q) (cap-q))).put (some 6) (.int .i64 0)) w') :
    (Code.region 10 (Pl.find 10 ((Tryz.f160.body).getD .skip)) true).wp Tryz.prog Q A w:=by
  have hS0:Below w0.heap.size w0 w.drew:=hW.drew
  have hA:=Pl.At.same (v:=v) (d:=10) (Pl.At.same (v:=.int .i64 (q:Nat)) (d:=8) (Pl.At.same (v:=.slice a len cap) (d:=0) (Pl.At.here hsz hdf) s0) s8) s10
  refine Pl.qa (S:=fun w'=>Below w0.heap.size w0 w') hA hS0 ?_
  rw [show (Pl.find 10 ((Tryz.f160.body).getD .skip)).size=7 by kernel_rfl]
  refine Pl.q0 0 38 (v) (Pl.q1) (Pl.q2 (.tmp 10)) hS0 ?_
  refine Pl.q0 1 39 (.slice a len cap) (Pl.q1) (Pl.q2 (.tmp 0)) hS0 ?_
  refine Pl.q0 2 40 (.int .i64 (q:Nat)) (Pl.q1) (Pl.q2 (.tmp 8)) hS0 ?_
  refine Pl.q0 3 41 (.slice (fromA a cap q) (len-q) (cap-q)) (Pl.q1) (Pl.q_36 56 (.tmp 39) (some (.tmp 40)) none (fun w=>Zc9 a len cap q hq w)) hS0 ?_
  refine Pl.q0 4 4 (v) (Pl.q1) (Pl.qf (.tmp 38)) hS0 ?_
  refine Pl.q0 5 5 (.slice (fromA a cap q) (len-q) (cap-q)) (Pl.q1) (Pl.qf (.tmp 41)) hS0 ?_
  refine Pl.q0 6 6 (.int .i64 0) (Pl.q1) (Pl.qf (.const (.int .i64 0))) hS0 ?_
  refine Pl.q7 (fun A' hA'=>?_)
  rw [Pl.At.ext hA' (((((((hA.put 38 _).put 39 _).put 40 _).put 41 _).put 4 _).put 5 _).put 6 _)]
  exact hend hA'.fn _ rfl
theorem ZdT (a:Option Addr)(len cap n:Nat)(xs:List Nat)(w:World)(h:Came w a len cap xs)(hl:len≤100000)(hn:n≤255) :
    Calls Tryz.prog 160 #[.slice a len cap,.int .i64 (n:Nat)] w fun e w'=>Below w.heap.size w w' ∧
     (tks xs (List.replicate n 4) [] 0=none→e=.returned (.tuple #[.slice none 0 0,.slice none 0 0,.int .i64 4])) ∧
     (∀l q,tks xs (List.replicate n 4) [] 0=some (l,q)→q≤len∧(∀i∈l,i.fits)∧∃v,e=.returned (.tuple #[v,.slice (fromA a cap q) (len-q) (cap-q),.int .i64 0])∧OwnsV 23 w' w.heap.size v (fVals (l.map It.x))):=by
 have H:=hide h
 have HR:=hide (Zjk w.heap.size n (w.alloc (.cells #[.int .i64 4] 3)) (by
  have:=heap_alloc_new w (.cells #[.int .i64 4] 3)
  simp only [World.cell?,this]
  rfl) hn)
 have HW:=hide (Zaa w (.cells #[.int .i64 4] 3))
 have HLL:=hide hl
 have HXL:=hide h.bs.1
 have HXB:=hide h.bs.2.1
 clear h hl
 go_enter Tryz.func160,Tryz.ntmps160
 go_wp2_with fail
 refine HR.out.mono ?_
 rintro e w1 ⟨v1,rfl,ho1,hb1⟩
 have HW1:=hide (Zab HW.out hb1)
 obtain⟨ka,kc,hkv,hvs,_⟩:=ho1.vs (Zen n)
 rw [Zau] at hkv hvs
 subst hkv
 have HT:=hide (Zis a len cap xs ka n kc (List.replicate n 4) w1 ⟨H.out.bs.keep HW1.out (Nat.le_refl _),H.out.nil,H.out.le,H.out.big⟩ (Zii hvs) HLL.out (by omega))
 unfold ZaK at HT
 rw [ZbN (ZkK n)] at HT
 clear ho1 hb1 hvs HR
 cases hT:tks xs (List.replicate n 4) [] 0 with
 | none =>
  rw [hT] at HT
  simp only at HT
  have HTN:=hide hT
  clear hT
  go_wp2_with fail
  refine HT.out.mono ?_
  rintro e w2 ⟨v2,rfl,hb2,_,_⟩
  have HW2:=hide (Zab HW1.out hb2)
  clear hb2
  go_wp2_with fail
  go_ret3
  exact⟨HW2.out,fun _=>rfl,fun l q h=>by rw [HTN.out] at h;cases h⟩
 | some lq =>
  obtain⟨l,q⟩:=lq
  rw [hT] at HT
  simp only at HT
  have hq:q≤len:=by
   have:=Ziu HXB.out (by rw [HXL.out];have:=HLL.out;omega) _ _ _ _ (fun k hk=>by rw [(List.mem_replicate.1 hk).2];decide) (Nat.zero_le _) hT
   rw [HXL.out] at this
   exact this
  have HQ:=hide hq
  have HTT:=hide hT
  clear hT hq
  go_wp2_with fail
  refine HT.out.mono ?_
  rintro e w2 ⟨v2,rfl,hb2,ho2,hf2⟩
  have HW2:=hide (Zab HW1.out hb2)
  obtain⟨p2,q2,hv2,is2,_⟩:=ho2.is hf2
  obtain⟨nl,hnl⟩:∃nl,l.length=nl:=⟨_,rfl⟩
  rw [hnl] at hv2 is2
  subst hv2
  have HIS:=hide is2
  have HF2:=hide hf2
  have HNL:=hide hnl
  have HV0:Hid (OwnsV 23 (w2.alloc (.cells #[] 23)) w2.heap.size (.slice (some ⟨w2.heap.size,0,none⟩) 0 0) (fVals [])):=OwnsV.lit 23 w2 _ [] (Nat.le_refl _) (by simp)
  have HB0:=hide (Zaa w2 (.cells #[] 23))
  clear hb2 ho2 hf2 is2 hnl HT
  have hsf:∀(w:World) (a:Addr) (m:Mode) (x:Nat),(store a (.float .f64 x) m).run Tryz.prog w=stored Tryz.prog w a (.float .f64 x) m:=fun w a m x=>run_store Tryz.prog w a _ m rfl
  go_wp2_with fail
  go_loopw [10,28] (fun v i wr'=>∃k:Nat,k≤nl∧i=.int .i64 k∧Hid (OwnsV 23 wr' w2.heap.size v (fVals ((l.map It.x).take k)))∧Hid (Below w2.heap.size w2 wr')) (fun _ i _=>nl-(intOf i).toNat)
  case atStart=>exact ⟨0,by omega,rfl,HV0,HB0⟩
  case round =>
   obtain⟨k,hk,rfl,hown,hWr⟩:=hrel
   have HNL3:Hid (nl≤255):=by
    have:=Zct _ _ _ _ _ HTT.out
    show nl≤255
    rw [← HNL.out]
    simp at this
    omega
   have hnl3:nl≤255:=HNL3.out
   rcases Nat.lt_or_ge k nl with hlt | hge
   · obtain⟨b,off,rfl,c0,c1,c2,c3⟩:=(HIS.out.keep hWr.out (Nat.le_refl _)).2.2 k hlt
     obtain⟨x,hx⟩:∃x,x=l.getD k itD:=⟨_,rfl⟩
     rw [← hx] at c0 c1 c2 c3
     have HX:=hide hx
     obtain⟨xk,hxk⟩:∃n,n=x.kind:=⟨_,rfl⟩
     obtain⟨xn,hxn⟩:∃n,n=x.n:=⟨_,rfl⟩
     obtain⟨xx,hxx⟩:∃n,n=x.x:=⟨_,rfl⟩
     obtain⟨xs',hxs⟩:∃n,n=x.s:=⟨_,rfl⟩
     rw [← hxk] at c0
     rw [← hxn] at c1
     rw [← hxx] at c2
     rw [← hxs] at c3
     have HXX:=hide hxx
     have HOk:=hide ((hown.out.keep (Zaa wr (.cells #[.int .i64 xk,.int .i64 xn,.float .f64 xx,.string xs'] 158)) (Nat.le_refl _)).keep (Zaa _ (.cells #[.float .f64 xx] 23)) (Nat.le_refl _))
     have HWk:=hide (Zab hWr.out (Zbm wr (.cells #[.int .i64 xk,.int .i64 xn,.float .f64 xx,.string xs'] 158) (.cells #[.float .f64 xx] 23)))
     have HVk:Hid (Vs ((wr.alloc (.cells #[.int .i64 xk,.int .i64 xn,.float .f64 xx,.string xs'] 158)).alloc (.cells #[.float .f64 xx] 23)) (some ⟨wr.heap.size+1,0,none⟩) 1 [.float .f64 xx]):=by
      have:=Zlg 23 (wr.alloc (.cells #[.int .i64 xk,.int .i64 xn,.float .f64 xx,.string xs'] 158)) (.float .f64 xx) rfl
      exact hide (by simpa using this)
     have HLEN:Hid ((fVals ((l.map It.x).take k)).length+1≤1000000):=by
      show _≤_
      have:=HNL3.out
      simp [fVals]
      omega
     clear hx hxk hxn hxx hxs
     go_wp2_with (at_builtin;refine Zbz Zm3 _ rfl (.tmp 32) (.tmp 35) rfl w2.heap.size _ _ rfl HOk.out _ _ _ [.float .f64 xx] rfl HVk.out (fun h=>by cases h) HLEN.out HWk.out.size ?_)
     intro v6 w6 ho6 hb6 _
     have HO6:=hide ho6
     have HB6:=hide (HWk.out.trans hb6)
     clear ho6 hb6 HOk HVk
     go_wp2
     go_roundw
     case rel =>
      have hk':k<l.length:=by rw [HNL.out];exact hlt
      refine⟨k+1,by omega,by go_num,?_,HB6⟩
      have e:fVals ((l.map It.x).take (k+1))=fVals ((l.map It.x).take k) ++ [.float .f64 xx]:=by
       rw [List.take_succ_eq_append_getElem (by simpa using hk'),HXX.out,HX.out]
       simp [fVals,List.getD,hk']
      rw [e]
      exact HO6
     case measure=>simp only [intOf];omega
   · have htk:(l.map It.x).take k=l.map It.x:=List.take_of_length_le (by rw [List.length_map,HNL.out];omega)
     rw [htk] at hown
     have HWF:=hide (HW2.out.trans (hWr.out.mono HW2.out.size))
     have HOF:=hide ((hown.out.keep (Below.refl wr.heap.size wr).drew (Nat.le_refl _)).lower HW2.out.size)
     clear htk
     go_wp2_with fail
     refine Pl.q9 (ops:=Pl.find 10 ((Tryz.f160.body).getD .skip)) ?_
     refine ZnA wr wr _ a len cap q HQ.out (Below.refl _ _) (by rfl) (by rfl) (by rfl) (by rfl) (by rfl) ?_
     intro u w5 hw5
     subst hw5
     simp only [Act.put,List.setIfInBounds_toArray,List.set_cons_zero,List.set_cons_succ]
     go_wp2_with fail
     go_ret3
     refine⟨HWF.out.drew,(fun h=>by rw [HTT.out] at h;cases h),fun l' q' h=>?_⟩
     rw [HTT.out] at h
     simp only [Option.some.injEq,Prod.mk.injEq] at h
     obtain⟨rfl,rfl⟩:=h
     exact⟨HQ.out,HF2.out,_,rfl,HOF.out⟩
end Go.Proofs.YtdojdcncncgncaaGreat
