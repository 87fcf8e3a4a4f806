/-
  Lemmas.
-/
import Derived.Test.YtdojdcncncgncaaGreatKtap
import Derived.Test.YtdojdcncncgncaaGreatKtan
namespace Go.Proofs.YtdojdcncncgncaaGreat
open Go.RowKit
set_option linter.unusedVariables false
set_option maxRecDepth 100000
set_option maxHeartbeats 4000000
variable {l:List Lf}{r:Rw}{i k:Nat}{xs y:List Nat}{s:List (List Nat)}
theorem Zfm {n:Nat}(h:∀j,j<n→(sl s j).length≠0)(hn:n=s.length∨n<s.length∧(sl s n).length=0):atE s=n:=by
 rcases Zcs s with ⟨e,aa⟩ | ⟨ab,h0,aa⟩
 · rcases hn with rfl | ⟨h1,h2⟩
   · exact e
   · exact absurd h2 (aa n h1)
 · rcases Nat.lt_trichotomy (atE s) n with h1 | h1 | h1
   · exact absurd h0 (h _ h1)
   · exact h1
   · rcases hn with rfl | ⟨_,h2⟩
     · omega
     · exact absurd h2 (aa n h1)
theorem ZhG (w:World)(v:Sl)(l:List Sb)(h:OwnB w v l)(hl:v.len≤1000){B:Nat}(hB:B≤w.heap.size)(hk:∀k,v.blk=some k→B≤k)(ty:TypeId) :
    ∃v' w',(Builtin.append_ #[65,65] ty #[v.val,.slice (some ⟨w.heap.size,0,none⟩) 1 1]).run Tryz.prog (w.alloc (.cells #[.slice none 0 0] 56))=.ok v'.val w'∧OwnB w' v' (l ++ [Sb.zero])∧v'.len=v.len+1∧Below B w w'∧∀k,v'.blk=some k→B≤k:=by
  have hA:=Zaa w (.cells #[.slice none 0 0] 56);have h1:OwnB (w.alloc (.cells #[.slice none 0 0] 56)) v l:=Own.frame h (fun k hk'=>hA.block k (Own.lt h hk'));have hs:Src Tryz.prog 1 65 (.slice (some ⟨w.heap.size,0,none⟩) 1 1) 1 (Za2 [Sb.zero]) (w.alloc (.cells #[.slice none 0 0] 56)):=by
   refine Src.ofSlice _ Tryz.underlying65 _ 1 1 (Za2 [Sb.zero]) rfl (fun j u hj=>?_) (ZbG _);cases j with
   | zero =>
    have e:Value.slice none 0 0=u:=Option.some.inj hj;subst e;have hn:=heap_alloc_new w (.cells #[.slice none 0 0] 56);rw [Addr.add_lit];simp only [World.cell?];rw [hn];rfl
   | succ j=>simp [Za2] at hj
  obtain⟨v',w',ab,ho,aa,hf,ac⟩:=ZaA Tryz.underlying65 ZdT rfl (by decide) _ v (Za2 l) h1 (ZbG l) _ 1 _ hs (by omega) ty;refine⟨v',w',ab,?_,aa,(hA.mono hB).trans (hf.below (Nat.le_trans hB hA.size) hk),fun k hk'=>?_⟩
  · (have e:Za2 (l ++ [Sb.zero])=Za2 l ++ Za2 [Sb.zero]:=by simp [Za2]);unfold OwnB;rw [e];exact ho
  · rcases ac with e | ⟨e,_⟩
    · rw [e] at hk';exact hk k hk'
    · rw [e] at hk';cases hk';exact Nat.le_trans hB hA.size
section
variable {ops : Array Oper} {rest : List Oper} {o : Oper} {a : Act} {Q : Exit → Act → World → Prop}
theorem ZdH (w:World)(ab:o.guard=none)(s y:Operand)(ho:o.op=.call { callee:=.builtin .append,args:=#[s,y],argTypes:=#[65,65] })(v:Sl)(l:List Sb)(hs:a.eval s=v.val)(hy:a.eval y=.slice (some ⟨w.heap.size,0,none⟩) 1 1)(h:OwnB w v l)(hl:v.len≤1000)(B:Nat)(hB:B≤w.heap.size)(hk:∀k,v.blk=some k→B≤k)
    (hK:∀v' w',OwnB w' v' (l ++ [Sb.zero])→v'.len=v.len+1→Below B w w'→(∀k,v'.blk=some k→B≤k)→wpList Tryz.prog ops Q rest (a.put o.dst v'.val) w'):wpList Tryz.prog ops Q (o :: rest) a (w.alloc (.cells #[.slice none 0 0] 56)):=by
  refine wpList_plain ab fun K hK'=>?_;obtain⟨v',w',aa,r1,r2,r3,r4⟩:=ZhG w v l h hl hB hk o.type;unfold Oper.wp;simp [execOp,ho,resolve,invoke,builtin,hs,hy,aa,Result.andThen];exact hK' _ _ (hK v' w' r1 r2 r3 r4)
end
theorem Tb.mine2 {D:Nat→Prop}{w w1 w2:World}{u v:Sl}{l l3:List Sb}(t:Tb D w w1 u v l)(h3:∀y∈l3,Cm D w y.s y.bs∧y.bs.length≤1000)(hb:Below w1.heap.size w1 w2){b o len cap:Nat}(ho:OwnB w2 ⟨some ⟨b,o,none⟩,len,cap⟩ l3)(hw:w1.heap.size≤b)(hl:len≤1000)(k:Nat)(hk:k<len)(x:Sb)(hx:Cm D w x.s x.bs)(ac:x.bs.length≤1000):∃W,(Instr.storeAt 56 (.pointer (some ⟨b,o+k,none⟩)) x.s.val).run Tryz.prog w2=.ok () W∧Tb D w W u v l∧Gb (New D w) W ⟨some ⟨b,o,none⟩,len,cap⟩ (l3.set k x):=by
 obtain⟨W,ab,o2,f⟩:=Zea w2 b o len cap l3 ho k hk x;have aa:Below w1.heap.size w1 W:=hb.trans (f.below hb.size (fun k hk=>by rw [hk];exact hw));have t2:=t.below aa;have hK:Kept (New D w) w W:=Kept.all t2.e (Nat.le_refl _);refine⟨W,ab,t2,o2.gb (fun y hy=>?_) (fun k hk=>?_) hl⟩
 · rcases List.mem_or_eq_of_mem_set hy with h | rfl
   · exact⟨((h3 y h).1.mono (fun _ hk hl=>.inl ⟨hk,hl⟩)).keep hK,(h3 y h).2⟩
   · exact⟨(hx.mono (fun _ hk hl=>.inl ⟨hk,hl⟩)).keep hK,ac⟩
 · have e:some b=some k:=hk;cases e;exact .inr (Nat.le_trans t.sz hw)
structure An3 where
  s:List (List Nat)
  at_:Int
  e:Int
def insA (s:List (List Nat)) (r:List Nat):An3:=
  if r.length<1∨255<r.length then ⟨s,-1,1⟩ else if 64<(insS s r).length∨508<need (insS s r) then ⟨s,-1,7⟩ else ⟨insS s r,((atE s:Nat):Int),0⟩
def An3Is (D:Nat→Prop) (w:World) (u:Sl) (x:An3) (e:Ending) (w':World):Prop:=Below w.heap.size w w'∧∃(v':Sl) (l':List Sb),e=.returned (.tuple #[lfV u v',.int .i64 x.at_,.int .i64 x.e])∧Gb (Old D w) w' v' l'∧bss l'=x.s
theorem Za1 {fn:Func}{x y z:Nat}(hr:fn.results=#[.cell x 67,.tmp y,.tmp z]){W:World}{g:Nat}{u v:Sl}(k:LfBlk W g u.val v.val)(tmps:Array Value)(ht:tmps.getD x undef=.pointer (some ⟨g,0,none⟩)){p q:Value}(hy:tmps.getD y undef=p)(hz:tmps.getD z undef=q):(results fn tmps).run Tryz.prog W=.ok (.tuple #[lfV u v,p,q]) W:=by
 have c0:=k.c0;have c1:=k.c1;unfold lfV Sl.val at *;(have aa:tmps[x]?.getD undef=.pointer (some ⟨g,0,none⟩):=by simpa using ht);(have ab:tmps[y]?.getD undef=p:=by simpa using hy);(have ac:tmps[z]?.getD undef=q:=by simpa using hz);simp [results,hr,aa,ab,ac,go_sem,c0,c1]
theorem ZmL {D:Nat→Prop}(w:World)(u v:Sl)(l:List Sb)(hg:Gb D w v l)(r:Sl)(hr:r.len<1∨255<r.len) :
    Calls Tryz.prog 58 #[lfV u v,r.val] w fun e w'=>An3Is D w u ⟨bss l,-1,1⟩ e w':=by
  have hT:=Tb.start u hg;have c0:=hT.k1.c0;have c1:=hT.k1.c1;obtain⟨W,ab,k,f,hB⟩:=hT.lay v;have aa:=hide ab;have HK:=hide k;have HF:Hid (An3Is D w u ⟨bss l,-1,1⟩ (.returned (.tuple #[lfV u v,.int .i64 (-1),.int .i64 1])) W):=⟨hB,v,l,rfl,hg.old hB,rfl⟩;clear hg hT ab k f hB;obtain⟨a,len,cap⟩:=v;obtain⟨ua,ul,uc⟩:=u;obtain⟨ra,rl,rc⟩:=r;unfold lfV Sl.val at *;simp only at *;by_cases h1:rl<1
  · (have i1:(rl:Int)<1:=by omega);go_enter Tryz.func58,Tryz.ntmps58;go_wp2_with (refine Zac _ rfl rfl 67 (.tmp 4) (.tmp 17) rfl (.pointer (some ⟨w.heap.size+1,0,none⟩)) (.agg #[.slice ua ul uc,.slice a len cap]) rfl rfl W aa.out ?_);refine bodyPost_ret (Za1 (u:=⟨ua,ul,uc⟩) (v:=⟨a,len,cap⟩) rfl HK.out _ rfl rfl rfl) rfl ?_;exact HF.out
  · (have i1:¬(rl:Int)<1:=by omega);(have i2:(255:Int)<(rl:Int):=by omega);go_enter Tryz.func58,Tryz.ntmps58;go_wp2_with (refine Zac _ rfl rfl 67 (.tmp 4) (.tmp 17) rfl (.pointer (some ⟨w.heap.size+1,0,none⟩)) (.agg #[.slice ua ul uc,.slice a len cap]) rfl rfl W aa.out ?_);refine bodyPost_ret (Za1 (u:=⟨ua,ul,uc⟩) (v:=⟨a,len,cap⟩) rfl HK.out _ rfl rfl rfl) rfl ?_;exact HF.out
theorem Zl6 {D:Nat→Prop}(w:World)(u v:Sl)(l:List Sb)(hg:Gb D w v l)(hv:v.len≤900)(x:Sb)(hx:Cm D w x.s x.bs)(h1:1≤x.bs.length)(h2:x.bs.length≤255)(X:An3)(cb:64<(insS (bss l) x.bs).length∨508<need (insS (bss l) x.bs)→X=⟨bss l,-1,7⟩)(ca:¬64<(insS (bss l) x.bs).length→¬508<need (insS (bss l) x.bs)→X=⟨insS (bss l) x.bs,((atE (bss l):Nat):Int),0⟩) :
    Calls Tryz.prog 58 #[lfV u v,x.s.val] w fun e w'=>An3Is D w u X e w':=by
  have hT:=Tb.start u hg;have bw:=hg.len;have cl:=hx.len;have c0:=hT.k1.c0;have c1:=hT.k1.c1;have HT:=hide hT;have ai:Hid (∀(w1 w2:World) (b o n cap k:Nat) (l3:List Sb),Tb D w w1 u v l→l3=l∨l3=l ++ [Sb.zero]→Below w1.heap.size w1 w2→OwnB w2 ⟨some ⟨b,o,none⟩,n,cap⟩ l3→w1.heap.size≤b→n≤1000→k<n→∃W,(Instr.storeAt 56 (.pointer (some ⟨b,o+k,none⟩)) x.s.val).run Tryz.prog w2=.ok () W∧Tb D w W u v l∧Gb (New D w) W ⟨some ⟨b,o,none⟩,n,cap⟩ (l3.set k x)):=by
   intro w1 w2 b o n cap k l3 t ch hb ho hw hn hk;refine t.mine2 (fun y hy=>?_) hb ho hw hn k hk x hx (by omega);rcases ch with rfl | rfl
   · exact hg.bs y hy
   · rcases List.mem_append.1 hy with h | h
     · exact hg.bs y h
     · rw [List.mem_singleton.1 h];exact⟨Cm.none w,by simp [Sb.zero]⟩
  have ab:Hid (∀W,Below w.heap.size w W→Gb (Old D w) W v l):=fun W hB=>hg.old hB;have ce:Hid (∀k,k<l.length→bss (l.set k x)=(bss l).set k x.bs):=fun k _=>ZbT l k x;have cf:Hid (bss ((l ++ [Sb.zero]).set l.length x)=bss l ++ [x.bs]):=by
   show _=_;rw [ZbT];simp [bss]
  have HW:=hide (fun W s=>ZgB W u v s);have HN:=hide (fun (W:World) (s:Sl) (l4:List Sb) (hW:Gb (New D w) W s l4)=>ZeV W u s l4 hW);have ao:=hide cb;have av:=hide ca;clear hg hT hx cb ca;obtain⟨⟨ra,rl,rc⟩,bs⟩:=x;obtain⟨a,len,cap⟩:=v;obtain⟨ua,ul,uc⟩:=u;unfold lfV Sl.val at *;simp only at *;(have i1:¬(rl:Int)<1:=by omega);(have i2:¬(255:Int)<(rl:Int):=by omega);go_enter Tryz.func58,Tryz.ntmps58;go_wp2_with fail;generalize (w.alloc (.cells #[.slice ua ul uc,.slice a len cap] 67)).alloc (.cells #[.slice none 0 0,.slice none 0 0] 67)=w1 at *;have d2:=(HT.out.k1.below (Zaa w1 (.cells #[] 56))).c1;unfold Sl.val at d2;simp only at d2;go_loopw [7] (fun iv wr=>wr=w1∧∃n:Nat,n≤len∧iv=.int .i64 (n:Int)∧Hid (∀j,j<n→(sl (bss l) j).length≠0)) (fun iv _=>len-(intOf iv).toNat)
  case atStart=>exact ⟨rfl,0,Nat.zero_le _,rfl,fun _ h=>absurd h (Nat.not_lt_zero _)⟩
  case round =>
   obtain⟨rfl,n,hn,rfl,aj⟩:=hrel;rcases Nat.lt_or_ge n len with cd | ck
   · (have i3:(n:Int)<(len:Int):=by omega);obtain⟨bb,oo,ha,cm⟩:=HT.out.g.cell n cd;replace ha:a=some ⟨bb,oo,none⟩:=ha;subst ha;obtain⟨_,br,aw⟩:=HT.out.g.at (i:=n) cd;obtain⟨⟨xa,xn,xc⟩,bx⟩:∃s,s=(l.getD n Sb.zero).s:=⟨_,rfl⟩;rw [← bx] at cm br;unfold Sl.val at cm;simp only at cm br;(have cn:xn≤1000:=by omega);by_cases cj:xn=0
     · subst cj;have bj:Hid (atE (bss l)=n):=Zfm aj.out (.inr ⟨by rw [Zag];omega,by omega⟩);(have cg:Hid (n<(bss l).length):=by show _<_;rw [Zag];omega);clear br aw bx aj;go_wp2_with (at_builtin;refine ZaO _ rfl (.tmp 34) (.tmp 36) rfl ⟨some ⟨bb,oo,none⟩,len,cap⟩ l rfl rfl HT.out.g ?_);intro v1 w2 ho az ax ay;obtain⟨b,o,ha⟩:=ho.pos (by rw [az];show 0<len;omega);obtain⟨sa,sn,sc⟩:=v1;replace ha:sa=some ⟨b,o,none⟩:=ha;replace az:len=sn:=az.symm;subst ha;subst az;(have i5:¬(n:Int)=(len:Int):=by omega);obtain⟨W3,am,t3,g3⟩:=ai.out _ w2 b o len sc n l HT.out (.inl rfl) ax ho (ay b rfl) (by omega) (by omega);have ap:Hid (bss (l.set n ⟨⟨ra,rl,rc⟩,bs⟩)=insS (bss l) bs):=by
        show _=_;have:=cg.out;unfold insS;rw [bj.out,if_neg (by omega),ce.out n (by omega)]
       clear ho ax ay cm;have bd:Hid ((insS (bss l) bs).length=len):=by
        show _=_;rw [← ap.out,Zag];exact g3.len
       have af:=hide am;have e0:=t3.k1.c0;have e1:=t3.k1.c1;have ar:=hide t3;have ba:=hide g3;have bf:=hide (HW.out W3 ⟨some ⟨b,o,none⟩,len,sc⟩);clear am t3 g3 d2 HT ai;unfold Sl.val at *;simp only at *;by_cases bm:64<len
       · (have i6:(64:Int)<(len:Int):=by omega);have HX:=hide (ao.out (.inl (by rw [bd.out];exact bm)));obtain⟨W6,aa,k6,f6,ah⟩:=ar.out.lay ⟨some ⟨bb,oo,none⟩,len,cap⟩;have ag:=hide aa;have bc:=hide k6;have HF:Hid (An3Is D w ⟨ua,ul,uc⟩ X (.returned (.tuple #[lfV ⟨ua,ul,uc⟩ ⟨some ⟨bb,oo,none⟩,len,cap⟩,.int .i64 (-1),.int .i64 7])) W6):=by
          show An3Is _ _ _ _ _ _;rw [HX.out];exact⟨ah,_,l,rfl,ab.out W6 ah,rfl⟩
         clear aa k6 f6 ah ar ba bf HW HN HX ao av ab bd ap;unfold lfV Sl.val at *;simp only at *;go_wp2_with (first | refine Zac _ rfl rfl 56 (.tmp 48) (.tmp 47) rfl (.pointer (some ⟨b,o+n,none⟩)) (.slice ra rl rc) rfl rfl W3 af.out ?_ | refine Zac _ rfl rfl 67 (.tmp 4) (.tmp 59) rfl (.pointer (some ⟨w.heap.size+1,0,none⟩)) (.agg #[.slice ua ul uc,.slice (some ⟨bb,oo,none⟩) len cap]) rfl rfl W6 ag.out ?_);refine bodyPost_ret (Za1 (u:=⟨ua,ul,uc⟩) (v:=⟨some ⟨bb,oo,none⟩,len,cap⟩) rfl bc.out _ rfl rfl rfl) rfl ?_;exact HF.out
       · (have i6:¬(64:Int)<(len:Int):=by omega);go_wp2_with (refine Zac _ rfl rfl 56 (.tmp 48) (.tmp 47) rfl (.pointer (some ⟨b,o+n,none⟩)) (.slice ra rl rc) rfl rfl W3 af.out ?_);refine bf.out.mono ?_;rintro e w4 ⟨rfl,bh⟩;have au:=hide (ar.out.below bh);have aq:=hide (ba.out.below bh (Nat.le_refl _));have ae:=hide (HN.out w4 _ _ aq.out);rw [ap.out] at ae;clear bf ar ba bh af e0 e1 HN;simp only at *;by_cases ac:508<need (insS (bss l) bs)
         · have HX:=hide (ao.out (.inr ac));(have i7:(508:Int)<((need (insS (bss l) bs):Nat):Int):=by omega);obtain⟨nd,al⟩:∃nd,nd=need (insS (bss l) bs):=⟨_,rfl⟩;rw [← al] at ae i7;clear al ac ao av;go_wp2_with fail;refine ae.out.mono ?_;rintro e w5 ⟨rfl,ak⟩;have ad:=au.out.below ak;obtain⟨W6,aa,k6,f6,ah⟩:=ad.lay ⟨some ⟨bb,oo,none⟩,len,cap⟩;have d0:=ad.k1.c0;have d1:=ad.k1.c1;have ag:=hide aa;have bc:=hide k6;have HF:Hid (An3Is D w ⟨ua,ul,uc⟩ X (.returned (.tuple #[lfV ⟨ua,ul,uc⟩ ⟨some ⟨bb,oo,none⟩,len,cap⟩,.int .i64 (-1),.int .i64 7])) W6):=by
            show An3Is _ _ _ _ _ _;rw [HX.out];exact⟨ah,_,l,rfl,ab.out W6 ah,rfl⟩
           clear ad aa k6 f6 ah ak au aq ae ab HW HX;unfold lfV Sl.val at *;simp only at *;go_wp2_with (refine Zac _ rfl rfl 67 (.tmp 4) (.tmp 59) rfl (.pointer (some ⟨w.heap.size+1,0,none⟩)) (.agg #[.slice ua ul uc,.slice (some ⟨bb,oo,none⟩) len cap]) rfl rfl W6 ag.out ?_);refine bodyPost_ret (Za1 (u:=⟨ua,ul,uc⟩) (v:=⟨some ⟨bb,oo,none⟩,len,cap⟩) rfl bc.out _ rfl rfl rfl) rfl ?_;exact HF.out
         · have HX:=hide (av.out (by rw [bd.out];exact bm) ac);rw [bj.out] at HX;(have i7:¬(508:Int)<((need (insS (bss l) bs):Nat):Int):=by omega);obtain⟨nd,al⟩:∃nd,nd=need (insS (bss l) bs):=⟨_,rfl⟩;rw [← al] at ae i7;clear al ac ao av;go_wp2_with fail;refine ae.out.mono ?_;rintro e w5 ⟨rfl,ak⟩;have ad:=au.out.below ak;have bk:=hide (aq.out.below ak (Nat.le_refl _));have bg:=hide (HW.out w5 ⟨some ⟨b,o,none⟩,len,sc⟩);have d0:=ad.k1.c0;have d1:=ad.k1.c1;have bl:=hide ad;clear ad ak au aq ae ab HW;unfold Sl.val at d0 d1;simp only at d0 d1 bg;go_wp2_with fail;refine bg.out.mono ?_;rintro e w6 ⟨rfl,bi⟩;have bo:=bl.out.below bi;have bp:=bk.out.below bi (Nat.le_refl _);obtain⟨W7,an,k7,f7,bn⟩:=bo.lay ⟨some ⟨b,o,none⟩,len,sc⟩;have be:=hide an;have bv:=hide k7;have HF:Hid (An3Is D w ⟨ua,ul,uc⟩ X (.returned (.tuple #[lfV ⟨ua,ul,uc⟩ ⟨some ⟨b,o,none⟩,len,sc⟩,.int .i64 (n:Int),.int .i64 0])) W7):=by
            show An3Is _ _ _ _ _ _;rw [HX.out];exact⟨bn,_,_,rfl,bp.told f7,ap.out⟩
           clear bo bp an k7 f7 bn bi bl bk bg HX d0 d1;unfold lfV Sl.val at *;simp only at *;go_wp2_with (refine Zac _ rfl rfl 67 (.tmp 4) (.tmp 62) rfl (.pointer (some ⟨w.heap.size+1,0,none⟩)) (.agg #[.slice ua ul uc,.slice (some ⟨b,o,none⟩) len sc]) rfl rfl W7 be.out ?_);refine bodyPost_ret (Za1 (u:=⟨ua,ul,uc⟩) (v:=⟨some ⟨b,o,none⟩,len,sc⟩) rfl bv.out _ rfl rfl rfl) rfl ?_;exact HF.out
     · (have i4:(0:Int)<(xn:Int):=by omega);have bt:Hid (∀j,j<n+1→(sl (bss l) j).length≠0):=by
        intro j hj;by_cases e:j=n
        · rw [e];omega
        · exact aj.out j (by omega)
       clear br aw bx aj;go_wp2_with fail;go_roundw
       case rel=>exact ⟨trivial,n+1,by omega,by go_num,bt⟩
       case measure=>simp only [intOf];omega
   · (have ci:n=len:=by omega);subst ci;(have i3:¬(n:Int)<(n:Int):=by omega);have bj:Hid (atE (bss l)=n):=Zfm aj.out (.inl (by rw [Zag];omega));clear aj;go_wp2_with (at_builtin;refine ZaO _ rfl (.tmp 34) (.tmp 36) rfl ⟨a,n,cap⟩ l rfl rfl HT.out.g ?_);intro v1 w2 ho az ax ay;obtain⟨sa,sn,sc0⟩:=v1;replace az:n=sn:=az.symm;subst az;have HO:=hide ho;have bu:=hide ax;have bz:=hide ay;clear ho ax ay;unfold Sl.val at *;simp only at *;go_wp2_with (at_builtin;refine ZdH _ rfl (.tmp 42) (.tmp 43) rfl ⟨sa,n,sc0⟩ l rfl rfl HO.out (by show n≤1000;omega) _ bu.out.size bz.out ?_);intro v2 w3 ho bq cc ay;have ax:=bu.out.trans cc;obtain⟨b,o,ha⟩:=ho.pos (by rw [bq];exact Nat.succ_pos _);obtain⟨sa2,sn2,sc⟩:=v2;replace ha:sa2=some ⟨b,o,none⟩:=ha;replace bq:sn2=n+1:=bq;subst ha;obtain⟨W3,am,t3,g3⟩:=ai.out _ w3 b o sn2 sc n _ HT.out (.inr rfl) ax ho (ay b rfl) (by omega) (by omega);have ap:Hid (bss ((l ++ [Sb.zero]).set n ⟨⟨ra,rl,rc⟩,bs⟩)=insS (bss l) bs):=by
      show _=_;unfold insS;rw [bj.out,if_pos (by rw [Zag];omega),← cf.out,bw]
     (have j1:sn2≤1000:=by omega);(have j2:n<sn2:=by omega);clear ho ax ay cc HO bu bz bq;have bd:Hid ((insS (bss l) bs).length=sn2):=by
      show _=_;rw [← ap.out,Zag];exact g3.len
     have af:=hide am;have e0:=t3.k1.c0;have e1:=t3.k1.c1;have ar:=hide t3;have ba:=hide g3;have bf:=hide (HW.out W3 ⟨some ⟨b,o,none⟩,sn2,sc⟩);clear am t3 g3 d2 HT ai;unfold Sl.val at *;simp only at *;by_cases bm:64<sn2
     · (have i6:(64:Int)<(sn2:Int):=by omega);have HX:=hide (ao.out (.inl (by rw [bd.out];exact bm)));obtain⟨W6,aa,k6,f6,ah⟩:=ar.out.lay ⟨a,n,cap⟩;have ag:=hide aa;have bc:=hide k6;have HF:Hid (An3Is D w ⟨ua,ul,uc⟩ X (.returned (.tuple #[lfV ⟨ua,ul,uc⟩ ⟨a,n,cap⟩,.int .i64 (-1),.int .i64 7])) W6):=by
        show An3Is _ _ _ _ _ _;rw [HX.out];exact⟨ah,_,l,rfl,ab.out W6 ah,rfl⟩
       clear aa k6 f6 ah ar ba bf HW HN HX ao av ab bd ap;unfold lfV Sl.val at *;simp only at *;go_wp2_with (first | refine Zac _ rfl rfl 56 (.tmp 48) (.tmp 47) rfl (.pointer (some ⟨b,o+n,none⟩)) (.slice ra rl rc) rfl rfl W3 af.out ?_ | refine Zac _ rfl rfl 67 (.tmp 4) (.tmp 59) rfl (.pointer (some ⟨w.heap.size+1,0,none⟩)) (.agg #[.slice ua ul uc,.slice (a) n cap]) rfl rfl W6 ag.out ?_);refine bodyPost_ret (Za1 (u:=⟨ua,ul,uc⟩) (v:=⟨a,n,cap⟩) rfl bc.out _ rfl rfl rfl) rfl ?_;exact HF.out
     · (have i6:¬(64:Int)<(sn2:Int):=by omega);go_wp2_with (refine Zac _ rfl rfl 56 (.tmp 48) (.tmp 47) rfl (.pointer (some ⟨b,o+n,none⟩)) (.slice ra rl rc) rfl rfl W3 af.out ?_);refine bf.out.mono ?_;rintro e w4 ⟨rfl,bh⟩;have au:=hide (ar.out.below bh);have aq:=hide (ba.out.below bh (Nat.le_refl _));have ae:=hide (HN.out w4 _ _ aq.out);rw [ap.out] at ae;clear bf ar ba bh af e0 e1 HN;simp only at *;by_cases ac:508<need (insS (bss l) bs)
       · have HX:=hide (ao.out (.inr ac));(have i7:(508:Int)<((need (insS (bss l) bs):Nat):Int):=by omega);obtain⟨nd,al⟩:∃nd,nd=need (insS (bss l) bs):=⟨_,rfl⟩;rw [← al] at ae i7;clear al ac ao av;go_wp2_with fail;refine ae.out.mono ?_;rintro e w5 ⟨rfl,ak⟩;have ad:=au.out.below ak;obtain⟨W6,aa,k6,f6,ah⟩:=ad.lay ⟨a,n,cap⟩;have d0:=ad.k1.c0;have d1:=ad.k1.c1;have ag:=hide aa;have bc:=hide k6;have HF:Hid (An3Is D w ⟨ua,ul,uc⟩ X (.returned (.tuple #[lfV ⟨ua,ul,uc⟩ ⟨a,n,cap⟩,.int .i64 (-1),.int .i64 7])) W6):=by
          show An3Is _ _ _ _ _ _;rw [HX.out];exact⟨ah,_,l,rfl,ab.out W6 ah,rfl⟩
         clear ad aa k6 f6 ah ak au aq ae ab HW HX;unfold lfV Sl.val at *;simp only at *;go_wp2_with (refine Zac _ rfl rfl 67 (.tmp 4) (.tmp 59) rfl (.pointer (some ⟨w.heap.size+1,0,none⟩)) (.agg #[.slice ua ul uc,.slice (a) n cap]) rfl rfl W6 ag.out ?_);refine bodyPost_ret (Za1 (u:=⟨ua,ul,uc⟩) (v:=⟨a,n,cap⟩) rfl bc.out _ rfl rfl rfl) rfl ?_;exact HF.out
       · have HX:=hide (av.out (by rw [bd.out];exact bm) ac);rw [bj.out] at HX;(have i7:¬(508:Int)<((need (insS (bss l) bs):Nat):Int):=by omega);obtain⟨nd,al⟩:∃nd,nd=need (insS (bss l) bs):=⟨_,rfl⟩;rw [← al] at ae i7;clear al ac ao av;go_wp2_with fail;refine ae.out.mono ?_;rintro e w5 ⟨rfl,ak⟩;have ad:=au.out.below ak;have bk:=hide (aq.out.below ak (Nat.le_refl _));have bg:=hide (HW.out w5 ⟨some ⟨b,o,none⟩,sn2,sc⟩);have d0:=ad.k1.c0;have d1:=ad.k1.c1;have bl:=hide ad;clear ad ak au aq ae ab HW;unfold Sl.val at d0 d1;simp only at d0 d1 bg;go_wp2_with fail;refine bg.out.mono ?_;rintro e w6 ⟨rfl,bi⟩;have bo:=bl.out.below bi;have bp:=bk.out.below bi (Nat.le_refl _);obtain⟨W7,an,k7,f7,bn⟩:=bo.lay ⟨some ⟨b,o,none⟩,sn2,sc⟩;have be:=hide an;have bv:=hide k7;have HF:Hid (An3Is D w ⟨ua,ul,uc⟩ X (.returned (.tuple #[lfV ⟨ua,ul,uc⟩ ⟨some ⟨b,o,none⟩,sn2,sc⟩,.int .i64 (n:Int),.int .i64 0])) W7):=by
          show An3Is _ _ _ _ _ _;rw [HX.out];exact⟨bn,_,_,rfl,bp.told f7,ap.out⟩
         clear bo bp an k7 f7 bn bi bl bk bg HX d0 d1;unfold lfV Sl.val at *;simp only at *;go_wp2_with (refine Zac _ rfl rfl 67 (.tmp 4) (.tmp 62) rfl (.pointer (some ⟨w.heap.size+1,0,none⟩)) (.agg #[.slice ua ul uc,.slice (some ⟨b,o,none⟩) sn2 sc]) rfl rfl W7 be.out ?_);refine bodyPost_ret (Za1 (u:=⟨ua,ul,uc⟩) (v:=⟨some ⟨b,o,none⟩,sn2,sc⟩) rfl bv.out _ rfl rfl rfl) rfl ?_;exact HF.out
theorem Zez {D:Nat→Prop}(w:World)(u v:Sl)(l:List Sb)(hg:Gb D w v l)(hv:v.len≤900)(x:Sb)(hx:Cm D w x.s x.bs) :
    Calls Tryz.prog 58 #[lfV u v,x.s.val] w fun e w'=>An3Is D w u (insA (bss l) x.bs) e w':=by
  have hl:=hx.len;by_cases h1:x.bs.length<1∨255<x.bs.length
  · have e:insA (bss l) x.bs=⟨bss l,-1,1⟩:=if_pos h1;rw [e];exact ZmL w u v l hg x.s (by omega)
  · refine Zl6 w u v l hg hv x hx (by omega) (by omega) _ (fun h=>?_) (fun h3 h4=>?_)
    · unfold insA;rw [if_neg h1,if_pos h]
    · unfold insA;rw [if_neg h1,if_neg (fun h=>h.elim h3 h4)]
theorem Zet (h:decB xs=some r):r.may=true:=by
 unfold decB at h;split at h
 · cases h
 · split at h
   · cases h
   · split at h
     · cases h
     · rename_i hn;simp only [Option.some.injEq] at h;subst h;cases hm:(rowOf _ _).may
       · exact absurd (.inr (.inr hm)) hn
       · rfl
theorem Zk4 (hx:Bytes xs)(hl:xs.length≤1000000)(h:decB xs=some r):r.fits:=by
 unfold decB at h;split at h
 · cases h
 · rename_i l q h1;split at h
   · cases h
   · rename_i m q2 h2;split at h
     · cases h
     · simp only [Option.some.injEq] at h;subst h;have hb:Bytes (xs.drop q):=fun x hh=>hx x (List.mem_of_mem_drop hh);refine ZfN ?_ ?_ ?_
       · exact Ze2 hx hl _ _ _ _ Zdu (Nat.zero_le _) (fun i hi=>by cases hi) h1
       · have:=ZcB _ _ _ _ _ h1;simpa [headK] using this
       · exact Ze2 hb (by rw [List.length_drop];omega) _ _ _ _ (fun k hk=>by rw [(List.mem_replicate.1 hk).2];decide) (Nat.zero_le _) (fun i hi=>by cases hi) h2
def hpB (r:Rw):List Nat:=r.bytes ++ List.replicate (52-r.bytes.length) 0
theorem ZbC (h:r.may=true):(hpB r).length=52:=by
 have h1:=ZbF r;have h2:=(Rw.may_parts h).2.1;unfold hpB;rw [List.length_append,List.length_replicate];omega
theorem ZaK (h:r.may=true):Bytes (hpB r):=by
 intro x hx;rcases List.mem_append.1 hx with hx | hx
 · exact Zb3 h x hx
 · rw [(List.mem_replicate.1 hx).2];decide
theorem Zmv (r:Rw):(hpB r).take (20+8*r.xs.length)=r.bytes:=by
 unfold hpB;rw [← ZbF r,List.take_left]
theorem Zme (h:r.may=true):r.bytes.getD 19 0=r.xs.length:=by
 have h4:=(Rw.may_parts h).2.1;have e:r.bytes=(putB [⟨1,if r.dead then 1 else 0,0,noS⟩,⟨4,0,r.key,noS⟩,⟨3,r.wr,0,noS⟩,⟨2,r.cell,0,noS⟩,⟨3,r.no,0,noS⟩]) ++ (putB [⟨1,r.xs.length,0,noS⟩] ++ putB (r.xs.map numI)):=by
  unfold Rw.bytes Rw.items Rw.head;rw [← Zcg,← Zcg];rfl
 have hl:(putB [⟨1,if r.dead then 1 else 0,0,noS⟩,⟨4,0,r.key,noS⟩,⟨3,r.wr,0,noS⟩,⟨2,r.cell,0,noS⟩,⟨3,r.no,0,noS⟩]).length=19:=by
  simp [putB,It.bytes,Zan]
 have hx:putB [⟨1,r.xs.length,0,noS⟩]=[r.xs.length]:=by
  (have:r.xs.length=0∨r.xs.length=1∨r.xs.length=2∨r.xs.length=3∨r.xs.length=4:=by omega);rcases this with e | e | e | e | e <;> rw [e] <;> rfl
 rw [e,hx];simp [List.getD,hl]
theorem ZkO (h:r.may=true):(hpB r).getD 19 0=r.xs.length:=by
 have hl:=ZbF r;rw [← Zme h];unfold hpB;simp only [List.getD];rw [List.getElem?_append_left (by omega)]
def decH (xs:List Nat):Option Rw:=
  if xs.length=52∧xs.getD 19 0≤4 then
    match decB (xs.take (20+8*xs.getD 19 0)) with
    | some r=>if hpB r=xs then some r else none
    | none=>none
  else none
theorem ZbI (h:decH xs=some r):xs.length=52∧xs.getD 19 0≤4∧decB (xs.take (20+8*xs.getD 19 0))=some r∧hpB r=xs:=by
 unfold decH at h;split at h
 · rename_i hc;split at h
   · rename_i q hq;split at h
     · rename_i he;simp only [Option.some.injEq] at h;subst h;exact⟨hc.1,hc.2,hq,he⟩
     · cases h
   · cases h
 · cases h
theorem Zmg (h:decH xs=some r):r.may=true:=Zet (ZbI h).2.2.1
theorem Zk5 (hx:Bytes xs)(h:decH xs=some r):r.fits:=by
 obtain⟨h1,_,h3,_⟩:=ZbI h;exact Zk4 (fun x hh=>hx x (List.mem_of_mem_take hh)) (by rw [List.length_take];omega) h3
theorem Zgn (hm:r.may=true)(hf:r.fits):decH (hpB r)=some r:=by
 have h4:=(Rw.may_parts hm).2.1;unfold decH;rw [if_pos ⟨ZbC hm,by rw [ZkO hm];exact h4⟩,ZkO hm,Zmv,ZgM hm hf];exact if_pos rfl
theorem Zdq:decH []=none:=by unfold decH;rw [if_neg (by decide)]
theorem Zbv (h:decH xs=some r):xs ≠ []:=by
 intro e;rw [e,Zdq] at h;cases h
structure Hr where
  r:Rw
  i:Nat
  k:Nat
def rowsS (i:Nat):List (List Nat)→Nat→List Hr
  | [],_=>[]
  | x :: s,k=>(match decH x with | some r=>[⟨r,i,k⟩] | none=>[]) ++ rowsS i s (k+1)
def rowsH:List Lf→Nat→List Hr
  | [],_=>[]
  | f :: l,i=>rowsS i f.slots 0 ++ rowsH l (i+1)
def allH (l:List Lf):List Hr:=rowsH l 0
theorem Zen (i:Nat):∀(s t:List (List Nat))(k:Nat),rowsS i (s ++ t) k=rowsS i s k ++ rowsS i t (k+s.length)
 | [],t,k=>by simp [rowsS]
 | x :: s,t,k=>by
  have:=Zen i s t (k+1)
  simp only [List.cons_append,rowsS,this,List.append_assoc,List.length_cons]
  rw [show k+1+s.length=k+(s.length+1) by omega]
theorem Zem:∀(l m:List Lf)(i:Nat),rowsH (l ++ m) i=rowsH l i ++ rowsH m (i+l.length)
 | [],m,i=>by simp [rowsH]
 | f :: l,m,i=>by
  have:=Zem l m (i+1)
  simp only [List.cons_append,rowsH,this,List.append_assoc,List.length_cons]
  rw [show i+1+l.length=i+(l.length+1) by omega]
theorem ZfQ (h:k<s.length):rowsS i (s.take (k+1)) 0=rowsS i (s.take k) 0 ++ (match decH (sl s k) with | some r=>[⟨r,i,k⟩] | none=>[]):=by
 (have e:s.take (k+1)=s.take k ++ [sl s k]:=by rw [List.take_succ_eq_append_getElem h,Zcq h]);rw [e,Zen,List.length_take,Nat.min_eq_left (Nat.le_of_lt h),Nat.zero_add];simp [rowsS]
def lf (l:List Lf) (i:Nat):Lf:=l.getD i Lf.zero
theorem Zc1 (h:i<l.length):lf l i=l[i]:=by simp [lf,List.getD,h]
theorem Zbe (h:i<l.length):lf l i∈l:=by rw [Zc1 h];exact List.getElem_mem h
theorem ZfO (h:i<l.length):rowsH (l.take (i+1)) 0=rowsH (l.take i) 0 ++ rowsS i (lf l i).slots 0:=by
 (have e:l.take (i+1)=l.take i ++ [lf l i]:=by rw [List.take_succ_eq_append_getElem h,Zc1 h]);rw [e,Zem,List.length_take,Nat.min_eq_left (Nat.le_of_lt h),Nat.zero_add];simp [rowsH]
theorem Zd3 {h:Hr}:∀{s:List (List Nat)}{k:Nat},h∈rowsS i s k↔h.i=i∧k≤h.k∧h.k<k+s.length∧decH (sl s (h.k-k))=some h.r
 | [],k=>by
  constructor
  · intro hh;cases hh
  · rintro ⟨_,h1,h2,_⟩
    simp only [List.length_nil,Nat.add_zero] at h2
    omega
 | x :: s,k=>by
  have hx:(h∈(match decH x with | some r=>[(⟨r,i,k⟩:Hr)] | none=>[]))↔h.i=i∧h.k=k∧decH x=some h.r:=by
   cases hd:decH x with
   | none=>simp
   | some r =>
    simp only [List.mem_singleton,Option.some.injEq];constructor
    · rintro rfl;exact ⟨rfl,rfl,rfl⟩
    · obtain⟨r',i',k'⟩:=h;rintro ⟨rfl,rfl,rfl⟩;rfl
  rw [rowsS,List.mem_append,hx,Zd3 (s:=s) (k:=k+1)];constructor
  · rintro (⟨h1,h2,h3⟩ | ⟨h1,h2,h3,h4⟩)
    · refine⟨h1,by omega,by rw [List.length_cons];omega,?_⟩;rw [h2,Nat.sub_self];exact h3
    · refine⟨h1,by omega,by rw [List.length_cons];omega,?_⟩;rw [show h.k-k=(h.k-(k+1))+1 by omega];exact h4
  · rintro ⟨h1,h2,h3,h4⟩;rw [List.length_cons] at h3;rcases Nat.lt_or_ge k h.k with hk | hk
    · refine .inr ⟨h1,hk,by omega,?_⟩;rw [show h.k-k=(h.k-(k+1))+1 by omega] at h4;exact h4
    · (have e:h.k=k:=by omega);refine .inl ⟨h1,e,?_⟩;rw [e,Nat.sub_self] at h4;exact h4
theorem ZeQ {h:Hr}:∀{l:List Lf}{i:Nat},h∈rowsH l i↔i≤h.i∧h.i<i+l.length∧h.k<(lf l (h.i-i)).slots.length∧decH (sl (lf l (h.i-i)).slots h.k)=some h.r
 | [],i=>by
  constructor
  · intro hh;cases hh
  · rintro ⟨h1,h2,_⟩
    simp only [List.length_nil,Nat.add_zero] at h2
    omega
 | f :: l,i=>by
  rw [rowsH,List.mem_append,Zd3,ZeQ (l:=l) (i:=i+1)]
  simp only [Nat.zero_le,true_and,Nat.zero_add,Nat.sub_zero]
  constructor
  · rintro (⟨h1,h2,h3⟩ | ⟨h1,h2,h3,h4⟩)
    · rw [h1,Nat.sub_self]
      exact⟨Nat.le_refl _,by rw [List.length_cons];omega,h2,h3⟩
    · refine⟨by omega,by rw [List.length_cons];omega,?_⟩
      rw [show h.i-i=(h.i-(i+1))+1 by omega]
      exact⟨h3,h4⟩
  · rintro ⟨h1,h2,h3,h4⟩
    rw [List.length_cons] at h2
    rcases Nat.lt_or_ge i h.i with hk | hk
    · rw [show h.i-i=(h.i-(i+1))+1 by omega] at h3 h4
      exact .inr ⟨hk,by omega,h3,h4⟩
    · have e:h.i=i:=by omega
      rw [e,Nat.sub_self] at h3 h4
      exact .inl ⟨e,h3,h4⟩
theorem Zex {h:Hr}:h∈allH l↔h.i<l.length∧h.k<(lf l h.i).slots.length∧decH (sl (lf l h.i).slots h.k)=some h.r:=by
 unfold allH;rw [ZeQ];simp
def fillS:List (List Nat)→Nat
  | []=>0
  | x :: s=>(if 0<x.length then 1 else 0)+fillS s
def fillH:List Lf→Nat
  | []=>0
  | f :: l=>fillS f.slots+fillH l
theorem Zeg:∀s t:List (List Nat),fillS (s ++ t)=fillS s+fillS t
 | [],t=>by simp [fillS]
 | x :: s,t=>by simp only [List.cons_append,fillS,Zeg s t];omega
theorem Zef:∀s t:List Lf,fillH (s ++ t)=fillH s+fillH t
 | [],t=>by simp [fillH]
 | x :: s,t=>by simp only [List.cons_append,fillH,Zef s t];omega
theorem Zj1 (h:k<s.length):fillS (s.take (k+1))=fillS (s.take k)+(if 0<(sl s k).length then 1 else 0):=by
 rw [List.take_succ_eq_append_getElem h,← Zcq h,Zeg];simp [fillS]
theorem Zj0 (h:i<l.length):fillH (l.take (i+1))=fillH (l.take i)+fillS (lf l i).slots:=by
 rw [List.take_succ_eq_append_getElem h,← Zc1 h,Zef];simp [fillH]
theorem ZfP (i:Nat):∀(s:List (List Nat))(k:Nat),(rowsS i s k).length≤fillS s∧((rowsS i s k).length=fillS s↔∀x∈s,x ≠ []→decH x≠none)
 | [],k=>by simp [rowsS,fillS]
 | x :: s,k=>by
  have ih:=ZfP i s (k+1)
  simp only [rowsS,fillS,List.length_append]
  cases hd:decH x with
  | none =>
   by_cases hx:x=[]
   · subst hx
     refine⟨by simpa using ih.1,?_⟩
     simp only [List.length_nil,Nat.zero_add,Nat.lt_irrefl,if_false,List.mem_cons,forall_eq_or_imp,ne_eq,not_true_eq_false,false_imp_iff,true_and]
     exact ih.2
   · have hp:0<x.length:=List.length_pos_iff.2 hx
     simp only [if_pos hp,List.length_nil,List.mem_cons,forall_eq_or_imp,ne_eq,hd,not_true_eq_false]
     refine⟨by omega,?_⟩
     constructor
     · intro e;omega
     · rintro ⟨h1,_⟩
       exact absurd (h1 hx) (by simp)
  | some r =>
   have hp:0<x.length:=List.length_pos_iff.2 (Zbv hd)
   simp only [if_pos hp,List.length_cons,List.length_nil,List.mem_cons,forall_eq_or_imp,ne_eq,hd,reduceCtorEq,not_false_eq_true,implies_true,true_and]
   refine⟨by omega,?_⟩
   rw [← ih.2]
   constructor <;> intro e <;> omega
theorem ZdZ:∀(l:List Lf)(i:Nat),(rowsH l i).length≤fillH l∧((rowsH l i).length=fillH l↔∀f∈l,∀x∈f.slots,x ≠ []→decH x≠none)
 | [],i=>by simp [rowsH,fillH]
 | f :: l,i=>by
  have ih:=ZdZ l (i+1)
  have is:=ZfP i f.slots 0
  simp only [rowsH,fillH,List.length_append,List.mem_cons,forall_eq_or_imp]
  refine⟨by omega,?_⟩
  rw [← ih.2,← is.2]
  constructor
  · intro e;constructor <;> omega
  · rintro ⟨h1,h2⟩;omega
def ZbN (l:List Hr):Prop:=l.Pairwise fun a b=>a.r.key≠b.r.key
structure MayH (l:List Lf):Prop where
  leaf:∀f∈l,MayL f
  rows:∀f∈l,∀x∈f.slots,x ≠ []→decH x≠none
  keys:ZbN (allH l)
  pos:1≤l.length
  few:l.length≤62
theorem ZfD :(fillH l=(allH l).length)↔∀f∈l,∀x∈f.slots,x ≠ []→decH x≠none:=by
 rw [← (ZdZ l 0).2];exact eq_comm
theorem Zes {h:Hr}(hh:h∈allH l):Fl.key h.r.key=h.r.key∧h.r.may=true:=by
 have hm:=Zmg (Zex.1 hh).2.2;exact⟨(Rw.may_parts hm).1.symm,hm⟩
def cellH (l:List Lf) (a b:Nat):List Nat:=sl (lf l a).slots b
theorem ZbV {a b:Nat}(h:cellH l a b ≠ []):a<l.length∧b<(lf l a).slots.length:=by
 have hb:=ZlM h;refine⟨?_,hb⟩;rcases Nat.lt_or_ge a l.length with h1 | h1
 · exact h1
 · (have e:lf l a=Lf.zero:=by simp [lf,List.getD,List.getElem?_eq_none h1]);rw [e] at hb;exact absurd hb (Nat.not_lt_zero _)
theorem Zcd {h:Hr}:h∈allH l↔decH (cellH l h.i h.k)=some h.r:=by
 rw [Zex];constructor
 · exact fun hh=>hh.2.2
 · intro hh;have:=ZbV (Zbv hh);exact⟨this.1,this.2,hh⟩
def Zne (a b:Hr):Prop:=a.i<b.i∨a.i=b.i∧a.k<b.k
theorem ZeX (i:Nat):∀(s:List (List Nat))(k:Nat),(rowsS i s k).Pairwise Zne
 | [],_=>List.Pairwise.nil
 | x :: s,k=>by
  unfold rowsS
  refine List.pairwise_append.2 ⟨?_,ZeX i s (k+1),fun a ha b hb=>?_⟩
  · cases decH x with
    | none=>exact List.Pairwise.nil
    | some r=>exact List.pairwise_singleton _ _
  · have hb':=Zd3.1 hb
    cases hd:decH x with
    | none=>rw [hd] at ha;cases ha
    | some r =>
     rw [hd] at ha
     simp only [List.mem_singleton] at ha
     subst ha
     exact .inr ⟨hb'.1.symm,by show k<b.k;omega⟩
theorem ZeW:∀(l:List Lf)(i:Nat),(rowsH l i).Pairwise Zne
 | [],_=>List.Pairwise.nil
 | f :: l,i=>by
  unfold rowsH
  refine List.pairwise_append.2 ⟨ZeX i _ _,ZeW l (i+1),fun a ha b hb=>?_⟩
  have ha':=Zd3.1 ha
  have hb':=ZeQ.1 hb
  exact .inl (by omega)
theorem ZjO :ZbN (allH l)↔∀g∈allH l,∀h∈allH l,g.r.key=h.r.key→g.i=h.i∧g.k=h.k:=by
 have ho:=ZeW l 0;unfold ZbN;constructor
 · intro hk g hg h hh e;obtain⟨x,hx,rfl⟩:=List.getElem_of_mem hg;obtain⟨y,hy,rfl⟩:=List.getElem_of_mem hh;rw [List.pairwise_iff_getElem] at hk;rcases Nat.lt_trichotomy x y with h1 | h1 | h1
   · exact absurd e (hk x y hx hy h1)
   · subst h1;exact ⟨rfl,rfl⟩
   · exact absurd e.symm (hk y x hy hx h1)
 · intro hk;unfold allH at hk ⊢;refine List.Pairwise.imp_of_mem ?_ ho;intro a b ha hb aa e;have:=hk a ha b hb e;rcases aa with h1 | ⟨_,h1⟩ <;> omega
def KeyC (l:List Lf):Prop:=∀a b a' b' r r',decH (cellH l a b)=some r→decH (cellH l a' b')=some r'→r.key=r'.key→a=a'∧b=b'
theorem ZeS :ZbN (allH l)↔KeyC l:=by
 rw [ZjO];constructor
 · intro h a b a' b' r r' h1 h2 e;exact h ⟨r,a,b⟩ (Zcd.2 h1) ⟨r',a',b'⟩ (Zcd.2 h2) e
 · intro h g hg k hk e;exact h _ _ _ _ _ _ (Zcd.1 hg) (Zcd.1 hk) e
def RowC (l:List Lf):Prop:=∀a b,cellH l a b ≠ []→decH (cellH l a b)≠none
theorem Zh2 :(∀f∈l,∀x∈f.slots,x ≠ []→decH x≠none)↔RowC l:=by
 constructor
 · intro h a b hn;obtain⟨h1,h2⟩:=ZbV hn;refine h _ (Zbe h1) _ ?_ hn;show sl (lf l a).slots b∈_;rw [Zcq h2];exact List.getElem_mem h2
 · intro h f hf x hx hn;obtain⟨a,ha,rfl⟩:=List.getElem_of_mem hf;obtain⟨b,hb,rfl⟩:=List.getElem_of_mem hx;have e:cellH l a b=l[a].slots[b]:=by
    unfold cellH;rw [Zc1 ha,Zcq hb]
   rw [← e] at hn ⊢;exact h a b hn
theorem Zd1 :MayH l↔(∀f∈l,MayL f)∧RowC l∧KeyC l∧1≤l.length∧l.length≤62:=
 ⟨fun h=>⟨h.leaf,Zh2.1 h.rows,ZeS.1 h.keys,h.pos,h.few⟩,fun h=>⟨h.1,Zh2.2 h.2.1,ZeS.2 h.2.2.1,h.2.2.2.1,h.2.2.2.2⟩⟩
def findH (l:List Lf) (k:Nat):Option Hr:=(allH l).find? fun h=>Fl.key h.r.key == Fl.key k
theorem Zf0 :findH l k=none↔∀a b r,decH (cellH l a b)=some r→r.key≠Fl.key k:=by
 unfold findH;rw [List.find?_eq_none];constructor
 · intro h a b r hd e;have hm:(⟨r,a,b⟩:Hr)∈allH l:=Zcd.2 hd;have:=h _ hm;simp only [beq_iff_eq] at this;refine this ?_;rw [(Zes hm).1];exact e
 · intro h x hx;simp only [beq_iff_eq];rw [(Zes hx).1];exact h _ _ _ (Zcd.1 hx)
def getH (l:List Lf) (b:Int × Int):Option Rw:=((allH l).find? fun h=>((h.i:Int) == b.1) && ((h.k:Int) == b.2)).map Hr.r
theorem ZeE {b:Int × Int}(h:getH l b=some r):∃i k:Nat,b=((i:Int),(k:Int))∧decH (cellH l i k)=some r:=by
 unfold getH at h;obtain⟨x,hx,rfl⟩:=Option.map_eq_some_iff.1 h;have h1:=List.mem_of_find?_eq_some hx;have h2:=List.find?_some hx;simp only [Bool.and_eq_true,beq_iff_eq] at h2;exact⟨x.i,x.k,by rw [h2.1,h2.2],Zcd.1 h1⟩
structure ZhC (l l':List Lf) (i k:Nat) (y:List Nat):Prop where
  len:l'.length=l.length
  here:cellH l' i k=y
  other:∀a b,¬(a=i∧b=k)→cellH l' a b=cellH l a b
theorem ZeK (h:i<l.length)(f:Lf):lf (l.set i f) i=f:=by simp [lf,List.getD,h]
theorem Zhi {j:Nat}(h:i≠j)(f:Lf):lf (l.set i f) j=lf l j:=by simp [lf,List.getD,List.getElem?_set_ne h]
theorem ZhC.of (hi:i<l.length){f:Lf}(h:∀b,b≠k→sl f.slots b=sl (lf l i).slots b):ZhC l (l.set i f) i k (sl f.slots k):=by
 refine⟨by simp,by unfold cellH;rw [ZeK hi],fun a b aa=>?_⟩;unfold cellH;by_cases ha:i=a
 · subst ha;rw [ZeK hi];exact h b (fun e=>aa ⟨rfl,e⟩)
 · rw [Zhi ha]
theorem ZlN (hk:k<s.length)(y:List Nat)(b:Nat):sl (s.set k y) b=if b=k then y else sl s b:=by
 by_cases e:b=k
 · subst e;rw [if_pos rfl,Zdh hk]
 · rw [if_neg e,ZcA (fun h=>e h.symm)]
theorem Znr (s:List (List Nat))(y:List Nat)(b:Nat):sl (insS s y) b=if b=atE s then y else sl s b:=by
 unfold insS;rcases Zcs s with ⟨h1,_⟩ | ⟨h1,_,_⟩
 · rw [if_pos h1,h1];by_cases e:b=s.length
   · rw [if_pos e,e,Zdi]
   · rw [if_neg e];rcases Nat.lt_or_ge b s.length with h | h
     · exact ZeZ h y
     · rw [ZlL (by rw [List.length_append];simp only [List.length_cons,List.length_nil];omega),ZlL h]
 · rw [if_neg (by omega),ZlN h1]
theorem MayH.turn {l':List Lf}(h:MayH l)(t:ZhC l l' i k y)(hl:∀f∈l',MayL f)(hy:y=[]∨∃r,decH y=some r∧∀a b r',¬(a=i∧b=k)→decH (cellH l a b)=some r'→r'.key≠r.key):MayH l':=by
 obtain⟨_,h2,h3,h4,h5⟩:=Zd1.1 h;refine Zd1.2 ⟨hl,fun a b hn=>?_,fun a b a' b' r r' hr hr' e=>?_,by rw [t.len];exact h4,by rw [t.len];exact h5⟩
 · by_cases ab:a=i∧b=k
   · rw [ab.1,ab.2,t.here] at hn ⊢;rcases hy with rfl | ⟨r,hr,_⟩
     · exact absurd rfl hn
     · rw [hr];simp
   · rw [t.other a b ab] at hn ⊢;exact h2 a b hn
 · by_cases ab:a=i∧b=k
   · by_cases aa:a'=i∧b'=k
     · omega
     · rw [ab.1,ab.2,t.here] at hr;rw [t.other _ _ aa] at hr';rcases hy with rfl | ⟨q,hq,ho⟩
       · rw [Zdq] at hr;cases hr
       · rw [hq] at hr;cases hr;exact absurd e.symm (ho _ _ _ aa hr')
   · rw [t.other _ _ ab] at hr;by_cases aa:a'=i∧b'=k
     · rw [aa.1,aa.2,t.here] at hr';rcases hy with rfl | ⟨q,hq,ho⟩
       · rw [Zdq] at hr';cases hr'
       · rw [hq] at hr';cases hr';exact absurd e (ho _ _ _ ab hr)
     · rw [t.other _ _ aa] at hr';exact h3 _ _ _ _ _ _ hr hr' e
def roomH (y:List Nat):List Lf→Nat→Option Nat
  | [],_=>none
  | f :: l,i=>if (insA f.slots y).e=0 then some i else roomH y l (i+1)
theorem Zb1 :∀{l:List Lf}{i j:Nat},roomH y l i=some j→i≤j∧j<i+l.length∧(insA (lf l (j-i)).slots y).e=0∧∀m,m<j-i→(insA (lf l m).slots y).e≠0
 | [],_,_,h=>by cases h
 | f :: l,i,j,h=>by
  unfold roomH at h
  split at h
  · rename_i he
    cases h
    rw [Nat.sub_self]
    exact⟨Nat.le_refl _,by rw [List.length_cons];omega,he,fun m hm=>absurd hm (Nat.not_lt_zero _)⟩
  · rename_i he
    obtain⟨h1,h2,h3,h4⟩:=Zb1 h
    rw [show j-i=(j-(i+1))+1 by omega]
    refine⟨by omega,by rw [List.length_cons];omega,h3,fun m hm=>?_⟩
    match m with
    | 0=>exact he
    | m+1=>exact h4 m (by omega)
theorem ZbO :∀{l:List Lf}{i:Nat},roomH y l i=none↔∀m,m<l.length→(insA (lf l m).slots y).e≠0
 | [],_=>by simp [roomH]
 | f :: l,i=>by
  unfold roomH
  split
  · rename_i he
    constructor
    · intro h;cases h
    · intro h
      exact absurd he (h 0 (by simp))
  · rename_i he
    rw [ZbO]
    constructor
    · intro h m hm
      match m with
      | 0=>exact he
      | m+1=>exact h m (by simpa using hm)
    · intro h m hm
      exact h (m+1) (by simpa using hm)
theorem Zjb {j:Nat}(hj:j<l.length)(h0:(insA (lf l j).slots y).e=0)(hn:∀m,m<j→(insA (lf l m).slots y).e≠0):roomH y l 0=some j:=by
 cases h:roomH y l 0 with
 | none=>exact absurd h0 (ZbO.1 h j hj)
 | some q =>
  obtain⟨_,h2,h3,h4⟩:=Zb1 h;simp only [Nat.sub_zero] at h3 h4;rcases Nat.lt_trichotomy q j with e | e | e
  · exact absurd h3 (hn q e)
  · rw [e]
  · exact absurd h0 (h4 j e)
structure Ph where
  l:List Lf
  b:Int × Int
  e:Int
def putL (f:Lf) (r:Rw) (live:List Int):Lf:=⟨(joinI f.itl r.wr live).t,(insA f.slots (hpB r)).s⟩
def putH (l:List Lf) (r:Rw) (live:List Int):Ph:=
  if r.may=false∨r.wr=0∨(findH l r.key).isSome=true then ⟨l,(0,0),1⟩
  else match roomH (hpB r) l 0 with
    | none=>⟨l,(0,0),7⟩
    | some i=>if (joinI (lf l i).itl r.wr live).e=0 then ⟨l.set i (putL (lf l i) r live),((i:Int),(insA (lf l i).slots (hpB r)).at_),0⟩ else ⟨l,(0,0),(joinI (lf l i).itl r.wr live).e⟩
structure Ah where
  l:List Lf
  e:Int
def layL (f:Lf) (k:Int) (r:Rw) (joins:Bool) (live:List Int):Lf:=⟨if joins=true then (joinI f.itl r.wr live).t else f.itl,(setA f.slots k (hpB r)).s⟩
def layH (l:List Lf) (b:Int × Int) (r:Rw) (joins:Bool) (live:List Int):Ah:=
  match getH l b with
  | none=>⟨l,3⟩
  | some was=>if r.may=false∨(joins=true∧r.wr=0)∨was.key≠r.key then ⟨l,1⟩
    else if joins=true∧(joinI (lf l b.1.toNat).itl r.wr live).e≠0 then ⟨l,(joinI (lf l b.1.toNat).itl r.wr live).e⟩
    else ⟨l.set b.1.toNat (layL (lf l b.1.toNat) b.2 r joins live),0⟩
def dropH (l:List Lf) (b:Int × Int):Ah:=
  match getH l b with
  | none=>⟨l,3⟩
  | some _=>⟨l.set b.1.toNat ⟨(lf l b.1.toNat).itl,(dropA (lf l b.1.toNat).slots b.2).s⟩,0⟩
end Go.Proofs.YtdojdcncncgncaaGreat
