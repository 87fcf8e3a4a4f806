/-
  Lemmas.
-/
import Derived.Test.YtpnlebpnhmibfaaGreatMc
namespace Go.Proofs.YtpnlebpnhmibfaaGreat
open Go.RowKit
set_option linter.unusedVariables false
set_option maxRecDepth 100000
set_option maxHeartbeats 4000000
theorem Zmi (n k:Nat)(hk:k<n):(Ds.new n).page k=List.replicate 512 0:=by
 show ((List.replicate (512*n) 0).drop (512*k)).take 512=_;rw [List.drop_replicate,List.take_replicate,show min 512 (512*n-512*k)=512 by omega]
theorem Zi8 {n f:Nat}(aa:1≤n)(ab:n≤64)(h1:1≤f)(h2:f≤64):(Po.opened (Ds.new n) n f).Fine n (512+4*n)∧(Po.opened (Ds.new n) n f).D.ss=[]∧(Po.opened (Ds.new n) n f).D.sb=0∧∀k,k<n→(Po.opened (Ds.new n) n f).con k=List.replicate 512 0:=by
 have hE:=Ds.Easy.new aa ab;obtain⟨q1,q2,q3⟩:=Zdl (f:=f) hE (fun x hx=>by cases hx) (by show (0:Nat)≤_;omega) (by omega) h1 h2 (by show 0+65536≤_;omega);refine⟨q3.more (by omega) (by omega),q1,q2,fun k hk=>?_⟩;rw [Zfe (f:=f) hE (fun x hx=>by cases hx) (by show (0:Nat)≤_;omega) (by omega) h1 h2 (by show 0+65536≤_;omega) (gs:=[]) (t:=[]) (fun g hg=>by cases hg) Zjl rfl k hk];exact Zmi n k hk
end Go.Proofs.YtpnlebpnhmibfaaGreat
