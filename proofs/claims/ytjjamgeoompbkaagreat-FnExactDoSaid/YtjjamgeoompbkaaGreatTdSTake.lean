import Derived.Test.YtjjamgeoompbkaaGreatTdSPage

set_option maxRecDepth 100000
set_option maxHeartbeats 16000000
set_option linter.all false
namespace Go.Proofs.YtjjamgeoompbkaaGreat
open Go.RowKit
open Go.Proofs.Tryz
theorem zig{D:WD}{c:Int}{k:Nat}{s:Y7}(h:zmc D c k)(hs:D.spans[k]?=some s)(hf:s.cls=c→∀j,j<s.lens.length→s.lens[j]?.getD 0≠0):zmc D c (k+1):=by
 intro i t hi ht
 by_cases e:i=k
 ·subst e
  rw[hs]at ht
  cases ht
  exact hf
 ·exact h i t (by omega) ht
theorem zrm{L:List Y7}{k:Nat}(h:k≤L.length)(s:Y7):(L.take k++s::L.drop k)[k]?=some s:=by
 rw[List.getElem?_append_right (by rw[List.length_take];omega)];simp[Nat.min_eq_left h]
theorem zuo{D:WD}{c:Int}{k:Nat}(hF:Y5 D)(hc:sl' c≠0)(hk:k≤D.spans.length)(hp:(k:Int)≠D.pages):zex (insD D c k) (J4 D c k) 0:=by
 have h0:=zfj c;have h1:=hF.spans;have h2:((List.replicate (sl' c).toNat (0:Int)).length:Int)=sl' c:=by rw[List.length_replicate];omega
 exact⟨hc,h2,h2,by simp only[J4,List.length_replicate];omega,by simp only[J4];omega,by simp only[J4,insD];omega,hF.words,hF.dirty,hF.geo.2.2.2.2.1⟩
end Go.Proofs.YtjjamgeoompbkaaGreat
