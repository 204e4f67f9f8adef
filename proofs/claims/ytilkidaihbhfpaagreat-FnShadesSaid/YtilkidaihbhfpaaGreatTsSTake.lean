import Derived.Test.YtilkidaihbhfpaaGreatTsSPage

set_option maxRecDepth 100000
set_option maxHeartbeats 16000000
namespace Go.Proofs.YtilkidaihbhfpaaGreat
open Go.RowKit
set_option linter.unusedVariables false
theorem zno {D:WD} {c:Int} {k:Nat} {s:Y3} (h:zoc D c k) (hs:D.spans[k]?=some s) (hf:s.cls=c→∀ j,j<s.lens.length→s.lens[j]?.getD 0≠0):zoc D c (k+1):=by
 intro i t hi ht
 by_cases e:i=k
 ·subst e
  rw [hs] at ht
  cases ht
  exact hf
 ·exact h i t (by omega) ht
theorem zua {L:List Y3} {k:Nat} (h:k≤L.length) (s:Y3):(L.take k ++ s :: L.drop k)[k]?=some s:=by
 rw [List.getElem?_append_right (by rw [List.length_take];omega)]
 simp [Nat.min_eq_left h]
theorem fresh_in {D:WD} {c:Int} {k:Nat} (hF:Z8 D) (hc:sl' c≠0) (hk:k≤D.spans.length) (hp:(k:Int)≠D.pages):zev (insD D c k) (F3 D c k) 0:=by
 have h0:=E7 c
 have h1:=hF.spans
 have h2:((List.replicate (sl' c).toNat (0:Int)).length:Int)=sl' c:=by rw [List.length_replicate];omega
 exact ⟨hc,h2,h2,by simp only [F3,List.length_replicate];omega,by simp only [F3];omega,by simp only [F3,insD];omega,hF.words,hF.dirty,hF.geo.2.2.2.2.1⟩
end Go.Proofs.YtilkidaihbhfpaaGreat
