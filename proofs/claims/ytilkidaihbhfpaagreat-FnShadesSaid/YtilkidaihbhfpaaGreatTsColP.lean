import Derived.Test.YtilkidaihbhfpaaGreatTsRR
import Derived.Test.YtilkidaihbhfpaaGreatTsSColour
import Derived.Test.YtilkidaihbhfpaaGreatTsSW
import Derived.Test.YtilkidaihbhfpaaGreatTsA
import Derived.Test.YtilkidaihbhfpaaGreatTsN

set_option maxRecDepth 100000
set_option maxHeartbeats 16000000
namespace Go.Proofs.YtilkidaihbhfpaaGreat
open Go.RowKit
set_option linter.unusedVariables false
theorem zlv.unique {D:WD} {a r r':Int} (h:zlv D a r) (h':zlv D a r'):r'=r:=by
 rcases h with ⟨n,rfl⟩ | ⟨hF,ho,h⟩ <;> rcases h' with ⟨n',rfl⟩ | ⟨hF',ho',h'⟩
 ·rfl
 ·exact absurd ⟨hF',ho'⟩ n
 ·exact absurd ⟨hF,ho⟩ n'
 ·rcases h with ⟨g,rfl⟩ | ⟨g,⟨m,rfl⟩ | ⟨m,rfl⟩⟩ <;> rcases h' with ⟨g',rfl⟩ | ⟨g',⟨m',rfl⟩ | ⟨m',rfl⟩⟩ <;> first | rfl | exact absurd g g' | exact absurd g' g | exact absurd m m' | exact absurd m' m
theorem V1.right {D E:WD} {a:Int} (hR:U0 D) (h:V1 D a E):U0 E:=by
 by_cases hp:D.phase=1∨D.phase=2
 ·exact (((Mid.of_right hR hp).more (Y:=a :: []) (by simp)).shade h).right
 ·rcases h with ⟨k,j,s,hp',_⟩ | ⟨_,rfl⟩
  ·exact absurd hp' hp
  ·exact hR
theorem V1.white {D E F:WD} {a:Int} (hR:U0 D) (h:V1 D a E) (hF:V1 E a F) (hp:D.phase=1∨D.phase=2) (hc:zlv D a 1):E.grey=D.grey ++ [a]∧F=E:=by
 rcases hc with ⟨_,e⟩ | ⟨hf,ho,⟨_,e⟩ | ⟨_,⟨_,e⟩ | ⟨hm,_⟩⟩⟩
 ·omega
 ·omega
 ·omega
 ·have e4:=h.rest.2.2.2.1
  have hmE:=h.marked hf hp ho
  have hfE:=h.form hf
  refine ⟨?_,?_⟩
  ·rcases h with ⟨k,j,s,_,_,_,_,rfl⟩ | ⟨hall,rfl⟩
   ·rfl
   ·obtain ⟨k,j,ho⟩:=ho
    exact absurd ⟨k,j,ho,hall hp k j ho⟩ hm
  ·rcases hF with ⟨k,j,s,_,ho',hs',hn,_⟩ | ⟨_,rfl⟩
   ·exact absurd ((V2.iff hs').1 ((V7.at_ hfE ho').1 hmE)) hn
   ·rfl
theorem V1.other {D E:WD} {a:Int} (hR:U0 D) (h:V1 D a E) (hn:¬ ((D.phase=1∨D.phase=2)∧zlv D a 1)):E=D:=by
 rcases h with ⟨k,j,s,hp,ho,hs,hm,_⟩ | ⟨_,rfl⟩
 ·refine absurd ⟨hp,.inr ⟨hR.1,⟨k,j,ho⟩,.inr ⟨fun hg=>?_,.inr ⟨fun h=>hm ((V2.iff hs).1 ((V7.at_ hR.1 ho).1 h)),rfl⟩⟩⟩⟩ hn
  exact hm ((V2.iff hs).1 ((V7.at_ hR.1 ho).1 (hR.2.1.1.2.2 a hg)))
 ·rfl
end Go.Proofs.YtilkidaihbhfpaaGreat
