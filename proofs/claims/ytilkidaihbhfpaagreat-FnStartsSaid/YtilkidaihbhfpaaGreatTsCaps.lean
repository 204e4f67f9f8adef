import Derived.Test.YtilkidaihbhfpaaGreatTsL1
import Derived.Test.YtilkidaihbhfpaaGreatTsSW
import Derived.Test.YtilkidaihbhfpaaGreatTsP

set_option maxRecDepth 100000
set_option maxHeartbeats 16000000
namespace Go.Proofs.YtilkidaihbhfpaaGreat
open Go.RowKit
set_option linter.unusedVariables false
theorem zsj {w:World} {base size n:Nat} {e:TypeId} {v:Value} {xs:List Value} (h:w.ownsRow base e size v n xs) {a:Option Addr} {m c:Nat} (hv:v=.slice a m c):m≤c:=by
 rcases h.2 with ⟨e3,_⟩ | ⟨g,cap,cur,e3,_,_,hnc,_⟩
 ·rw [e3] at hv
  cases hv
  exact Nat.le_refl _
 ·rw [e3] at hv
  cases hv
  exact hnc
theorem OwnW.capWords {w:World} {base:Nat} {S:Y2} {D:WD} (h:OwnW w base S D):CapW (S.val D):=by
 intro c0 c1 a n c c3 c4 c5 c6 c7 c8 e
 exact zsj h.words (by simp [Y2.val] at e;exact e.2.2.1)
theorem OwnW.capGrey {w:World} {base:Nat} {S:Y2} {D:WD} (h:OwnW w base S D):CapG (S.val D):=by
 intro c0 c1 c2 c3 c4 c5 c6 c7 a n c e
 exact zsj h.grey (by simp [Y2.val] at e;exact e.2.2.2.2.2.2.2.2)
end Go.Proofs.YtilkidaihbhfpaaGreat
