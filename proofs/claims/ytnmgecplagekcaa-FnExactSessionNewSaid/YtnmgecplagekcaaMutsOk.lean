/-
  The contract of the program's mutsOk.
-/
import Derived.Test.YtnmgecplagekcaaIsIn
import Derived.Test.YtnmgecplagekcaaIsB
import Derived.StillTailTactics
namespace Go.Proofs.Ytnmgecplagekcaa
open Go.RowKit
set_option linter.unusedVariables false

/-- The lists of roots are as they should be. -/
def MutsForm (L : List (List Int)) : Prop := 1 ≤ L.length ∧ L.length ≤ 3 ∧ ∀ (j : Nat) (r : List Int), L[j]? = some r → r.length = 6
end Go.Proofs.Ytnmgecplagekcaa
