/-
  The contract of the program's restIsZero: all words that no object has are 0.
-/
import Derived.Test.YtnmgecplagekcaaImplB
namespace Go.Proofs.Ytnmgecplagekcaa
open Go.RowKit
set_option linter.unusedVariables false

def RestZero (D : WD) : Prop := ∀ i : Nat, i < D.words.length → ¬ Used D i → D.words[i]?.getD 0 = 0

end Go.Proofs.Ytnmgecplagekcaa
