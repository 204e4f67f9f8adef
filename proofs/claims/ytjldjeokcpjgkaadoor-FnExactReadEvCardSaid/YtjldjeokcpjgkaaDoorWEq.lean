/-
  The contracts of the laws' 'eq..' functions where both sides read alike: true.
-/
import Derived.Test.YtjldjeokcpjgkaaDoorWSize
import Derived.StillTailTactics
namespace Go.Proofs.YtjldjeokcpjgkaaDoor
open Go.RowKit
set_option linter.unusedVariables false

theorem below_drewN' {w : World} (n : Nat) : Below w.heap.size w (w.drewN n) := below_drewN (Below.refl _ _) n

end Go.Proofs.YtjldjeokcpjgkaaDoor
