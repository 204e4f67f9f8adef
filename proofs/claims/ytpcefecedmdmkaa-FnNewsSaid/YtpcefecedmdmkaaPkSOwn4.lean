import Derived.Test.YtpcefecedmdmkaaPkV
import Derived.Deep.DeepCutAuto
import Derived.Deep.CutRange
import Derived.Outline

/-
  The contract of the model's l2own.
-/
namespace Go.Proofs.Ytpcefecedmdmkaa
open Go.RowKit
set_option linter.unusedVariables false
set_option linter.unusedSimpArgs false

theorem Chg.set1 {bs : List Nat} {w w' : World} (h : Chg bs w w') {b : Nat} (hb : b ∈ bs) (i : Nat) (v : Value) : Chg bs w (w'.setCell ⟨b, i, none⟩ v) :=
  h.trans (Chg.of_grown (grown_set w' b i v) (fun x hx => by cases hx; exact hb))

end Go.Proofs.Ytpcefecedmdmkaa
