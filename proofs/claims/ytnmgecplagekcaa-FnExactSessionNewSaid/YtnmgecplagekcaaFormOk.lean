/-
  The contract of the model's FormOk: has the World the form of a heap?
-/
import Derived.Test.YtnmgecplagekcaaUsed
namespace Go.Proofs.Ytnmgecplagekcaa
open Go.RowKit
set_option linter.unusedVariables false

structure HeapForm (D : WD) : Prop where
  geo : Geo D.base D.pages (D.muts.length : Int)
  words : (D.words.length : Int) = D.pages * 32
  dirty : (D.dirty.length : Int) = D.pages * 4
  spans : (D.spans.length : Int) ≤ D.pages
  ph0 : 0 ≤ D.phase
  ph1 : D.phase ≤ 4
  span : ∀ (k : Nat) (s : SpanD), D.spans[k]? = some s → SpanAt D k s
  zero : ∀ i : Nat, i < D.words.length → ¬ Used D i → D.words[i]?.getD 0 = 0
  roots : ∀ (k : Nat) (r : List Int), D.muts[k]? = some r → r.length = 6

end Go.Proofs.Ytnmgecplagekcaa
